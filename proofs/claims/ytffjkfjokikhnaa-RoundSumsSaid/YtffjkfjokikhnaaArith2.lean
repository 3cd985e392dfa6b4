/-
  Plain facts on a list that is filled digit by digit, upward or downward, inside a greater one; no Go and no program is named here. No conditions.
-/
import Derived.Test.YtffjkfjokikhnaaNums
namespace Go.Proofs.Ytffjkfjokikhnaa
namespace Nb
theorem set_mid (pre zs post : List Nat) {k : Nat} (v : Nat) (hk : k < zs.length) : (pre ++ (zs ++ post)).set (pre.length + k) v = pre ++ (zs.set k v ++ post) := by
  rw [List.set_append_right _ _ (by omega), Nat.add_sub_cancel_left, List.set_append_left _ _ hk]
theorem get_mid (pre zs post : List Nat) {k : Nat} (hk : k < zs.length) (h : pre.length + k < (pre ++ (zs ++ post)).length) : (pre ++ (zs ++ post))[pre.length + k] = zs[k] := by
  rw [List.getElem_append_right (by omega)]
  simp only [Nat.add_sub_cancel_left]
  rw [List.getElem_append_left hk]
theorem fill_get (ds zs : List Nat) {k : Nat} (hl : ds.length = k) (hk : k < zs.length) (h : k < (ds ++ zs.drop k).length) : (ds ++ zs.drop k)[k] = zs[k] := by
  rw [List.getElem_append_right (by omega)]
  simp [hl]
theorem fill_put (ds zs : List Nat) {k : Nat} (v : Nat) (hl : ds.length = k) (hk : k < zs.length) : (ds ++ zs.drop k).set k v = (ds ++ [v]) ++ zs.drop (k + 1) := by
  rw [List.drop_eq_getElem_cons hk, List.set_append_right _ _ (by omega), hl, Nat.sub_self, List.set_cons_zero, List.append_assoc]; rfl
theorem fill_length (ds zs : List Nat) {k : Nat} (hl : ds.length = k) (hk : k ≤ zs.length) : (ds ++ zs.drop k).length = zs.length := by simp; omega
/-- Downward: what is above k is filled. -/
theorem down_get (zs qs : List Nat) {k : Nat} (hk : k < zs.length) (h : k < (zs.take (k + 1) ++ qs).length) : (zs.take (k + 1) ++ qs)[k] = zs[k] := by
  rw [List.getElem_append_left (by simp; omega)]; simp
theorem down_put (zs qs : List Nat) {k : Nat} (v : Nat) (hk : k < zs.length) : (zs.take (k + 1) ++ qs).set k v = zs.take k ++ (v :: qs) := by
  rw [take_succ' hk, List.append_assoc, List.set_append_right _ _ (by simp; omega), List.length_take, Nat.min_eq_left (by omega), Nat.sub_self]; rfl
/-- One digit more. -/
theorem step_up {B k c c' v t T : Nat} {ds : List Nat} (h : val B ds + B ^ k * c = T) (hl : ds.length = k) (hv : v + B * c' = t + c) : val B (ds ++ [v]) + B ^ (k + 1) * c' = T + B ^ k * t := by
  rw [val_snoc, hl, Nat.pow_succ]
  have h2 : B ^ k * (v + B * c') = B ^ k * (t + c) := by rw [hv]
  rw [Nat.mul_add, Nat.mul_add, ← Nat.mul_assoc] at h2
  omega
/-- One digit more of a difference. -/
theorem step_sub {B k c c' v x y X Y : Nat} {ds : List Nat} (h : val B ds + Y = X + B ^ k * c) (hl : ds.length = k) (hv : v + y + c = x + B * c') : val B (ds ++ [v]) + (Y + B ^ k * y) = X + B ^ k * x + B ^ (k + 1) * c' := by
  rw [val_snoc, hl, Nat.pow_succ]
  have h2 : B ^ k * (v + y + c) = B ^ k * (x + B * c') := by rw [hv]
  rw [Nat.mul_add, Nat.mul_add, Nat.mul_add, ← Nat.mul_assoc] at h2
  omega
/-- One digit more of a quotient, from the top. -/
theorem step_quo {B w r r' x q X : Nat} {qs : List Nat} (h : val B qs * w + r = X) (hv : q * w + r' = r * B + x) : val B (q :: qs) * w + r' = x + B * X := by
  rw [val_cons, Nat.add_mul, ← h, Nat.mul_add, Nat.mul_assoc, Nat.mul_comm B r]
  omega
theorem val_drop_pred (B : Nat) {xs : List Nat} {k : Nat} (hk : k < xs.length) : val B (xs.drop k) = xs[k] + B * val B (xs.drop (k + 1)) := by
  rw [List.drop_eq_getElem_cons hk, val_cons]
theorem dig_cons {B x : Nat} {xs : List Nat} (h : x < B) (hd : Dig B xs) : Dig B (x :: xs) := by
  intro y hy; rcases List.mem_cons.1 hy with rfl | hy
  · exact h
  · exact hd y hy
theorem dig_snoc {B x : Nat} {xs : List Nat} (hd : Dig B xs) (h : x < B) : Dig B (xs ++ [x]) := hd.append (Dig.one h)
theorem dig_left {B : Nat} {xs ys : List Nat} (h : Dig B (xs ++ ys)) : Dig B xs := fun x hx => h x (List.mem_append_left _ hx)
theorem dig_right {B : Nat} {xs ys : List Nat} (h : Dig B (xs ++ ys)) : Dig B ys := fun x hx => h x (List.mem_append_right _ hx)
/-- A carry that has nowhere to go is none. -/
theorem carry_zero {B n c v T : Nat} (h : v + B ^ n * c = T) (hT : T < B ^ n) : c = 0 := by
  rcases Nat.eq_zero_or_pos c with h0 | h0
  · exact h0
  · have := Nat.mul_le_mul_left (B ^ n) h0
    rw [Nat.mul_one] at this
    omega
/-- Digits of a product and what is added: the carry is a digit. -/
theorem mul_carry {K x w z c e d : Nat} (hx : x < K) (hw : w < K) (hz : z < K) (hc : c < K) (h : d + K * e = x * w + z + c) : e < K := by
  have h1 : x * w ≤ (K - 1) * (K - 1) := Nat.mul_le_mul (by omega) (by omega)
  obtain ⟨m, rfl⟩ : ∃ m, K = m + 1 := ⟨K - 1, by omega⟩
  simp only [Nat.add_sub_cancel] at h1
  rcases Nat.lt_or_ge e (m + 1) with h2 | h2
  · exact h2
  · have h3 : (m + 1) * (m + 1) ≤ (m + 1) * e := Nat.mul_le_mul_left _ h2
    have h4 : (m + 1) * (m + 1) = m * m + m + m + 1 := by grind
    omega
/-- The length is that of the number. -/
theorem len_pow {B : Nat} (hB : 1 < B) {xs : List Nat} (hn : Norm xs) {n : Nat} (h : val B xs < B ^ n) : xs.length ≤ n := by
  rcases Nat.eq_zero_or_pos xs.length with h0 | h0
  · omega
  · have h1 := norm_ge (B := B) hn h0
    have h2 : B ^ (xs.length - 1) < B ^ n := by omega
    have := (Nat.pow_lt_pow_iff_right hB).1 h2
    omega
end Nb
end Go.Proofs.Ytffjkfjokikhnaa
