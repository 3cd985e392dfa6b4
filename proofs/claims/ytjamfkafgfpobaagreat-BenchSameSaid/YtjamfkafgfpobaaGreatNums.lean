/-
  Digits and what they are worth, carries, divisions; fractions as rationals. No conditions.
-/
import Derived.WalkKit
import Derived.Lib.ItoaNum
/-! ### Nums -/
namespace Go.Proofs.YtjamfkafgfpobaaGreat
namespace Nb
/-- The number that digits tell, the lowest first. -/
def val (B : Nat) : List Nat → Nat
  | [] => 0
  | x :: xs => x + B * val B xs
def Dig (B : Nat) (xs : List Nat) : Prop := ∀ x ∈ xs, x < B
/-- No nought at the end. -/
def Norm (xs : List Nat) : Prop := ∀ h : xs ≠ [], xs.getLast h ≠ 0
theorem val_nil (B : Nat) : val B [] = 0 := rfl
theorem val_cons (B x : Nat) (xs : List Nat) : val B (x :: xs) = x + B * val B xs := rfl
theorem val_append (B : Nat) (xs ys : List Nat) : val B (xs ++ ys) = val B xs + B ^ xs.length * val B ys := by
  induction xs with
  | nil => simp [val]
  | cons x xs ih => simp [val, ih, Nat.pow_succ]; grind
theorem val_snoc (B : Nat) (xs : List Nat) (x : Nat) : val B (xs ++ [x]) = val B xs + B ^ xs.length * x := by
  rw [val_append]; simp [val]
theorem Dig.nil (B : Nat) : Dig B [] := by intro x h; simp at h
theorem Dig.append {B : Nat} {xs ys : List Nat} (h : Dig B xs) (k : Dig B ys) : Dig B (xs ++ ys) := by
  intro x hx; rcases List.mem_append.1 hx with a | a
  · exact h x a
  · exact k x a
theorem Dig.take {B : Nat} {xs : List Nat} (h : Dig B xs) (n : Nat) : Dig B (xs.take n) := fun x hx => h x (List.mem_of_mem_take hx)
theorem Dig.drop {B : Nat} {xs : List Nat} (h : Dig B xs) (n : Nat) : Dig B (xs.drop n) := fun x hx => h x (List.mem_of_mem_drop hx)
theorem Dig.one {B x : Nat} (h : x < B) : Dig B [x] := by intro y hy; simp at hy; omega
theorem Dig.get {B : Nat} {xs : List Nat} (h : Dig B xs) {k : Nat} (hk : k < xs.length) : xs[k] < B := h _ (List.getElem_mem hk)
theorem Dig.getD {B : Nat} {xs : List Nat} (h : Dig B xs) (hB : 0 < B) (k : Nat) : xs.getD k 0 < B := by
  rw [List.getD_eq_getElem?_getD]
  by_cases hk : k < xs.length
  · rw [List.getElem?_eq_getElem hk]; exact h.get hk
  · rw [List.getElem?_eq_none (by omega)]; exact hB
theorem Dig.replicate {B : Nat} (hB : 0 < B) (n : Nat) : Dig B (List.replicate n 0) := by
  intro x hx; have := (List.mem_replicate.1 hx).2; omega
theorem val_replicate (B n : Nat) : val B (List.replicate n 0) = 0 := by
  induction n with
  | zero => rfl
  | succ n ih => rw [List.replicate_succ, val_cons, ih]; simp
theorem val_lt {B : Nat} {xs : List Nat} (h : Dig B xs) : val B xs < B ^ xs.length := by
  induction xs with
  | nil => simp [val]
  | cons x xs ih =>
    have h1 := ih (fun y hy => h y (List.mem_cons_of_mem _ hy))
    have h2 := h x (List.mem_cons_self)
    have h3 : B * (val B xs + 1) ≤ B * B ^ xs.length := Nat.mul_le_mul_left _ h1
    rw [val_cons, List.length_cons, Nat.pow_succ]
    rw [Nat.mul_add, Nat.mul_comm B (B ^ _)] at h3
    omega
theorem take_succ' {xs : List Nat} {k : Nat} (hk : k < xs.length) : xs.take (k + 1) = xs.take k ++ [xs[k]] := by
  rw [List.take_succ_eq_append_getElem hk]
theorem val_take_succ (B : Nat) {xs : List Nat} {k : Nat} (hk : k < xs.length) : val B (xs.take (k + 1)) = val B (xs.take k) + B ^ k * xs[k] := by
  rw [take_succ' hk, val_snoc, List.length_take, Nat.min_eq_left (by omega)]
theorem val_take_drop (B : Nat) (xs : List Nat) (k : Nat) (hk : k ≤ xs.length) : val B xs = val B (xs.take k) + B ^ k * val B (xs.drop k) := by
  have h := val_append B (xs.take k) (xs.drop k)
  rw [List.take_append_drop, List.length_take, Nat.min_eq_left hk] at h
  exact h
theorem val_inj {B : Nat} : ∀ {xs ys : List Nat}, Dig B xs → Dig B ys → xs.length = ys.length → val B xs = val B ys → xs = ys
  | [], [], _, _, _, _ => rfl
  | [], _ :: _, _, _, h, _ => by simp at h
  | _ :: _, [], _, _, h, _ => by simp at h
  | x :: xs, y :: ys, hx, hy, hl, hv => by
    rw [val_cons, val_cons] at hv
    have h1 := hx x (List.mem_cons_self)
    have h2 := hy y (List.mem_cons_self)
    have h3 : (x + B * val B xs) % B = (y + B * val B ys) % B := by rw [hv]
    rw [Nat.add_mul_mod_self_left, Nat.add_mul_mod_self_left, Nat.mod_eq_of_lt h1, Nat.mod_eq_of_lt h2] at h3
    subst h3
    have h4 : val B xs = val B ys := Nat.eq_of_mul_eq_mul_left (by omega) (by omega : B * val B xs = B * val B ys)
    rw [val_inj (fun z hz => hx z (List.mem_cons_of_mem _ hz)) (fun z hz => hy z (List.mem_cons_of_mem _ hz)) (by simpa using hl) h4]
theorem Norm.nil : Norm [] := fun h => absurd rfl h
theorem norm_iff {xs : List Nat} (hl : 0 < xs.length) : Norm xs ↔ xs[xs.length - 1]'(by omega) ≠ 0 := by
  have hne : xs ≠ [] := by intro e; subst e; simp at hl
  constructor
  · intro h; have := h hne; rwa [List.getLast_eq_getElem] at this
  · intro h _; rwa [List.getLast_eq_getElem]
theorem norm_ge {B : Nat} {xs : List Nat} (hn : Norm xs) (hl : 0 < xs.length) : B ^ (xs.length - 1) ≤ val B xs := by
  have hne : xs ≠ [] := by intro e; subst e; simp at hl
  have h1 := hn hne
  have h2 := val_snoc B xs.dropLast (xs.getLast hne)
  rw [List.dropLast_concat_getLast, List.length_dropLast] at h2
  rw [h2]
  have h3 : B ^ (xs.length - 1) * 1 ≤ B ^ (xs.length - 1) * xs.getLast hne := Nat.mul_le_mul_left _ (by omega)
  omega
theorem norm_len_le {B : Nat} (hB : 1 < B) {xs ys : List Nat} (hn : Norm xs) (hy : Dig B ys) (h : val B xs ≤ val B ys) : xs.length ≤ ys.length := by
  rcases Nat.eq_zero_or_pos xs.length with h0 | h0
  · omega
  · have h1 := norm_ge (B := B) hn h0
    have h2 := val_lt hy
    have h3 : B ^ (xs.length - 1) < B ^ ys.length := by omega
    have := (Nat.pow_lt_pow_iff_right hB).1 h3
    omega
theorem norm_inj {B : Nat} (hB : 1 < B) {xs ys : List Nat} (hx : Dig B xs) (hy : Dig B ys) (nx : Norm xs) (ny : Norm ys) (h : val B xs = val B ys) : xs = ys :=
  val_inj hx hy (by have := norm_len_le hB nx hy (by omega); have := norm_len_le hB ny hx (by omega); omega) h
theorem norm_zero {B : Nat} (hB : 0 < B) {xs : List Nat} (hn : Norm xs) : val B xs = 0 ↔ xs = [] := by
  constructor
  · intro h
    rcases Nat.eq_zero_or_pos xs.length with h0 | h0
    · exact List.eq_nil_of_length_eq_zero h0
    · have h1 := norm_ge (B := B) hn h0
      have := Nat.pow_pos (n := xs.length - 1) hB
      omega
  · intro h; subst h; rfl
theorem cmp_len {B : Nat} (hB : 1 < B) {xs ys : List Nat} (hx : Dig B xs) (ny : Norm ys) (h : xs.length < ys.length) : val B xs < val B ys := by
  have h1 := val_lt hx
  have h2 := norm_ge (B := B) ny (by omega)
  have h3 : B ^ xs.length ≤ B ^ (ys.length - 1) := Nat.pow_le_pow_right (by omega) (by omega)
  omega
theorem cmp_dig {B : Nat} {xs ys : List Nat} (hx : Dig B xs) (_hy : Dig B ys) {k : Nat} (hk : k < xs.length) (hk' : k < ys.length) (hd : xs[k] < ys[k]) :
    val B (xs.take (k + 1)) < val B (ys.take (k + 1)) := by
  rw [val_take_succ B hk, val_take_succ B hk']
  have h1 := val_lt (hx.take k)
  rw [List.length_take, Nat.min_eq_left (by omega)] at h1
  have h3 : B ^ k * (xs[k] + 1) ≤ B ^ k * ys[k] := Nat.mul_le_mul_left _ hd
  rw [Nat.mul_add] at h3
  omega
theorem val_top {B : Nat} {xs ys : List Nat} (hl : xs.length = ys.length) {k : Nat} (hk : k ≤ xs.length) (ht : xs.drop k = ys.drop k) (h : val B (xs.take k) < val B (ys.take k)) : val B xs < val B ys := by
  rw [val_take_drop B xs k hk, val_take_drop B ys k (by omega), ht]; omega
theorem or_lt {a b : Nat} (ha : a < 18446744073709551616) (hb : b < 18446744073709551616) : (a ||| b) < 18446744073709551616 := Nat.or_lt_two_pow (n := 64) ha hb
/-- Long division by a second digit. -/
theorem long_quo (a b B y : Nat) (hy : 0 < y) : (a * B + b) / y = a / y * B + (a % y * B + b) / y := by
  have h := Nat.div_add_mod a y
  have e : a * B + b = y * (a / y * B) + (a % y * B + b) := by
    calc a * B + b = (y * (a / y) + a % y) * B + b := by rw [h]
      _ = y * (a / y * B) + (a % y * B + b) := by rw [Nat.add_mul, Nat.mul_assoc]; omega
  rw [e, Nat.mul_add_div hy]
theorem long_rem (a b B y : Nat) : (a * B + b) % y = (a % y * B + b) % y := by
  have h := Nat.div_add_mod a y
  have e : a * B + b = y * (a / y * B) + (a % y * B + b) := by
    calc a * B + b = (y * (a / y) + a % y) * B + b := by rw [h]
      _ = y * (a / y * B) + (a % y * B + b) := by rw [Nat.add_mul, Nat.mul_assoc]; omega
  rw [e, Nat.mul_add_mod]
/-- The state of the guess's loop: q times the high part and the rest are the number; q is not below the true quotient. -/
structure Gs (K u v y1 y0 q r : Nat) : Prop where
  eq : q * y1 + r = u
  ge : (u * K + v) / (y1 * K + y0) ≤ q
theorem Gs.start {K u v y1 y0 : Nat} (h1 : 0 < y1) (hv : v < K) : Gs K u v y1 y0 (u / y1) (u % y1) := by
  refine ⟨by rw [Nat.mul_comm]; exact Nat.div_add_mod u y1, ?_⟩
  have hK : 0 < K := by omega
  have h2 : (u * K + v) / (y1 * K + y0) ≤ (u * K + v) / (y1 * K) :=
    Nat.div_le_div_left (by omega) (Nat.mul_pos h1 hK)
  have h3 : (u * K + v) / (y1 * K) = u / y1 := by
    rw [Nat.mul_comm y1, ← Nat.div_div_eq_div_mul]
    congr 1
    rw [Nat.mul_comm, Nat.mul_add_div hK, Nat.div_eq_of_lt hv]; rfl
  omega
/-- Too great: one less. -/
theorem Gs.less {K u v y1 y0 q r : Nat} (g : Gs K u v y1 y0 q r) (hq : 0 < q) (hlt : (u * K + v) / (y1 * K + y0) < q) : Gs K u v y1 y0 (q - 1) (r + y1) := by
  refine ⟨?_, by omega⟩
  have h := g.eq
  obtain ⟨k, rfl⟩ : ∃ k, q = k + 1 := ⟨q - 1, by omega⟩
  rw [Nat.add_mul] at h
  simp only [Nat.add_sub_cancel]
  omega
theorem Gs.times {K u v y1 y0 q r : Nat} (g : Gs K u v y1 y0 q r) : q * (y1 * K + y0) + r * K = u * K + q * y0 := by
  have h := g.eq
  rw [← h, Nat.mul_add, ← Nat.mul_assoc, Nat.add_mul]; omega
theorem Gs.big {K u v y1 y0 q r : Nat} (g : Gs K u v y1 y0 q r) (h1 : 0 < y1 * K) (h : r * K + v < q * y0) : (u * K + v) / (y1 * K + y0) < q := by
  have t := g.times
  refine (Nat.div_lt_iff_lt_mul (by omega)).2 ?_
  omega
theorem Gs.done {K u v y1 y0 q r : Nat} (g : Gs K u v y1 y0 q r) (h1 : 0 < y1 * K) (h : q * y0 ≤ r * K + v) : q = (u * K + v) / (y1 * K + y0) := by
  have t := g.times
  have : q ≤ (u * K + v) / (y1 * K + y0) := (Nat.le_div_iff_mul_le (by omega)).2 (by omega)
  have := g.ge
  omega
theorem quo_lt {K u v y : Nat} (hu : u < y) (hv : v < K) : (u * K + v) / y < K := by
  refine (Nat.div_lt_iff_lt_mul (by omega)).2 ?_
  have h := Nat.mul_le_mul_right K hu
  rw [Nat.succ_mul, Nat.mul_comm y] at h
  omega
/-! ### Two limbs a word -/
/-- n words of the limbs that f tells. -/
def packG (f : Nat → Nat) (n : Nat) : List Nat := (List.range n).map fun m => f (2 * m) + 4294967296 * f (2 * m + 1)
theorem packG_length (f : Nat → Nat) (n : Nat) : (packG f n).length = n := by simp [packG]
theorem packG_get (f : Nat → Nat) (n m : Nat) (h : m < (packG f n).length) : (packG f n)[m] = f (2 * m) + 4294967296 * f (2 * m + 1) := by simp [packG]
theorem val_packG (f : Nat → Nat) (n : Nat) : val 18446744073709551616 (packG f n) = val 4294967296 ((List.range (2 * n)).map f) := by
  induction n with
  | zero => rfl
  | succ n ih =>
    have e : 2 * (n + 1) = 2 * n + 1 + 1 := by omega
    rw [e, List.range_succ, List.map_append, List.range_succ, List.map_append]
    simp only [List.map_cons, List.map_nil]
    rw [val_snoc, val_snoc, ← ih]
    unfold packG
    rw [List.range_succ, List.map_append]
    simp only [List.map_cons, List.map_nil]
    rw [val_snoc]
    simp only [List.length_append, List.length_map, List.length_range, List.length_cons, List.length_nil]
    rw [show (18446744073709551616 : Nat) = 4294967296 ^ 2 from by decide, ← Nat.pow_mul, Nat.zero_add, Nat.pow_succ 4294967296 (2 * n), Nat.mul_add, Nat.mul_assoc, Nat.add_assoc]
theorem val_getD (ls : List Nat) (n : Nat) (h : ls.length ≤ n) : val 4294967296 ((List.range n).map fun i => ls.getD i 0) = val 4294967296 ls := by
  induction n with
  | zero => have : ls = [] := List.eq_nil_of_length_eq_zero (by omega); subst this; rfl
  | succ n ih =>
    rw [List.range_succ, List.map_append]
    simp only [List.map_cons, List.map_nil]
    rw [val_snoc]
    by_cases hn : ls.length ≤ n
    · rw [ih hn, List.getD_eq_getElem?_getD, List.getElem?_eq_none hn]; simp
    · have hl : ls.length = n + 1 := by omega
      have e : ((List.range n).map fun i => ls.getD i 0) = ls.take n := by
        apply List.ext_getElem
        · simp; omega
        · intro i h1 h2
          simp at h1 h2
          simp [List.getElem?_eq_getElem (show i < ls.length by omega)]
      rw [e]
      have h3 := val_take_succ 4294967296 (xs := ls) (k := n) (by omega)
      rw [← hl, List.take_length] at h3
      rw [h3, List.getD_eq_getElem?_getD, List.getElem?_eq_getElem (by omega)]
      simp only [List.length_take, Option.getD_some]
      rw [Nat.min_eq_left (by omega)]
def pack (ls : List Nat) : List Nat := packG (fun i => ls.getD i 0) ((ls.length + 1) / 2)
theorem pack_length (ls : List Nat) : (pack ls).length = (ls.length + 1) / 2 := packG_length _ _
theorem val_pack (ls : List Nat) : val 18446744073709551616 (pack ls) = val 4294967296 ls := by
  rw [pack, val_packG, val_getD _ _ (by omega)]
theorem dig_pack {ls : List Nat} (h : Dig 4294967296 ls) : Dig 18446744073709551616 (pack ls) := by
  intro x hx
  simp only [pack, packG, List.mem_map] at hx
  obtain ⟨m, _, rfl⟩ := hx
  have h1 := h.getD (by decide) (2 * m)
  have h2 := h.getD (by decide) (2 * m + 1)
  omega
theorem norm_pack {ls : List Nat} (h : Norm ls) : Norm (pack ls) := by
  rcases Nat.eq_zero_or_pos ls.length with h0 | h0
  · have : ls = [] := List.eq_nil_of_length_eq_zero h0
    subst this; exact Norm.nil
  · have hl := pack_length ls
    have hz := (norm_iff h0).1 h
    rw [norm_iff (by omega)]
    simp only [pack, packG_get]
    rcases Nat.mod_two_eq_zero_or_one ls.length with h2 | h2
    · have e : 2 * ((packG (fun i => ls.getD i 0) ((ls.length + 1) / 2)).length - 1) + 1 = ls.length - 1 := by rw [packG_length]; omega
      rw [e, List.getD_eq_getElem?_getD (l := ls) (i := ls.length - 1), List.getElem?_eq_getElem (by omega)]
      simp only [Option.getD_some]; omega
    · have e : 2 * ((packG (fun i => ls.getD i 0) ((ls.length + 1) / 2)).length - 1) = ls.length - 1 := by rw [packG_length]; omega
      rw [e, List.getD_eq_getElem?_getD (l := ls) (i := ls.length - 1), List.getElem?_eq_getElem (by omega)]
      simp only [Option.getD_some]; omega
/-- The limbs below k alone. -/
def upto (ls : List Nat) (k i : Nat) : Nat := if i < k then ls.getD i 0 else 0
theorem upto_all (ls : List Nat) : upto ls ls.length = fun i => ls.getD i 0 := by
  funext i
  unfold upto
  split
  · rfl
  · rw [List.getD_eq_getElem?_getD, List.getElem?_eq_none (by omega)]; rfl
theorem packG_zero (ls : List Nat) (n : Nat) : packG (upto ls 0) n = List.replicate n 0 := by
  unfold packG upto
  induction n with
  | zero => rfl
  | succ n ih => rw [List.range_succ, List.map_append, List.replicate_succ', ← ih]; simp
/-- One limb more: the word in which it lies. -/
theorem packG_even (ls : List Nat) {k n : Nat} (hk : k < ls.length) (hn : k / 2 < n) (he : k % 2 = 0) :
    packG (upto ls (k + 1)) n = (packG (upto ls k) n).set (k / 2) ls[k] ∧ (packG (upto ls k) n)[k / 2]'(by rw [packG_length]; exact hn) = 0 := by
  have hg : ls.getD k 0 = ls[k] := by rw [List.getD_eq_getElem?_getD, List.getElem?_eq_getElem hk]; rfl
  constructor
  · apply List.ext_getElem
    · simp [packG]
    · intro i h1 h2
      rw [packG_length] at h1
      rw [List.getElem_set, packG_get, packG_get]
      by_cases hi : k / 2 = i
      · subst hi
        rw [if_pos rfl]
        unfold upto
        rw [if_pos (by omega), if_neg (by omega), show 2 * (k / 2) = k by omega, hg]; omega
      · rw [if_neg hi]
        unfold upto
        by_cases h3 : 2 * i < k
        · rw [if_pos (by omega), if_pos h3, if_pos (by omega), if_pos (by omega)]
        · rw [if_neg (by omega), if_neg (by omega), if_neg (by omega), if_neg (by omega)]
  · rw [packG_get]; unfold upto
    rw [if_neg (by omega), if_neg (by omega)]
theorem packG_odd (ls : List Nat) {k n : Nat} (hk : k < ls.length) (hn : k / 2 < n) (he : k % 2 = 1) :
    packG (upto ls (k + 1)) n = (packG (upto ls k) n).set (k / 2) (ls[k - 1] + 4294967296 * ls[k]) ∧ (packG (upto ls k) n)[k / 2]'(by rw [packG_length]; exact hn) = ls[k - 1] := by
  have hg : ls.getD k 0 = ls[k] := by rw [List.getD_eq_getElem?_getD, List.getElem?_eq_getElem hk]; rfl
  have hg' : ls.getD (k - 1) 0 = ls[k - 1] := by rw [List.getD_eq_getElem?_getD, List.getElem?_eq_getElem (by omega)]; rfl
  constructor
  · apply List.ext_getElem
    · simp [packG]
    · intro i h1 h2
      rw [packG_length] at h1
      rw [List.getElem_set, packG_get, packG_get]
      by_cases hi : k / 2 = i
      · subst hi
        rw [if_pos rfl]
        unfold upto
        rw [if_pos (by omega), if_pos (by omega), show 2 * (k / 2) = k - 1 by omega, show k - 1 + 1 = k by omega, hg, hg']
      · rw [if_neg hi]
        unfold upto
        by_cases h3 : 2 * i + 1 < k
        · rw [if_pos (by omega), if_pos (by omega), if_pos (by omega), if_pos (by omega)]
        · rw [if_neg (by omega), if_neg (by omega), if_neg (by omega), if_neg (by omega)]
  · rw [packG_get]; unfold upto
    rw [if_pos (by omega), if_neg (by omega), show 2 * (k / 2) = k - 1 by omega, hg']; omega
end Nb
end Go.Proofs.YtjamfkafgfpobaaGreat
/-! ### Arith2 -/
namespace Go.Proofs.YtjamfkafgfpobaaGreat
namespace Nb
theorem set_mid (pre zs post : List Nat) {k : Nat} (v : Nat) (hk : k < zs.length) : (pre ++ (zs ++ post)).set (pre.length + k) v = pre ++ (zs.set k v ++ post) := by
  rw [List.set_append_right _ _ (by omega), Nat.add_sub_cancel_left, List.set_append_left _ _ hk]
theorem get_mid (pre zs post : List Nat) {k : Nat} (hk : k < zs.length) (h : pre.length + k < (pre ++ (zs ++ post)).length) : (pre ++ (zs ++ post))[pre.length + k] = zs[k] := by
  rw [List.getElem_append_right (by omega)]
  simp only [Nat.add_sub_cancel_left]
  rw [List.getElem_append_left hk]
theorem fill_get (ds zs : List Nat) {k : Nat} (hl : ds.length = k) (hk : k < zs.length) (h : k < (ds ++ zs.drop k).length) : (ds ++ zs.drop k)[k] = zs[k] := by
  rw [List.getElem_append_right (by omega)]
  simp [hl]
theorem fill_put (ds zs : List Nat) {k : Nat} (v : Nat) (hl : ds.length = k) (hk : k < zs.length) : (ds ++ zs.drop k).set k v = (ds ++ [v]) ++ zs.drop (k + 1) := by
  rw [List.drop_eq_getElem_cons hk, List.set_append_right _ _ (by omega), hl, Nat.sub_self, List.set_cons_zero, List.append_assoc]; rfl
theorem fill_length (ds zs : List Nat) {k : Nat} (hl : ds.length = k) (hk : k ≤ zs.length) : (ds ++ zs.drop k).length = zs.length := by simp; omega
/-- Downward: what is above k is filled. -/
theorem down_get (zs qs : List Nat) {k : Nat} (hk : k < zs.length) (h : k < (zs.take (k + 1) ++ qs).length) : (zs.take (k + 1) ++ qs)[k] = zs[k] := by
  rw [List.getElem_append_left (by simp; omega)]; simp
theorem down_put (zs qs : List Nat) {k : Nat} (v : Nat) (hk : k < zs.length) : (zs.take (k + 1) ++ qs).set k v = zs.take k ++ (v :: qs) := by
  rw [take_succ' hk, List.append_assoc, List.set_append_right _ _ (by simp; omega), List.length_take, Nat.min_eq_left (by omega), Nat.sub_self]; rfl
/-- One digit more. -/
theorem step_up {B k c c' v t T : Nat} {ds : List Nat} (h : val B ds + B ^ k * c = T) (hl : ds.length = k) (hv : v + B * c' = t + c) : val B (ds ++ [v]) + B ^ (k + 1) * c' = T + B ^ k * t := by
  rw [val_snoc, hl, Nat.pow_succ]
  have h2 : B ^ k * (v + B * c') = B ^ k * (t + c) := by rw [hv]
  rw [Nat.mul_add, Nat.mul_add, ← Nat.mul_assoc] at h2
  omega
/-- One digit more of a difference. -/
theorem step_sub {B k c c' v x y X Y : Nat} {ds : List Nat} (h : val B ds + Y = X + B ^ k * c) (hl : ds.length = k) (hv : v + y + c = x + B * c') : val B (ds ++ [v]) + (Y + B ^ k * y) = X + B ^ k * x + B ^ (k + 1) * c' := by
  rw [val_snoc, hl, Nat.pow_succ]
  have h2 : B ^ k * (v + y + c) = B ^ k * (x + B * c') := by rw [hv]
  rw [Nat.mul_add, Nat.mul_add, Nat.mul_add, ← Nat.mul_assoc] at h2
  omega
/-- One digit more of a quotient, from the top. -/
theorem step_quo {B w r r' x q X : Nat} {qs : List Nat} (h : val B qs * w + r = X) (hv : q * w + r' = r * B + x) : val B (q :: qs) * w + r' = x + B * X := by
  rw [val_cons, Nat.add_mul, ← h, Nat.mul_add, Nat.mul_assoc, Nat.mul_comm B r]
  omega
theorem val_drop_pred (B : Nat) {xs : List Nat} {k : Nat} (hk : k < xs.length) : val B (xs.drop k) = xs[k] + B * val B (xs.drop (k + 1)) := by
  rw [List.drop_eq_getElem_cons hk, val_cons]
theorem dig_cons {B x : Nat} {xs : List Nat} (h : x < B) (hd : Dig B xs) : Dig B (x :: xs) := by
  intro y hy; rcases List.mem_cons.1 hy with rfl | hy
  · exact h
  · exact hd y hy
theorem dig_snoc {B x : Nat} {xs : List Nat} (hd : Dig B xs) (h : x < B) : Dig B (xs ++ [x]) := hd.append (Dig.one h)
theorem dig_left {B : Nat} {xs ys : List Nat} (h : Dig B (xs ++ ys)) : Dig B xs := fun x hx => h x (List.mem_append_left _ hx)
/-- A carry that has nowhere to go is none. -/
theorem carry_zero {B n c v T : Nat} (h : v + B ^ n * c = T) (hT : T < B ^ n) : c = 0 := by
  rcases Nat.eq_zero_or_pos c with h0 | h0
  · exact h0
  · have := Nat.mul_le_mul_left (B ^ n) h0
    rw [Nat.mul_one] at this
    omega
/-- Digits of a product and what is added: the carry is a digit. -/
theorem mul_carry {K x w z c e d : Nat} (hx : x < K) (hw : w < K) (hz : z < K) (hc : c < K) (h : d + K * e = x * w + z + c) : e < K := by
  have h1 : x * w ≤ (K - 1) * (K - 1) := Nat.mul_le_mul (by omega) (by omega)
  obtain ⟨m, rfl⟩ : ∃ m, K = m + 1 := ⟨K - 1, by omega⟩
  simp only [Nat.add_sub_cancel] at h1
  rcases Nat.lt_or_ge e (m + 1) with h2 | h2
  · exact h2
  · have h3 : (m + 1) * (m + 1) ≤ (m + 1) * e := Nat.mul_le_mul_left _ h2
    have h4 : (m + 1) * (m + 1) = m * m + m + m + 1 := by grind
    omega
/-- The length is that of the number. -/
theorem len_pow {B : Nat} (hB : 1 < B) {xs : List Nat} (hn : Norm xs) {n : Nat} (h : val B xs < B ^ n) : xs.length ≤ n := by
  rcases Nat.eq_zero_or_pos xs.length with h0 | h0
  · omega
  · have h1 := norm_ge (B := B) hn h0
    have h2 : B ^ (xs.length - 1) < B ^ n := by omega
    have := (Nat.pow_lt_pow_iff_right hB).1 h2
    omega
end Nb
end Go.Proofs.YtjamfkafgfpobaaGreat
/-! ### Div -/
namespace Go.Proofs.YtjamfkafgfpobaaGreat
namespace Nb
/-- The guess by the three highest digits over the two highest is not below the true one. -/
theorem guess_ge {u P0 V v V0 : Nat} (hP : P0 < V) (hv : 0 < v) : (u * V + P0) / (v * V + V0) ≤ u / v := by
  have hV : 0 < V := by omega
  have h1 : (u * V + P0) / (v * V + V0) ≤ (u * V + P0) / (v * V) := Nat.div_le_div_left (by omega) (Nat.mul_pos hv hV)
  have h2 : (u * V + P0) / (v * V) = u / v := by
    rw [Nat.mul_comm v, ← Nat.div_div_eq_div_mul]
    congr 1
    rw [Nat.mul_comm, Nat.mul_add_div hV, Nat.div_eq_of_lt hP]; rfl
  omega
/-- A guess that is not too small is right where nothing is missing. -/
theorem quo_done {P P' Y g : Nat} (hY : 0 < Y) (h : P' + Y * g = P) (hg : P / Y ≤ g) : g = P / Y ∧ P' = P % Y := by
  have h1 : g ≤ P / Y := (Nat.le_div_iff_mul_le hY).2 (by rw [Nat.mul_comm]; omega)
  have h2 : g = P / Y := by omega
  refine ⟨h2, ?_⟩
  have := Nat.div_add_mod P Y
  rw [← h2] at this
  omega
/-- Where something is missing the guess was too great. -/
theorem quo_more {P P' Y g M : Nat} (hY : 0 < Y) (h : P' + Y * g = P + M) (hM : P' < M) (_hg : P / Y ≤ g) : P / Y < g := by
  refine (Nat.div_lt_iff_lt_mul hY).2 ?_
  rw [Nat.mul_comm]; omega
end Nb
end Go.Proofs.YtjamfkafgfpobaaGreat
/-! ### Dec -/
namespace Go.Proofs.YtjamfkafgfpobaaGreat
namespace Nb
open Lib
end Nb
end Go.Proofs.YtjamfkafgfpobaaGreat
/-! ### Fq0 -/
namespace Go.Proofs.YtjamfkafgfpobaaGreat
open Rat
theorem rat_sum (a b : Rat) (g l : Nat) (N : Int) (h : Nat) (hg : g = Nat.gcd a.den b.den) (hl : l = a.den / g) (hN : N = a.num * ((b.den / g : Nat) : Int) + b.num * (l : Int)) (hh : h = Nat.gcd N.natAbs g) :
    (a + b).num = N.tdiv h ∧ (a + b).den = l * (b.den / h) := by
  have hg0 : g ≠ 0 := by rw [hg]; exact Nat.gcd_ne_zero_left a.den_nz
  have hga : g ∣ a.den := by rw [hg]; exact Nat.gcd_dvd_left ..
  have hgb : g ∣ b.den := by rw [hg]; exact Nat.gcd_dvd_right ..
  have hl0 : l * b.den ≠ 0 := by
    rw [hl]
    exact Nat.mul_ne_zero (Nat.ne_of_gt (Nat.div_pos (Nat.le_of_dvd a.den_pos hga) (Nat.pos_of_ne_zero hg0))) b.den_nz
  have hx : Nat.gcd N.natAbs g = Nat.gcd N.natAbs (l * b.den) := by
    rw [hN]
    exact Rat.add.aux a b hg hl rfl
  have e : a + b = normalize N (l * b.den) hl0 := by
    rw [Rat.add_def, ← normalize_mul_right hl0 hg0]
    congr 1
    · rw [hN, hl]
      simp only [Int.add_mul, Int.mul_assoc, Int.ofNat_mul_ofNat, Nat.div_mul_cancel hga, Nat.div_mul_cancel hgb]
    · rw [hl, Nat.mul_right_comm, Nat.div_mul_cancel hga]
  have hd1 : (h : Int) ∣ N := by rw [hh, Int.ofNat_dvd_left]; exact Nat.gcd_dvd_left ..
  have hd2 : h ∣ b.den := by rw [hh]; exact Nat.dvd_trans (Nat.gcd_dvd_right ..) hgb
  rw [e, num_normalize, den_normalize, ← hx, ← hh]
  exact ⟨(Int.tdiv_eq_ediv_of_dvd hd1).symm, Nat.mul_div_assoc _ hd2⟩
theorem rat_product (a b : Rat) (g h : Nat) (hg : g = Nat.gcd a.num.natAbs b.den) (hh : h = Nat.gcd b.num.natAbs a.den) :
    (a * b).num = a.num.tdiv g * b.num.tdiv h ∧ (a * b).den = (a.den / h) * (b.den / g) := by
  subst hg hh
  have e : a * b = Rat.mul a b := rfl
  rw [e]
  delta Rat.mul
  dsimp only
  simp only [Int.divExact_eq_tdiv, Nat.divExact_eq_div, and_self]
theorem rat_ratio (n d : Int) (hd : d ≠ 0) (n' d' : Int) (h1 : n' = if d < 0 then -n else n) (h2 : d' = if d < 0 then -d else d) (g : Nat) (hg : g = Nat.gcd n'.natAbs d'.natAbs) :
    (Rat.divInt n d).num = n'.tdiv g ∧ ((Rat.divInt n d).den : Int) = d'.tdiv g := by
  have hg' : g = Int.gcd d n := by
    rw [hg, h1, h2, Int.gcd, Nat.gcd_comm]
    split <;> simp
  have hda : (d'.natAbs : Int) = d' := by rw [h2]; split <;> omega
  have hda2 : d'.natAbs = d.natAbs := by rw [h2]; split <;> simp
  have hd1 : (g : Int) ∣ n' := by rw [hg, Int.ofNat_dvd_left]; exact Nat.gcd_dvd_left ..
  have hd2 : (g : Int) ∣ d' := by rw [hg, Int.ofNat_dvd_left]; exact Nat.gcd_dvd_right ..
  rw [Rat.num_divInt, Rat.den_divInt, if_neg hd, ← hg', Int.tdiv_eq_ediv_of_dvd hd1, Int.tdiv_eq_ediv_of_dvd hd2]
  refine ⟨?_, ?_⟩
  · congr 1
    rw [h1]
    split
    · rename_i h; rw [Int.sign_eq_neg_one_of_neg h]; omega
    · rename_i h; rw [Int.sign_eq_one_of_pos (by omega)]; omega
  · rw [← hda, hda2]; simp
end Go.Proofs.YtjamfkafgfpobaaGreat
