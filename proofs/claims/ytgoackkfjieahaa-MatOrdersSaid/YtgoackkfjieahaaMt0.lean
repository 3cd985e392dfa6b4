/-
  Numbers of 64 bits that wrap round: sums and products of what is wrapped; the laws of matrices over them. No condition.
-/
import Derived.RowKit
namespace Go.Proofs.Ytgoackkfjieahaa
open Go.RowKit
/-- Wrapped round into -H .. H - 1. -/
def wz (H x : Int) : Int := (x + H) % (2 * H) - H
section
variable {H : Int}
theorem z_mod (x : Int) : wz H x % (2 * H) = x % (2 * H) := by
  unfold wz
  rw [Int.emod_def (x + H), show x + H - 2 * H * ((x + H) / (2 * H)) - H = x - 2 * H * ((x + H) / (2 * H)) by omega, Int.sub_mul_emod_self_left]
theorem z_congr {x y : Int} (h : x % (2 * H) = y % (2 * H)) : wz H x = wz H y := by
  unfold wz
  rw [Int.add_emod, h, ← Int.add_emod]
theorem w_addl (x y : Int) : wz H (wz H x + y) = wz H (x + y) := z_congr (by rw [Int.add_emod, z_mod, ← Int.add_emod])
theorem w_addr (x y : Int) : wz H (x + wz H y) = wz H (x + y) := z_congr (by rw [Int.add_emod, z_mod, ← Int.add_emod])
theorem w_mull (x y : Int) : wz H (wz H x * y) = wz H (x * y) := z_congr (by rw [Int.mul_emod, z_mod, ← Int.mul_emod])
theorem w_mulr (x y : Int) : wz H (x * wz H y) = wz H (x * y) := z_congr (by rw [Int.mul_emod, z_mod, ← Int.mul_emod])
theorem w_neg (x : Int) : wz H (-wz H x) = wz H (-x) := by
  have := w_mulr (H := H) (-1) x
  rwa [Int.neg_one_mul, Int.neg_one_mul] at this
theorem w_id {x : Int} (h1 : -H ≤ x) (h2 : x < H) : wz H x = x := by
  unfold wz
  rw [Int.emod_eq_of_lt (by omega) (by omega)]; omega
theorem w_rng (hH : 0 < H) (x : Int) : -H ≤ wz H x ∧ wz H x < H := by
  have h1 := Int.emod_nonneg (x + H) (b := 2 * H) (by omega)
  have h2 := Int.emod_lt_of_pos (x + H) (b := 2 * H) (by omega)
  unfold wz; omega
theorem w_w (x : Int) : wz H (wz H x) = wz H x := z_congr (z_mod x)
end
theorem wz_64 (x : Int) : wrap64 x = wz 9223372036854775808 x := rfl
theorem wz_8 (x : Int) : IntKind.i8.wrap x = wz 128 x := by
  show (if (true && decide (x % (2 ^ 8 : Int) ≥ (2 ^ (8 - 1) : Int))) = true then x % (2 ^ 8 : Int) - (2 ^ 8 : Int) else x % (2 ^ 8 : Int)) = _
  rw [show (2 ^ 8 : Int) = 256 from rfl, show (2 ^ (8 - 1) : Int) = 128 from rfl, Bool.true_and]
  unfold wz
  by_cases g : x % 256 ≥ 128
  · rw [if_pos (decide_eq_true g)]; omega
  · rw [if_neg (by simpa using g)]; omega
theorem wz_64k (x : Int) : IntKind.i64.wrap x = wz 9223372036854775808 x := by
  show (if (true && decide (x % (2 ^ 64 : Int) ≥ (2 ^ (64 - 1) : Int))) = true then x % (2 ^ 64 : Int) - (2 ^ 64 : Int) else x % (2 ^ 64 : Int)) = _
  rw [show (2 ^ 64 : Int) = 18446744073709551616 from rfl, show (2 ^ (64 - 1) : Int) = 9223372036854775808 from rfl, Bool.true_and]
  unfold wz
  by_cases g : x % 18446744073709551616 ≥ 9223372036854775808
  · rw [if_pos (decide_eq_true g)]; omega
  · rw [if_neg (by simpa using g)]; omega
/-- A matrix of such numbers. -/
structure Mz where
  a : Int
  b : Int
  c : Int
  d : Int
/-- One behind another. -/
def Mz.mul (H : Int) (x y : Mz) : Mz := ⟨wz H (wz H (x.a * y.a) + wz H (x.b * y.c)), wz H (wz H (x.a * y.b) + wz H (x.b * y.d)), wz H (wz H (x.c * y.a) + wz H (x.d * y.c)), wz H (wz H (x.c * y.b) + wz H (x.d * y.d))⟩
def Mz.det (H : Int) (x : Mz) : Int := wz H (wz H (x.a * x.d) + wz H (-wz H (x.b * x.c)))
def Mz.tr (H : Int) (x : Mz) : Int := wz H (x.a + x.d)
def Mz.turned (H : Int) (x : Mz) : Mz := ⟨x.d, wz H (-x.b), wz H (-x.c), x.a⟩
def Mz.one : Mz := ⟨1, 0, 0, 1⟩
/-- Its numbers have 64 bits. -/
structure Mz.Ok (H : Int) (x : Mz) : Prop where
  a : wz H x.a = x.a
  b : wz H x.b = x.b
  c : wz H x.c = x.c
  d : wz H x.d = x.d
section
variable {H : Int} {x y z : Mz}
theorem Mz.okm : (x.mul H y).Ok H := ⟨w_w _, w_w _, w_w _, w_w _⟩
theorem Mz.assoc : (x.mul H y).mul H z = x.mul H (y.mul H z) := by
  unfold Mz.mul
  simp only [w_addl, w_addr, w_mull, w_mulr]
  congr 1 <;> (congr 1; grind)
theorem Mz.mul_one (h : x.Ok H) : x.mul H .one = x := by
  obtain ⟨a, b, c, d⟩ := x
  obtain ⟨h1, h2, h3, h4⟩ := h
  simp only at h1 h2 h3 h4
  simp [Mz.mul, Mz.one, w_addl, w_addr, h1, h2, h3, h4]
theorem Mz.one_mul (h : x.Ok H) : Mz.one.mul H x = x := by
  obtain ⟨a, b, c, d⟩ := x
  obtain ⟨h1, h2, h3, h4⟩ := h
  simp only at h1 h2 h3 h4
  simp [Mz.mul, Mz.one, w_addl, w_addr, h1, h2, h3, h4]
theorem Mz.det_mul : (x.mul H y).det H = wz H (x.det H * y.det H) := by
  unfold Mz.mul Mz.det
  simp only [w_addl, w_addr, w_mull, w_mulr, w_neg]
  congr 1; grind
theorem Mz.tr_mul : (x.mul H y).tr H = (y.mul H x).tr H := by
  unfold Mz.mul Mz.tr
  simp only [w_addl, w_addr]
  congr 1; grind
theorem Mz.mul_turned (hH : 1 < H) : x.mul H (x.turned H) = ⟨x.det H, 0, 0, x.det H⟩ := by
  have h0 : wz H 0 = 0 := w_id (by omega) (by omega)
  unfold Mz.mul Mz.turned Mz.det
  simp only [w_addl, w_addr, w_mulr, w_neg]
  congr 1
  · congr 1; grind
  · rw [show x.a * -x.b + x.b * x.a = 0 by grind, h0]
  · rw [show x.c * x.d + x.d * -x.c = 0 by grind, h0]
  · congr 1; grind
theorem Mz.turned_mul (hH : 1 < H) : (x.turned H).mul H x = ⟨x.det H, 0, 0, x.det H⟩ := by
  have h0 : wz H 0 = 0 := w_id (by omega) (by omega)
  unfold Mz.mul Mz.turned Mz.det
  simp only [w_addl, w_addr, w_mull, w_neg]
  congr 1
  · congr 1; grind
  · rw [show x.d * x.b + -x.b * x.d = 0 by grind, h0]
  · rw [show -x.c * x.a + x.a * x.c = 0 by grind, h0]
  · congr 1; grind
theorem Mz.turned2 (h : x.Ok H) : (x.turned H).turned H = x := by
  obtain ⟨a, b, c, d⟩ := x
  obtain ⟨h1, h2, h3, h4⟩ := h
  simp only at h1 h2 h3 h4
  simp [Mz.turned, w_neg, h2, h3]
theorem Mz.ok_one (hH : 1 < H) : Mz.one.Ok H := ⟨w_id (by simp only [Mz.one]; omega) (by simp only [Mz.one]; omega), w_id (by simp only [Mz.one]; omega) (by simp only [Mz.one]; omega), w_id (by simp only [Mz.one]; omega) (by simp only [Mz.one]; omega), w_id (by simp only [Mz.one]; omega) (by simp only [Mz.one]; omega)⟩
/-- So many times itself. -/
def Mz.pow (H : Int) (x : Mz) : Nat → Mz
  | 0 => .one
  | n + 1 => x.mul H (x.pow H n)
theorem Mz.ok_pow (hH : 1 < H) : ∀ n, (x.pow H n).Ok H
  | 0 => Mz.ok_one hH
  | _ + 1 => Mz.okm
theorem Mz.pow_add (hH : 1 < H) (n m : Nat) : (x.pow H n).mul H (x.pow H m) = x.pow H (n + m) := by
  induction n with
  | zero =>
    rw [Nat.zero_add]
    exact Mz.one_mul (Mz.ok_pow hH m)
  | succ n ih =>
    rw [show n + 1 + m = n + m + 1 by omega]
    show (x.mul H (x.pow H n)).mul H (x.pow H m) = x.mul H (x.pow H (n + m))
    rw [Mz.assoc, ih]
theorem Mz.pow_one (h : x.Ok H) : x.pow H 1 = x := Mz.mul_one h
/-- One step of the binary power: what has been taken, times what is squared. -/
theorem Mz.pow_step (hH : 1 < H) {p : Mz} {a b : Nat} (e : p = x.pow H b) : p.mul H (x.pow H a) = x.pow H (b + a) := by rw [e, Mz.pow_add hH]
theorem bin_odd {n a b m : Nat} (h : n = b + a * m) (o : m % 2 = 1) : n = a + b + (a + a) * (m / 2) := by
  obtain ⟨k, rfl⟩ : ∃ k, m = 2 * k + 1 := ⟨m / 2, by omega⟩
  rw [show (2 * k + 1) / 2 = k by omega, h]; grind
theorem bin_even {n a b m : Nat} (h : n = b + a * m) (o : m % 2 = 0) : n = b + (a + a) * (m / 2) := by
  obtain ⟨k, rfl⟩ : ∃ k, m = 2 * k := ⟨m / 2, by omega⟩
  rw [show 2 * k / 2 = k by omega, h]; grind
/-- One behind the other. -/
def Mz.chain (H : Int) (r : Mz) (l : List Mz) : Mz := l.foldl (fun r m => m.mul H r) r
theorem Mz.chain_ok (h : x.Ok H) : ∀ l : List Mz, (Mz.chain H x l).Ok H := by
  intro l
  induction l generalizing x with
  | nil => exact h
  | cons m l ih => exact ih Mz.okm
theorem Mz.chain_from (_hH : 1 < H) (l : List Mz) (h : x.Ok H) : Mz.chain H x l = (Mz.chain H .one l).mul H x := by
  induction l generalizing x with
  | nil => exact (Mz.one_mul h).symm
  | cons m l ih =>
    show Mz.chain H (m.mul H x) l = (Mz.chain H (m.mul H .one) l).mul H x
    rw [ih Mz.okm, ih (x := m.mul H .one) Mz.okm, Mz.assoc, Mz.assoc, Mz.one_mul h]
theorem Mz.chain_append (H : Int) (r : Mz) (l k : List Mz) : Mz.chain H r (l ++ k) = Mz.chain H (Mz.chain H r l) k := by
  unfold Mz.chain; rw [List.foldl_append]
theorem Mz.chain_both (hH : 1 < H) (l k : List Mz) : Mz.chain H .one (l ++ k) = (Mz.chain H .one k).mul H (Mz.chain H .one l) := by
  rw [Mz.chain_append, Mz.chain_from hH k (Mz.chain_ok (Mz.ok_one hH) l)]
theorem Mz.chain_same (x : Mz) : ∀ n, Mz.chain H .one (List.replicate n x) = x.pow H n
  | 0 => rfl
  | n + 1 => by
    rw [List.replicate_succ', Mz.chain_append, Mz.chain_same x n]; rfl
end
end Go.Proofs.Ytgoackkfjieahaa
