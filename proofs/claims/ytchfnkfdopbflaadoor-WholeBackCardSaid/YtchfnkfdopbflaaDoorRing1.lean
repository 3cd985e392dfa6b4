/-
  The statement on sums and products: which answers fit; what its condition on sizes returns; what stays while it reckons. No conditions.
-/
import Derived.Test.YtchfnkfdopbflaaDoorHelp
namespace Go.Proofs.YtchfnkfdopbflaaDoor
open Go.RowKit Nb

/-- So many limbs hold it. -/
def FitK (k : Nat) (Z : Int) : Prop := Z.natAbs < W32 ^ k
theorem FitK.mono {k l : Nat} {Z : Int} (h : FitK k Z) (hk : k ≤ l) : FitK l Z := Nat.lt_of_lt_of_le h (Nat.pow_le_pow_right (by decide) hk)
theorem lt_more {Z : Int} {k : Nat} (h : Z.natAbs < W32 ^ k) (l : Nat) (hk : k ≤ l) : Z.natAbs < W32 ^ l := Nat.lt_of_lt_of_le h (Nat.pow_le_pow_right (by decide) hk)
theorem FitK.fits {k : Nat} {Z : Int} (h : FitK k Z) (hk : k ≤ 2048) : Fits Z := lt_more h 2048 hk
theorem FitK.mul {a b : Nat} {X Y : Int} (h : FitK a X) (k : FitK b Y) : FitK (a + b) (X * Y) := by
  unfold FitK at *
  rw [Int.natAbs_mul, Nat.pow_add]
  exact Nat.mul_lt_mul_of_lt_of_lt h k
theorem FitK.add {a b : Nat} {X Y : Int} (h : FitK a X) (k : FitK b Y) : FitK (a + b + 1) (X + Y) := by
  have h1 := h.mono (Nat.le_add_right a b)
  have h2 := k.mono (Nat.le_add_left b a)
  unfold FitK at *
  rw [Nat.pow_succ]
  have h3 : 2 ≤ W32 := by decide
  have h4 : W32 ^ (a + b) * 2 ≤ W32 ^ (a + b) * W32 := Nat.mul_le_mul_left _ h3
  omega
theorem fitk_sv {n : Bool} {ls : List Nat} (hd : Dig W32 ls) : FitK ls.length (sv n (val W32 ls)) := by
  unfold FitK; rw [sv_abs]; exact val_lt hd

set_option maxHeartbeats 4000000 in
set_option maxRecDepth 100000 in
theorem small_3 (g l : Nat) (A0 : Option Addr) (l0 c0 : Nat) (A1 : Option Addr) (l1 c1 : Nat) (A2 : Option Addr) (l2 c2 : Nat) (w : World) (q0 : w.cell? ⟨g, 1, none⟩ = some (.slice A0 l0 c0)) (q1 : w.cell? ⟨g, 3, none⟩ = some (.slice A1 l1 c1)) (q2 : w.cell? ⟨g, 5, none⟩ = some (.slice A2 l2 c2))
    (h0 : l0 ≤ 140737488351232) (h1 : l1 ≤ 140737488351232) (h2 : l2 ≤ 140737488351232) :
    Calls Tryd.prog 22 #[.slice (some ⟨g, 0, none⟩) 3 l] w fun e w' => e = .returned (.bool (decide (l0 + 1 + (l1 + 1) + (l2 + 1) ≤ 2048))) ∧ Below w.heap.size w w' := by
  go_enter Tryd.func22, Tryd.ntmps22
  go_wp2
  go_loopw [3, 4] (fun nv iv wr => wr = w ∧ ((iv = .int .i64 0 ∧ nv = .int .i64 0) ∨ (iv = .int .i64 1 ∧ nv = .int .i64 ((l0 : Int) + 1)) ∨ (iv = .int .i64 2 ∧ nv = .int .i64 ((l0 : Int) + 1 + l1 + 1)) ∨ (iv = .int .i64 3 ∧ nv = .int .i64 ((l0 : Int) + 1 + l1 + 1 + l2 + 1)))) (fun _ iv _ => 3 - (intOf iv).toNat)
  case atStart => exact ⟨rfl, .inl ⟨rfl, rfl⟩⟩
  case round =>
    obtain ⟨rfl, ⟨rfl, rfl⟩ | ⟨rfl, rfl⟩ | ⟨rfl, rfl⟩ | ⟨rfl, rfl⟩⟩ := hrel
    · go_wp2
      go_roundw
      case rel => exact ⟨by first | rfl | trivial, .inr (.inl ⟨by go_num, by go_num⟩)⟩
      case measure => simp [intOf]
    · go_wp2
      go_roundw
      case rel => exact ⟨by first | rfl | trivial, .inr (.inr (.inl ⟨by go_num, by go_num⟩))⟩
      case measure => simp [intOf]
    · go_wp2
      go_roundw
      case rel => exact ⟨by first | rfl | trivial, .inr (.inr (.inr ⟨by go_num, by go_num⟩))⟩
      case measure => simp [intOf]
    · go_wp2
      go_ret
      have e : decide ((l0 : Int) + 1 + l1 + 1 + l2 + 1 ≤ 2048) = decide (l0 + 1 + (l1 + 1) + (l2 + 1) ≤ 2048) := decide_eq_decide.2 (by omega)
      exact ⟨congrArg (fun b => Ending.returned (Value.bool b)) e, Below.refl _ _⟩

/-- What stays: three numbers in cells, and a mark that says yes. -/
structure Rng (w W : World) (p : Nat) (n1 n2 n3 : Bool) (A B C : Option Addr) (xs ys zs : List Nat) (c d e : Nat) : Prop where
  tri : Tri w W w.heap.size (w.heap.size + 1) (w.heap.size + 1 + 1) n1 n2 n3 A B C xs ys zs c d e
  lt : p < W.heap.size
  on_ : W.cell? ⟨p, 0, none⟩ = some (.bool true)
  fr : W.frozen? ⟨p, 0, none⟩ = false
abbrev RngS (w W : World) (p : Nat) (n1 n2 n3 : Bool) (A B C : Option Addr) (xs ys zs : List Nat) (c d e : Nat) : Prop := Rng w W p n1 n2 n3 A B C xs ys zs c d e ∧ W.cell? ⟨w.heap.size, 0, none⟩ = some (.bool n1) ∧ W.cell? ⟨w.heap.size, 1, none⟩ = some (.slice A xs.length c) ∧ W.cell? ⟨w.heap.size + 1, 0, none⟩ = some (.bool n2) ∧ W.cell? ⟨w.heap.size + 1, 1, none⟩ = some (.slice B ys.length d) ∧ W.cell? ⟨w.heap.size + 1 + 1, 0, none⟩ = some (.bool n3) ∧ W.cell? ⟨w.heap.size + 1 + 1, 1, none⟩ = some (.slice C zs.length e)
section
variable {w W W' : World} {p : Nat} {n1 n2 n3 : Bool} {A B C : Option Addr} {xs ys zs : List Nat} {c d e : Nat} {X : Prop}
theorem Rng.below (h : Rng w W p n1 n2 n3 A B C xs ys zs c d e) (hb : Below W.heap.size W W') : Rng w W' p n1 n2 n3 A B C xs ys zs c d e := ⟨h.tri.on hb, Nat.lt_of_lt_of_le h.lt hb.size, (hb.cell (p := ⟨p, 0, none⟩) h.lt).trans h.on_, (hb.frozen (p := ⟨p, 0, none⟩) h.lt).trans h.fr⟩
theorem Rng.all (h : Rng w W p n1 n2 n3 A B C xs ys zs c d e) : RngS w W p n1 n2 n3 A B C xs ys zs c d e := ⟨h, h.tri.x.c0, h.tri.x.c1, h.tri.y.c0, h.tri.y.c1, h.tri.z.c0, h.tri.z.c1⟩
theorem Rng.keep (h : Rng w W p n1 n2 n3 A B C xs ys zs c d e ∧ X) (hb : Below W.heap.size W W') : RngS w W' p n1 n2 n3 A B C xs ys zs c d e := (h.1.below hb).all
end

theorem mark_new {w W : World} {n1 n2 n3 : Bool} {A B C : Option Addr} {xs ys zs : List Nat} {c d e : Nat} (h : Tri w W w.heap.size (w.heap.size + 1) (w.heap.size + 1 + 1) n1 n2 n3 A B C xs ys zs c d e) :
    ∃ V : World, V = W.alloc (.cells #[.bool true] 4) ∧ Below W.heap.size W V ∧ Rng w V W.heap.size n1 n2 n3 A B C xs ys zs c d e := by
  have hb : Below W.heap.size W (W.alloc (.cells #[.bool true] 4)) := by go_grown
  exact ⟨_, rfl, hb, ⟨h.on hb, by simp, by go_cell, World.frozen?_alloc_new _ _ _ _⟩⟩
section
variable {w W W' : World} {p : Nat} {n1 n2 n3 : Bool} {A B C : Option Addr} {xs ys zs : List Nat} {c d e : Nat} {X : Prop}
theorem Rng.sum (h : Rng w W p n1 n2 n3 A B C xs ys zs c d e ∧ X) {m1 m2 : Bool} {V1 V2 : Option Addr} {l1 l2 : List Nat} {k1 k2 : Nat} (h1 : Lm W m1 V1 l1 k1) (h2 : Lm W m2 V2 l2 k2) {Z1 Z2 : Int} (e1 : sv m1 (val W32 l1) = Z1) (e2 : sv m2 (val W32 l2) = Z2) (hF : Fits (Z1 + Z2)) :
    Calls Tryd.prog 24 #[big m1 V1 l1.length k1, big m2 V2 l2.length k2, .pointer (some ⟨p, 0, none⟩)] W (One W (Z1 + Z2)) := by
  subst e1; subst e2
  exact sum_ok m1 m2 V1 V2 l1 l2 k1 k2 p W h1 h2 h.1.lt h.1.on_ h.1.fr hF
theorem Rng.times (h : Rng w W p n1 n2 n3 A B C xs ys zs c d e ∧ X) {m1 m2 : Bool} {V1 V2 : Option Addr} {l1 l2 : List Nat} {k1 k2 : Nat} (h1 : Lm W m1 V1 l1 k1) (h2 : Lm W m2 V2 l2 k2) {Z1 Z2 : Int} (e1 : sv m1 (val W32 l1) = Z1) (e2 : sv m2 (val W32 l2) = Z2) (hF : Fits (Z1 * Z2)) :
    Calls Tryd.prog 23 #[big m1 V1 l1.length k1, big m2 V2 l2.length k2, .pointer (some ⟨p, 0, none⟩)] W (One W (Z1 * Z2)) := by
  subst e1; subst e2
  exact times_ok m1 m2 V1 V2 l1 l2 k1 k2 p W h1 h2 h.1.lt h.1.on_ h.1.fr hF
end
section
variable {w V W : World} {p : Nat} {n1 n2 n3 : Bool} {A B C : Option Addr} {xs ys zs : List Nat} {c d e : Nat}
theorem stay_of (h : RngS w V p n1 n2 n3 A B C xs ys zs c d e) (hb : Below V.heap.size V W) : Below V.heap.size V W ∧ W.cell? ⟨w.heap.size, 0, none⟩ = some (.bool n1) ∧ W.cell? ⟨w.heap.size, 1, none⟩ = some (.slice A xs.length c) ∧ W.cell? ⟨w.heap.size + 1, 0, none⟩ = some (.bool n2) ∧ W.cell? ⟨w.heap.size + 1, 1, none⟩ = some (.slice B ys.length d) ∧ W.cell? ⟨w.heap.size + 1 + 1, 0, none⟩ = some (.bool n3) ∧ W.cell? ⟨w.heap.size + 1 + 1, 1, none⟩ = some (.slice C zs.length e) := ⟨hb, (Rng.keep h hb).2⟩
theorem rng_named (h : RngS w W p n1 n2 n3 A B C xs ys zs c d e) : ∃ V, V = W ∧ RngS w V p n1 n2 n3 A B C xs ys zs c d e := ⟨W, rfl, h⟩
end
theorem same_lm {n1 n2 : Bool} {A B : Option Addr} {xs ys : List Nat} {c d : Nat} (w : World) (h1 : Lm w n1 A xs c) (h2 : Lm w n2 B ys d) (hv : sv n1 (val W32 xs) = sv n2 (val W32 ys)) :
    Calls Tryd.prog 25 #[big n1 A xs.length c, big n2 B ys.length d] w fun e w' => e = .returned (.bool true) ∧ Below w.heap.size w w' := by
  have h := same_any n1 n2 A B xs ys c d w h1.sl h2.sl h1.sz h2.sz
  rwa [show decide (n1 = n2 ∧ xs = ys) = true from by simpa using sv_inj h1.ok h2.ok h1.dig h2.dig hv] at h
end Go.Proofs.YtchfnkfdopbflaaDoor
