/-
  Where an image lies: what is reckoned of a matrix and a place, in fractions. No conditions.
-/
import Derived.Test.YtplgheabhekedaaGreatXtd
import Derived.Deep.RegionHeld3
import Derived.Deep.DeepCutAuto
import Derived.BigRegion
namespace Go.Proofs.YtplgheabhekedaaGreat
open Go.RowKit Nb

/-- C times ahead and D together. -/
def imD (q : Mq) (x : Rat) : Rat := q.c * x + q.d
/-- Where the image lies. -/
def imT (q : Mq) (x : Rat) : Rat := -(q.a * x + q.b) / imD q x
/-- What a space behind and one ahead make of a matrix. -/
def imS (q : Mq) (x t : Rat) : Mq := ((Mq.space t).mul q).mul (Mq.space x)
theorem im_b (q : Mq) (x : Rat) : (imS q x 0).b = q.a * x + q.b := by simp only [imS, Mq.mul, Mq.space]; grind
theorem im_d (q : Mq) (x t : Rat) : (imS q x t).d = imD q x := by simp only [imS, Mq.mul, Mq.space, imD]; grind
theorem im_c (q : Mq) (x t : Rat) : (imS q x t).c = q.c := by simp only [imS, Mq.mul, Mq.space]; grind
theorem im_t (q : Mq) (x : Rat) : -(imS q x 0).b / (imS q x 0).d = imT q x := by rw [im_b, im_d]; rfl
theorem im_a {q : Mq} {x : Rat} (h : q.det = 1) (hd : imD q x ≠ 0) : (imS q x (imT q x)).a = 1 / imD q x := by
 have e : imT q x * imD q x = -(q.a * x + q.b) := Rat.div_mul_cancel hd
 have e2 : (imS q x (imT q x)).a * imD q x = 1 := by
  simp only [imS, Mq.mul, Mq.space]
  simp only [Mq.det] at h
  have : (1 * q.a + imT q x * q.c) * 1 + (1 * q.b + imT q x * q.d) * 0 = q.a + imT q x * q.c := by grind
  rw [this]
  have e3 : (q.a + imT q x * q.c) * imD q x = q.a * imD q x + (imT q x * imD q x) * q.c := by grind
  rw [e3, e]
  simp only [imD]
  grind
 have e4 : (imS q x (imT q x)).a = (imS q x (imT q x)).a * imD q x / imD q x := (Rat.mul_div_cancel hd).symm
 rw [e4, e2]
theorem im_b0 {q : Mq} {x : Rat} (hd : imD q x ≠ 0) : (imS q x (imT q x)).b = 0 := by
 have e : imT q x * imD q x = -(q.a * x + q.b) := Rat.div_mul_cancel hd
 have : (imS q x (imT q x)).b = q.a * x + q.b + imT q x * imD q x := by simp only [imS, Mq.mul, Mq.space, imD]; grind
 rw [this, e]; grind
theorem det_imS {q : Mq} {x t : Rat} (h : q.det = 1) : (imS q x t).det = 1 := by
 unfold imS
 simp only [Mq.mul, Mq.space, Mq.det] at *
 grind
/-- What Image answers: where, how great, refused. -/
def ImIs (W : World) (q : Mq) (x : Rat) (f g : Fv) (e : Int) : Prop := (imD q x ≠ 0 ∧ e = 0 ∧ Ff W (imT q x) f ∧ Ff W (1 / imD q x) g) ∨ (imD q x = 0 ∧ e = 3 ∧ f = fv0 ∧ g = fv0) ∨ (imD q x ≠ 0 ∧ e = 4 ∧ f = fv0 ∧ g = fv0 ∧ ¬ (FitsQ (imT q x) ∧ FitsQ (1 / imD q x)))
/-- What Planes answers. -/
def PlIs (W : World) (q : Mq) (f g : Fv) (e : Int) : Prop := (q.c ≠ 0 ∧ e = 0 ∧ Ff W ((q.d - 1) / q.c) f ∧ Ff W ((1 - q.a) / q.c) g) ∨ (q.c = 0 ∧ e = 3 ∧ f = fv0 ∧ g = fv0) ∨ (q.c ≠ 0 ∧ e = 4 ∧ f = fv0 ∧ g = fv0 ∧ ¬ (FitsQ ((q.d - 1) / q.c) ∧ FitsQ ((1 - q.a) / q.c)))
def absQ (x : Rat) : Rat := if x < 0 then -x else x
/-- What Stop answers. -/
def StIs (W : World) (q : Mq) (x : Rat) (f : Fv) (e : Int) : Prop := (q.b ≠ 0 ∧ 0 ≤ x ∧ e = 0 ∧ Ff W (x / absQ q.b) f) ∨ (e = 1 ∧ x < 0 ∧ f = fv0) ∨ (q.b = 0 ∧ 0 ≤ x ∧ e = 3 ∧ f = fv0) ∨ (q.b ≠ 0 ∧ 0 ≤ x ∧ e = 4 ∧ f = fv0 ∧ ¬ FitsQ (x / absQ q.b))
def orE3 (a b c : Int) : Int := orE a (orE b c)
theorem cor_three {g l : Nat} {a b c : Int} {w : World} (K : Box w g [.int .i64 a, .int .i64 b, .int .i64 c]) :
  Calls Tryz.prog 59 #[.slice (some ⟨g, 0, none⟩) 3 l] w fun e w' => e = .returned (.int .i64 (orE3 a b c)) ∧ Below w.heap.size w w' := by
 have c0 := K.c 0 _ rfl
 have c1 := K.c 1 _ rfl
 have c2 := K.c 2 _ rfl
 have HB := Below.refl w.heap.size w
 clear K
 unfold orE3 orE
 by_cases ha : a = 0
 ·subst ha
  rw [if_pos rfl]
  by_cases hb : b = 0
  ·subst hb
   rw [if_pos rfl]
   by_cases hc : c = 0
   ·subst hc
    go_enter Tryz.func59, Tryz.ntmps59
    go_wp2
    refine wp_loop_rounds 4 ?_
    rw [rounds_succ]
    go_wp2
    rw [rounds_succ]
    go_wp2
    rw [rounds_succ]
    go_wp2
    rw [rounds_succ]
    go_wp2
    go_ret
    exact ⟨rfl, HB⟩
   ·have hc2 : (c == 0) = false := by simpa using hc
    go_enter Tryz.func59, Tryz.ntmps59
    go_wp2
    refine wp_loop_rounds 4 ?_
    rw [rounds_succ]
    go_wp2
    rw [rounds_succ]
    go_wp2
    rw [rounds_succ]
    go_wp2
    go_ret
    exact ⟨rfl, HB⟩
  ·rw [if_neg hb]
   have hb2 : (b == 0) = false := by simpa using hb
   go_enter Tryz.func59, Tryz.ntmps59
   go_wp2
   refine wp_loop_rounds 4 ?_
   rw [rounds_succ]
   go_wp2
   rw [rounds_succ]
   go_wp2
   go_ret
   exact ⟨rfl, HB⟩
 ·rw [if_neg ha]
  have ha2 : (a == 0) = false := by simpa using ha
  go_enter Tryz.func59, Tryz.ntmps59
  go_wp2
  refine wp_loop_rounds 4 ?_
  rw [rounds_succ]
  go_wp2
  go_ret
  exact ⟨rfl, HB⟩
theorem fr_cases {W : World} {z : Rat} {f : Fv} {er : Int} (h : Fr W False z f er) : (FitsQ z ∧ er = 0 ∧ Ff W z f) ∨ (¬ FitsQ z ∧ er = 4 ∧ f = fv0) := by
 rcases h with ⟨_, h1, h2, h3⟩ | ⟨⟨h1, _⟩ | ⟨_, h1, h2⟩, h3⟩
 ·exact .inl ⟨h1, h2, h3⟩
 ·exact h1.elim
 ·exact .inr ⟨h1, h2, h3⟩
theorem fr_bad {W V : World} {x y : Rat} {f g : Fv} {er es : Int} (h : Fr W False x f er) (k : Fr V False y g es) (hn : ¬ (FitsQ x ∧ FitsQ y)) : orE3 0 er es = 4 := by
 have h0 : orE3 0 er es = orE er es := by unfold orE3; rw [orE, if_pos rfl]
 rw [h0]
 unfold orE
 rcases fr_cases h with ⟨h1, h2, _⟩ | ⟨_, h2, _⟩ <;> rcases fr_cases k with ⟨k1, k2, _⟩ | ⟨_, k2, _⟩ <;> subst h2 <;> subst k2
 ·exact absurd ⟨h1, k1⟩ hn
 ·rfl
 ·rfl
 ·rfl
theorem zero_limbs {w : World} : Calls Tryz.prog 146 #[.agg #[.bool false, .slice none 0 0]] w (fun e w' => e = .returned (.int .i64 0) ∧ Below w.heap.size w w') := limbs_any false none [] 0 w Sl.none_ (by intro x h; simp at h) (by simp)
theorem zero_int {w : World} : Calls Tryz.prog 136 #[.agg #[.bool false, .slice none 0 0]] w (fun e w' => ∃ g : Nat, e = .returned (.agg #[.bool false, .slice (some ⟨g, 0, none⟩) 0 0]) ∧ Below w.heap.size w w') :=
 (int_any false none [] 0 w Sl.none_ (by intro x h; simp at h) (by simp [Norm]) (by simp)).mono fun _ _ ⟨g, h, _, _, hb⟩ => ⟨g, h, hb⟩
theorem fld0 (m : Mv) (wt : World) : ((Instr.field 90 (mv m) 0).run Tryz.prog wt).andThen (fun a w' => Result.ok (Next.value a) w') = Result.ok (Next.value (fv m.A)) wt := by kernel_rfl
end Go.Proofs.YtplgheabhekedaaGreat
