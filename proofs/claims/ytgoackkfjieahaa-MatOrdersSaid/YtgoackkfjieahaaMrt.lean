/-
  Matrices over a ring that tells what is done: what the program's functions return. No conditions.
-/
import Derived.Test.YtgoackkfjieahaaMr0
import Derived.Test.YtgoackkfjieahaaBx
import Derived.Deep.RegionHeld3
import Derived.Deep.DeepCutAuto
import Derived.RegionTactic
import Derived.StillTailTactics
import Derived.Deep.QuietTactic
import Derived.Test.YtgoackkfjieahaaMm0
namespace Go.Proofs.Ytgoackkfjieahaa.T
open Go.RowKit
/-- A matrix as a value. -/
abbrev mv (x : Mz) : Value := .agg #[.int .i64 x.a, .int .i64 x.b, .int .i64 x.c, .int .i64 x.d]
/-- The cells of a matrix. -/
def mcv (x : Mz) : List Value := [.int .i64 x.a, .int .i64 x.b, .int .i64 x.c, .int .i64 x.d]
theorem cadd0 (a b : Int) (w : World) : Calls Try.prog 96 #[.int .i64 a, .int .i64 b] w fun e w' => e = .returned (.int .i64 (rt.ad a b)) ∧ w = w' := by
  go_enter Try.func96, Try.ntmps96
  go_wp2_with (go_at_call 100; refine (mixed_at 1 a b _).mono ?_; rintro e w' ⟨rfl, rfl⟩)
  go_ret; exact ⟨rfl, rfl⟩
theorem cadd {R : Rg} (hR : Hid (R = rt)) (a b : Int) (w : World) : Calls Try.prog 96 #[.int .i64 a, .int .i64 b] w fun e w' => e = .returned (.int .i64 (R.ad a b)) ∧ w = w' := by
  have h := hR.out
  subst h
  exact cadd0 a b w
theorem cmul0 (a b : Int) (w : World) : Calls Try.prog 98 #[.int .i64 a, .int .i64 b] w fun e w' => e = .returned (.int .i64 (rt.ml a b)) ∧ w = w' := by
  go_enter Try.func98, Try.ntmps98
  go_wp2_with (go_at_call 100; refine (mixed_at 2 a b _).mono ?_; rintro e w' ⟨rfl, rfl⟩)
  go_ret; exact ⟨rfl, rfl⟩
theorem cmul {R : Rg} (hR : Hid (R = rt)) (a b : Int) (w : World) : Calls Try.prog 98 #[.int .i64 a, .int .i64 b] w fun e w' => e = .returned (.int .i64 (R.ml a b)) ∧ w = w' := by
  have h := hR.out
  subst h
  exact cmul0 a b w
theorem cneg0 (a : Int) (w : World) : Calls Try.prog 99 #[.int .i64 a] w fun e w' => e = .returned (.int .i64 (rt.ng a)) ∧ w = w' := by
  go_enter Try.func99, Try.ntmps99
  go_wp2_with (go_at_call 100; refine (mixed_at 3 a 0 _).mono ?_; rintro e w' ⟨rfl, rfl⟩)
  go_ret; exact ⟨rfl, rfl⟩
theorem cneg {R : Rg} (hR : Hid (R = rt)) (a : Int) (w : World) : Calls Try.prog 99 #[.int .i64 a] w fun e w' => e = .returned (.int .i64 (R.ng a)) ∧ w = w' := by
  have h := hR.out
  subst h
  exact cneg0 a w
theorem mMul (a : Int) (w : World) : (method 231 69 (.int .i64 a) "Mul").run Try.prog w = .ok (98, .int .i64 a) w := by kernel_rfl
theorem mAdd (a : Int) (w : World) : (method 231 69 (.int .i64 a) "Add").run Try.prog w = .ok (96, .int .i64 a) w := by kernel_rfl
theorem mNeg (a : Int) (w : World) : (method 231 69 (.int .i64 a) "Neg").run Try.prog w = .ok (99, .int .i64 a) w := by kernel_rfl
theorem mLike (a : Int) (w : World) : (method 231 69 (.int .i64 a) "Like").run Try.prog w = .ok (97, .int .i64 a) w := by kernel_rfl
theorem twice {R : Rg} (hR : Hid (R = rt)) (a b c d : Int) (w : World) : Calls Try.prog 61 #[.int .i64 a, .int .i64 b, .int .i64 c, .int .i64 d] w fun e w' => e = .returned (.int .i64 (R.tw a b c d)) ∧ Below w.heap.size w w' := by
  have h1 := mMul
  have h2 := mAdd
  go_enter Try.func61, Try.ntmps61
  go_wp2_with (first | (go_at_call 98; refine (cmul hR _ _ _).mono ?_; rintro e w' ⟨rfl, rfl⟩) | (go_at_call 96; refine (cadd hR _ _ _).mono ?_; rintro e w' ⟨rfl, rfl⟩))
  go_ret; exact ⟨rfl, Below.refl _ _⟩
theorem trace {R : Rg} (hR : Hid (R = rt)) (x : Mz) (w : World) : Calls Try.prog 42 #[mv x] w fun e w' => e = .returned (.int .i64 (R.tr x)) ∧ Below w.heap.size w w' := by
  have h2 := mAdd
  obtain ⟨a, b, c, d⟩ := x
  go_enter Try.func42, Try.ntmps42
  go_wp2_with (go_at_call 96; refine (cadd hR _ _ _).mono ?_; rintro e w' ⟨rfl, rfl⟩)
  go_ret; exact ⟨rfl, by go_grown⟩
theorem det {R : Rg} (hR : Hid (R = rt)) (x : Mz) (w : World) : Calls Try.prog 41 #[mv x] w fun e w' => e = .returned (.int .i64 (R.det x)) ∧ Below w.heap.size w w' := by
  have h1 := mMul
  have h2 := mAdd
  have h3 := mNeg
  obtain ⟨a, b, c, d⟩ := x
  go_enter Try.func41, Try.ntmps41
  go_wp2_with (first | (go_at_call 98; refine (cmul hR _ _ _).mono ?_; rintro e w' ⟨rfl, rfl⟩) | (go_at_call 96; refine (cadd hR _ _ _).mono ?_; rintro e w' ⟨rfl, rfl⟩) | (go_at_call 99; refine (cneg hR _ _).mono ?_; rintro e w' ⟨rfl, rfl⟩))
  go_ret; exact ⟨rfl, by go_grown⟩
theorem cneg_b {R : Rg} (hR : Hid (R = rt)) (a : Int) (w : World) : Calls Try.prog 99 #[.int .i64 a] w fun e w' => e = .returned (.int .i64 (R.ng a)) ∧ Below w.heap.size w w' := (cneg hR a w).mono fun _ _ ⟨h, e⟩ => ⟨h, e ▸ Below.refl _ _⟩
set_option maxHeartbeats 8000000 in
set_option maxRecDepth 20000 in
theorem mul {R : Rg} (hR : Hid (R = rt)) (x y : Mz) (w : World) :
    Calls Try.prog 40 #[mv x, mv y] w (fun e w' => e = .returned (mv (R.mul x y)) ∧ Below w.heap.size w w') := by
  have BW : Below w.heap.size w w := Below.refl _ _
  obtain ⟨V2, e3, hb4, K5, -, z1⟩ := alloc_new w [.int .i64 x.a, .int .i64 x.b, .int .i64 x.c, .int .i64 x.d] 71
  replace BW := BW.trans (hb4.mono BW.size)
  clear hb4
  obtain ⟨V7, e8, hb9, K10, -, z6⟩ := alloc_new V2 [.int .i64 y.a, .int .i64 y.b, .int .i64 y.c, .int .i64 y.d] 71
  rw [z1] at K10 z6
  replace K5 := K5.on hb9
  replace BW := BW.trans (hb9.mono BW.size)
  clear hb9
  obtain ⟨V11, e12, hb13, K14, Z15, -⟩ := alloc_new V7 [.int .i64 0, .int .i64 0, .int .i64 0, .int .i64 0] 71
  rw [z6] at K14 Z15
  have n16 : w.heap.size ≠ w.heap.size + 1 + 1 := Nat.ne_of_lt (z6 ▸ K5.lt)
  have n17 : w.heap.size + 1 ≠ w.heap.size + 1 + 1 := Nat.ne_of_lt (z6 ▸ K10.lt)
  have g18 : w.heap.size ≤ w.heap.size + 1 + 1 := z6 ▸ BW.size
  replace K5 := K5.on hb13
  replace K10 := K10.on hb13
  replace BW := BW.trans (hb13.mono BW.size)
  clear hb13
  clear z1 z6
  go_enter Try.func40, Try.ntmps40
  go_wp2_with fail
  rw [← e3, ← e8, ← e12]
  clear e3 e8 e12
  refine wp_region_noPanic ?_
  have hb : Below V11.heap.size V11 V11.drew := (Below.refl _ _).drew
  replace K5 := K5.on hb
  replace K10 := K10.on hb
  replace K14 := K14.on hb
  replace Z15 := Z15.on hb
  replace BW := BW.trans (hb.mono BW.size)
  clear hb
  refine wp_region_held_drew (S := (fun wx => Cs wx (w.heap.size) 0 [.int .i64 x.a, .int .i64 x.b, .int .i64 x.c, .int .i64 x.d] ∧ Cs wx (w.heap.size + 1) 0 [.int .i64 y.a, .int .i64 y.b, .int .i64 y.c, .int .i64 y.d])) (by kernel_rfl) (by exact ⟨K5.cs, K10.cs⟩) (fun hHeld => ?_)
  generalize V11.drew = Vd19 at *
  refine pT 0 ?_
  (try simp only [p0, p1, p2, p3])
  refine pT 1 ?_
  (try simp only [p0, p1, p2, p3])
  refine pT 2 ?_
  (try simp only [p0, p1, p2, p3])
  refine pT 3 ?_
  (try simp only [p0, p1, p2, p3])
  refine pT 4 ?_
  (try simp only [p0, p1, p2, p3])
  refine pT 5 ?_
  (try simp only [p0, p1, p2, p3])
  refine pT 6 ?_
  (try simp only [p0, p1, p2, p3])
  refine pT 7 ?_
  (try simp only [p0, p1, p2, p3])
  refine pT 9 ?_
  (try simp only [p0, p1, p2, p3])
  refine pT 10 ?_
  (try simp only [p0, p1, p2, p3])
  refine pT 11 ?_
  (try simp only [p0, p1, p2, p3])
  refine pT 12 ?_
  (try simp only [p0, p1, p2, p3])
  refine pT 13 ?_
  (try simp only [p0, p1, p2, p3])
  refine pT 14 ?_
  (try simp only [p0, p1, p2, p3])
  refine pT 15 ?_
  (try simp only [p0, p1, p2, p3])
  refine pT 16 ?_
  (try simp only [p0, p1, p2, p3])
  refine pT 18 ?_
  (try simp only [p0, p1, p2, p3])
  refine pT 19 ?_
  (try simp only [p0, p1, p2, p3])
  refine pT 20 ?_
  (try simp only [p0, p1, p2, p3])
  refine pT 21 ?_
  (try simp only [p0, p1, p2, p3])
  refine pT 22 ?_
  (try simp only [p0, p1, p2, p3])
  refine pT 23 ?_
  (try simp only [p0, p1, p2, p3])
  refine pT 24 ?_
  (try simp only [p0, p1, p2, p3])
  refine pT 25 ?_
  (try simp only [p0, p1, p2, p3])
  refine pT 27 ?_
  (try simp only [p0, p1, p2, p3])
  refine pT 28 ?_
  (try simp only [p0, p1, p2, p3])
  refine pT 29 ?_
  (try simp only [p0, p1, p2, p3])
  refine pT 30 ?_
  (try simp only [p0, p1, p2, p3])
  refine pT 31 ?_
  (try simp only [p0, p1, p2, p3])
  refine pT 32 ?_
  (try simp only [p0, p1, p2, p3])
  refine pT 33 ?_
  (try simp only [p0, p1, p2, p3])
  refine pT 34 ?_
  (try simp only [p0, p1, p2, p3])
  refine pR1 8 (fun K hK => ?_)
  go_simp
  (go_at_call 61; with_reducible refine (twice hR _ _ _ _ _).mono ?_)
  rintro _ w20 ⟨rfl, hb⟩
  (try go_wp2_with fail)
  replace K5 := K5.on hb
  replace K10 := K10.on hb
  replace K14 := K14.on hb
  replace Z15 := Z15.on hb
  replace BW := BW.trans (hb.mono BW.size)
  clear hb
  refine hK.out _ _ (by exact ⟨K5.cs, K10.cs⟩) (fun hHeld => ?_)
  clear hK
  (try simp only [p0, p1, p2, p3])
  refine pR1 17 (fun K hK => ?_)
  go_simp
  (go_at_call 61; with_reducible refine (twice hR _ _ _ _ _).mono ?_)
  rintro _ w21 ⟨rfl, hb⟩
  (try go_wp2_with fail)
  replace K5 := K5.on hb
  replace K10 := K10.on hb
  replace K14 := K14.on hb
  replace Z15 := Z15.on hb
  replace BW := BW.trans (hb.mono BW.size)
  clear hb
  refine hK.out _ _ (by exact ⟨K5.cs, K10.cs⟩) (fun hHeld => ?_)
  clear hK
  (try simp only [p0, p1, p2, p3])
  refine pR1 26 (fun K hK => ?_)
  go_simp
  (go_at_call 61; with_reducible refine (twice hR _ _ _ _ _).mono ?_)
  rintro _ w22 ⟨rfl, hb⟩
  (try go_wp2_with fail)
  replace K5 := K5.on hb
  replace K10 := K10.on hb
  replace K14 := K14.on hb
  replace Z15 := Z15.on hb
  replace BW := BW.trans (hb.mono BW.size)
  clear hb
  refine hK.out _ _ (by exact ⟨K5.cs, K10.cs⟩) (fun hHeld => ?_)
  clear hK
  (try simp only [p0, p1, p2, p3])
  refine pR1 35 (fun K hK => ?_)
  go_simp
  (go_at_call 61; with_reducible refine (twice hR _ _ _ _ _).mono ?_)
  rintro _ w23 ⟨rfl, hb⟩
  (try go_wp2_with fail)
  replace K5 := K5.on hb
  replace K10 := K10.on hb
  replace K14 := K14.on hb
  replace Z15 := Z15.on hb
  replace BW := BW.trans (hb.mono BW.size)
  clear hb
  refine hK.out _ _ (by exact ⟨K5.cs, K10.cs⟩) (fun hHeld => ?_)
  clear hK
  (try simp only [p0, p1, p2, p3])
  refine pT 36 ?_
  (try simp only [p0, p1, p2, p3])
  refine pR1 37 (fun K hK => ?_)
  obtain ⟨c24, c25, c26, c27⟩ := K14.c4
  obtain ⟨c28, c29, c30, c31⟩ := Z15.f4
  go_simp
  clear c24 c25 c26 c27 c28 c29 c30 c31
  obtain ⟨V32, hk34⟩ : ∃ V32, V32 = w23.setCells (w.heap.size + 1 + 1) 0 [.int .i64 (R.tw x.a y.a x.b y.c), .int .i64 (R.tw x.a y.b x.b y.d), .int .i64 (R.tw x.c y.a x.d y.c), .int .i64 (R.tw x.c y.b x.d y.d)] := ⟨_, rfl⟩
  have e33 := hk34
  simp only [World.setCells, Nat.zero_add, Nat.reduceAdd] at e33
  have hk35 := Kept.overE hk34 K14 rfl (by simp)
  replace K5 := K5.awayE hk34 n16
  replace K10 := K10.awayE hk34 n17
  replace K14 := K14.overE hk34 rfl
  replace BW := Below.putE BW hk34 g18
  clear hk34 hk35
  rw [← e33]
  clear e33
  refine hK.out _ _ (by exact ⟨K5.cs, K10.cs⟩) (fun hHeld => ?_)
  clear hK
  (try simp only [p0, p1, p2, p3])
  refine wpAnyH_done (by kernel_rfl) (NoPanic.normal ?_) _
  go_wp2
  obtain ⟨c36, c37, c38, c39⟩ := K14.c4
  exact bodyPost_ret (v := (.agg #[.int .i64 (R.tw x.a y.a x.b y.c), .int .i64 (R.tw x.a y.b x.b y.d), .int .i64 (R.tw x.c y.a x.d y.c), .int .i64 (R.tw x.c y.b x.d y.d)])) (by simp [results, Try.results40, go_sem, c36, c37, c38, c39]) rfl ⟨rfl, BW⟩
set_option maxHeartbeats 8000000 in
set_option maxRecDepth 20000 in
theorem turned {R : Rg} (hR : Hid (R = rt)) (x : Mz) (w : World) :
    Calls Try.prog 43 #[mv x] w (fun e w' => e = .returned (mv (R.turned x)) ∧ Below w.heap.size w w') := by
  have hm := mNeg
  have BW : Below w.heap.size w w := Below.refl _ _
  obtain ⟨V2, e3, hb4, K5, -, z1⟩ := alloc_new w [.int .i64 x.a, .int .i64 x.b, .int .i64 x.c, .int .i64 x.d] 71
  replace BW := BW.trans (hb4.mono BW.size)
  clear hb4
  obtain ⟨V6, e7, hb8, K9, Z10, -⟩ := alloc_new V2 [.int .i64 0, .int .i64 0, .int .i64 0, .int .i64 0] 71
  rw [z1] at K9 Z10
  have n11 : w.heap.size ≠ w.heap.size + 1 := Nat.ne_of_lt (z1 ▸ K5.lt)
  have g12 : w.heap.size ≤ w.heap.size + 1 := z1 ▸ BW.size
  replace K5 := K5.on hb8
  replace BW := BW.trans (hb8.mono BW.size)
  clear hb8
  clear z1
  go_enter Try.func43, Try.ntmps43
  go_wp2_with fail
  rw [← e3, ← e7]
  clear e3 e7
  refine wp_region_noPanic ?_
  have hb : Below V6.heap.size V6 V6.drew := (Below.refl _ _).drew
  replace K5 := K5.on hb
  replace K9 := K9.on hb
  replace Z10 := Z10.on hb
  replace BW := BW.trans (hb.mono BW.size)
  clear hb
  refine wp_region_held_drew (S := (fun wx => Cs wx (w.heap.size) 0 [.int .i64 x.a, .int .i64 x.b, .int .i64 x.c, .int .i64 x.d])) (by kernel_rfl) (by exact K5.cs) (fun hHeld => ?_)
  generalize V6.drew = Vd13 at *
  refine pT 0 ?_
  (try simp only [p0, p1, p2, p3])
  refine pT 1 ?_
  (try simp only [p0, p1, p2, p3])
  refine pT 2 ?_
  (try simp only [p0, p1, p2, p3])
  refine pT 3 ?_
  (try simp only [p0, p1, p2, p3])
  refine pT 4 ?_
  (try simp only [p0, p1, p2, p3])
  refine pT 6 ?_
  (try simp only [p0, p1, p2, p3])
  refine pT 7 ?_
  (try simp only [p0, p1, p2, p3])
  refine pT 8 ?_
  (try simp only [p0, p1, p2, p3])
  refine pT 10 ?_
  (try simp only [p0, p1, p2, p3])
  refine pT 11 ?_
  (try simp only [p0, p1, p2, p3])
  refine pR1 5 (fun K hK => ?_)
  go_simp
  (go_at_call 99; with_reducible refine (cneg_b hR _ _).mono ?_)
  rintro _ w14 ⟨rfl, hb⟩
  (try go_wp2_with fail)
  replace K5 := K5.on hb
  replace K9 := K9.on hb
  replace Z10 := Z10.on hb
  replace BW := BW.trans (hb.mono BW.size)
  clear hb
  refine hK.out _ _ (by exact K5.cs) (fun hHeld => ?_)
  clear hK
  (try simp only [p0, p1, p2, p3])
  refine pR1 9 (fun K hK => ?_)
  go_simp
  (go_at_call 99; with_reducible refine (cneg_b hR _ _).mono ?_)
  rintro _ w15 ⟨rfl, hb⟩
  (try go_wp2_with fail)
  replace K5 := K5.on hb
  replace K9 := K9.on hb
  replace Z10 := Z10.on hb
  replace BW := BW.trans (hb.mono BW.size)
  clear hb
  refine hK.out _ _ (by exact K5.cs) (fun hHeld => ?_)
  clear hK
  (try simp only [p0, p1, p2, p3])
  refine pT 12 ?_
  (try simp only [p0, p1, p2, p3])
  refine pR1 13 (fun K hK => ?_)
  obtain ⟨c16, c17, c18, c19⟩ := K9.c4
  obtain ⟨c20, c21, c22, c23⟩ := Z10.f4
  go_simp
  clear c16 c17 c18 c19 c20 c21 c22 c23
  obtain ⟨V24, hk26⟩ : ∃ V24, V24 = w15.setCells (w.heap.size + 1) 0 [.int .i64 x.d, .int .i64 (R.ng x.b), .int .i64 (R.ng x.c), .int .i64 x.a] := ⟨_, rfl⟩
  have e25 := hk26
  simp only [World.setCells, Nat.zero_add, Nat.reduceAdd] at e25
  have hk27 := Kept.overE hk26 K9 rfl (by simp)
  replace K5 := K5.awayE hk26 n11
  replace K9 := K9.overE hk26 rfl
  replace BW := Below.putE BW hk26 g12
  clear hk26 hk27
  rw [← e25]
  clear e25
  refine hK.out _ _ (by exact K5.cs) (fun hHeld => ?_)
  clear hK
  (try simp only [p0, p1, p2, p3])
  refine wpAnyH_done (by kernel_rfl) (NoPanic.normal ?_) _
  go_wp2
  obtain ⟨c28, c29, c30, c31⟩ := K9.c4
  exact bodyPost_ret (v := (.agg #[.int .i64 x.d, .int .i64 (R.ng x.b), .int .i64 (R.ng x.c), .int .i64 x.a])) (by simp [results, Try.results43, go_sem, c28, c29, c30, c31]) rfl ⟨rfl, BW⟩

end Go.Proofs.Ytgoackkfjieahaa.T
