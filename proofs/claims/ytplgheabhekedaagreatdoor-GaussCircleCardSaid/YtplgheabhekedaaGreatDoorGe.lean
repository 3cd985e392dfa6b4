/-
 What the statement about norms returns: yes. Conditions: that the numbers are no longer than memory.
-/
import Derived.Test.YtplgheabhekedaaGreatDoorGd
import Derived.Deep.RegionHeld3
import Derived.Deep.DeepCutAuto
import Derived.BigRegion
namespace Go.Proofs.YtplgheabhekedaaGreatDoor
open Go.RowKit Nb
theorem sgnQ_nn {z : Rat} (h : 0 ≤ z) : 0 ≤ sgnQ z := by
 unfold sgnQ
 have h1 : (0 : Rat).num * (z.den : Int) ≤ z.num * ((0 : Rat).den : Int) := (Rat.le_iff _ _).1 h
 have h2 : 0 ≤ z.num := by simpa using h1
 rcases Int.lt_trichotomy z.num 0 with h3 | h3 | h3
 ·omega
 ·rw [h3]; decide
 ·rw [Int.sign_eq_one_of_pos h3]; decide
theorem Gr.yes {W : World} {z y : Rat} {f g : Fv} {er : Int} (h : Gr W z y f g er) (h1 : FitsQ z) (h2 : FitsQ y) : er = 0 ∧ Ff W z f ∧ Ff W y g := (h.gk not_false).yes not_false h1 h2
theorem g_Unit2 {q : Rat} {a : Fv} {w : World} (Fa : Ff w q a) : Calls Tryz.prog 12 #[fv a] w (GGr w ((1 - q * q) / (1 + q * q)) ((q + q) / (1 + q * q))) := by
 have := g_Unit Fa
 rwa [show (1 * 1 + q * -q) / (1 * 1 + -q * -q) = (1 - q * q) / (1 + q * q) by grind, show (q * 1 - 1 * -q) / (1 * 1 + -q * -q) = (q + q) / (1 + q * q) by grind] at this
theorem f_cost {f : Fv} {w : World} : Calls Tryz.prog 8 #[fv f] w (fun e w' => (∃ k : Int, e = .returned (.int .i64 k)) ∧ Below w.heap.size w w') := fcost_any _ _ _ _ _ _ _ _ _
set_option maxHeartbeats 2000000 in
theorem beyond_one {g l : Nat} {k1 : Int} {w : World} (K : Box w g [.int .i64 k1]) :
  Calls Tryz.prog 7 #[.slice (some ⟨g, 0, none⟩) 1 l] w fun e w' => (∃ b : Bool, e = .returned (.bool b)) ∧ Below w.heap.size w w' := by
 have c0 := K.c 0 _ rfl
 clear K
 go_enter Tryz.func7, Tryz.ntmps7
 go_wp2
 refine wp_loop_rounds 2 ?_
 rw [rounds_succ]
 go_wp2
 all_goals try (go_ret; exact ⟨⟨_, rfl⟩, Below.refl _ _⟩)
 all_goals rw [rounds_succ]
 all_goals go_wp2
 all_goals (go_ret; exact ⟨⟨_, rfl⟩, Below.refl _ _⟩)
theorem of_one : Rat.divInt 1 1 = 1 := by decide +kernel
theorem fits_one : FitsQ 1 := fits_int (n := 1) (by decide)
theorem Ff.hq2 {w : World} {q : Rat} {f : Fv} (h : Ff w q f) (hs : 2 + (f.xs.length : Int) + (f.ds.length : Int) ≤ 200) : Hq 6336 q := h.hq.mono (by omega)
theorem sgnQ_of {z : Rat} (h : z = 0) : sgnQ z = 0 := by rw [h]; rfl
theorem sgnQ_ne {z : Rat} (h : z ≠ 0) : sgnQ z ≠ 0 := fun e => h (Rat.num_eq_zero.1 (Int.sign_eq_zero_iff_zero.1 e))
theorem circle_norm (s : Rat) : (1 - s * s) / (1 + s * s) * ((1 - s * s) / (1 + s * s)) + (s + s) / (1 + s * s) * ((s + s) / (1 + s * s)) = 1 := by
 have := one_sq s
 grind
theorem circle_opp {s t : Rat} (h : 1 - s * t = 0) : (1 - s * s) / (1 + s * s) * ((1 - t * t) / (1 + t * t)) - (s + s) / (1 + s * s) * ((t + t) / (1 + t * t)) = -1 ∧ (1 - s * s) / (1 + s * s) * ((t + t) / (1 + t * t)) + (s + s) / (1 + s * s) * ((1 - t * t) / (1 + t * t)) = 0 := by
 have h1 := one_sq s
 have h2 := one_sq t
 constructor <;> grind
theorem circle_mul {s t u : Rat} (h : 1 - s * t ≠ 0) (hu : u = (s + t) / (1 - s * t)) : (1 - s * s) / (1 + s * s) * ((1 - t * t) / (1 + t * t)) - (s + s) / (1 + s * s) * ((t + t) / (1 + t * t)) = (1 - u * u) / (1 + u * u) ∧ (1 - s * s) / (1 + s * s) * ((t + t) / (1 + t * t)) + (s + s) / (1 + s * s) * ((1 - t * t) / (1 + t * t)) = (u + u) / (1 + u * u) := by
 have h1 := one_sq s
 have h2 := one_sq t
 have h3 := one_sq u
 constructor <;> grind
set_option maxHeartbeats 16000000 in
set_option maxRecDepth 100000 in
theorem circle_walk {a b : Fv} {w : World} (Fa : Fx w a) (Fb : Fx w b) (htab : Tab w) :
  Calls Tryz.prog 3 #[fv a, fv b] w (fun e w' => e = .returned (.bool true) ∧ Below w.heap.size w w') := by
 have HT := Lib.hid htab
 clear htab
 have BW : Below w.heap.size w w := Below.refl _ _
 obtain ⟨V2, e3, hb4, K5, -, z1⟩ := alloc_new w [.bool a.n, .slice a.A a.xs.length a.c, .bool a.m, .slice a.B a.ds.length a.d] 26
 replace Fa := Fa.kp (Kept.of hb4)
 replace Fb := Fb.kp (Kept.of hb4)
 replace BW := BW.trans (hb4.mono BW.size)
 clear hb4
 obtain ⟨V6, e7, hb8, K9, -, -⟩ := alloc_new V2 [.bool b.n, .slice b.A b.xs.length b.c, .bool b.m, .slice b.B b.ds.length b.d] 26
 rw [z1] at K9
 replace K5 := K5.on hb8
 replace Fa := Fa.kp (Kept.of hb8)
 replace Fb := Fb.kp (Kept.of hb8)
 replace BW := BW.trans (hb8.mono BW.size)
 clear hb8
 clear z1
 go_enter Tryz.func3, Tryz.ntmps3
 go_wp2_with fail
 rw [← e3, ← e7]
 clear e3 e7
 refine (f_cost).mono ?_
 rintro _ w10 ⟨⟨k1, rfl⟩, hb⟩
 replace K5 := K5.on hb
 replace K9 := K9.on hb
 replace Fa := Fa.kp (Kept.of hb)
 replace Fb := Fb.kp (Kept.of hb)
 replace BW := BW.trans (hb.mono BW.size)
 clear hb
 obtain ⟨V11, e12, hb13, K14, -, -⟩ := alloc_new w10 [.int .i64 k1] 3
 replace K5 := K5.on hb13
 replace K9 := K9.on hb13
 replace Fa := Fa.kp (Kept.of hb13)
 replace Fb := Fb.kp (Kept.of hb13)
 replace BW := BW.trans (hb13.mono BW.size)
 clear hb13
 go_wp2_with fail
 rw [← e12]
 clear e12
 generalize w10.heap.size = b15 at *
 refine (beyond_one K14).mono ?_
 rintro _ w16 ⟨⟨r, rfl⟩, hb⟩
 replace K5 := K5.on hb
 replace K9 := K9.on hb
 replace K14 := K14.on hb
 replace Fa := Fa.kp (Kept.of hb)
 replace Fb := Fb.kp (Kept.of hb)
 replace BW := BW.trans (hb.mono BW.size)
 clear hb
 clear K14
 rcases Bool.eq_false_or_eq_true r with rfl | rfl
 ·go_wp2_with fail
  refine (alive_any (tab_below HT.out BW)).mono ?_
  rintro _ w17 ⟨rfl, hb⟩
  replace BW := BW.trans (hb.mono BW.size)
  clear hb
  go_wp2_with fail
  exact bodyPost_ret (v := .bool true) (by simp [results, Tryz.results3, go_sem]) rfl ⟨rfl, BW⟩
 ·obtain ⟨c17, c18, c19, c20⟩ := K5.c4
  go_wp2_with fail
  clear c17 c18 c19 c20
  refine (f_size Fa).mono ?_
  rintro _ w21 ⟨rfl, hb⟩
  replace K5 := K5.on hb
  replace K9 := K9.on hb
  replace Fa := Fa.kp (Kept.of hb)
  replace Fb := Fb.kp (Kept.of hb)
  replace BW := BW.trans (hb.mono BW.size)
  clear hb
  have HZ0 := Lib.hid (show ∀ s : Int, 2 + (a.xs.length : Int) + (a.ds.length : Int) = s → 2 + (a.xs.length : Int) + (a.ds.length : Int) = s from fun _ h => h)
  replace HZ0 := Lib.hid (HZ0.out _ rfl)
  generalize hzz : 2 + (a.xs.length : Int) + (a.ds.length : Int) = s0 at *
  replace HZ0 := Lib.hid hzz
  clear hzz
  by_cases hg0 : 200 < s0
  ·go_wp2_with fail
   refine (alive_any (tab_below HT.out BW)).mono ?_
   rintro _ w22 ⟨rfl, hb⟩
   replace BW := BW.trans (hb.mono BW.size)
   clear hb
   go_wp2_with fail
   exact bodyPost_ret (v := .bool true) (by simp [results, Tryz.results3, go_sem]) rfl ⟨rfl, BW⟩
  ·have HG0 := Lib.hid hg0
   obtain ⟨c22, c23, c24, c25⟩ := K9.c4
   go_wp2_with fail
   clear c22 c23 c24 c25
   refine (f_size Fb).mono ?_
   rintro _ w26 ⟨rfl, hb⟩
   replace K5 := K5.on hb
   replace K9 := K9.on hb
   replace Fa := Fa.kp (Kept.of hb)
   replace Fb := Fb.kp (Kept.of hb)
   replace BW := BW.trans (hb.mono BW.size)
   clear hb
   have HZ1 := Lib.hid (show ∀ s : Int, 2 + (b.xs.length : Int) + (b.ds.length : Int) = s → 2 + (b.xs.length : Int) + (b.ds.length : Int) = s from fun _ h => h)
   replace HZ1 := Lib.hid (HZ1.out _ rfl)
   generalize hzz : 2 + (b.xs.length : Int) + (b.ds.length : Int) = s1 at *
   replace HZ1 := Lib.hid hzz
   clear hzz
   by_cases hg1 : 200 < s1
   ·go_wp2_with fail
    refine (alive_any (tab_below HT.out BW)).mono ?_
    rintro _ w27 ⟨rfl, hb⟩
    replace BW := BW.trans (hb.mono BW.size)
    clear hb
    go_wp2_with fail
    exact bodyPost_ret (v := .bool true) (by simp [results, Tryz.results3, go_sem]) rfl ⟨rfl, BW⟩
   ·have HG1 := Lib.hid hg1
    obtain ⟨c27, c28, c29, c30⟩ := K5.c4
    go_wp2_with fail
    clear c27 c28 c29 c30
    refine (r_check Fa).mono ?_
    rintro _ w31 ⟨rfl, hb⟩
    replace K5 := K5.on hb
    replace K9 := K9.on hb
    replace Fa := Fa.kp (Kept.of hb)
    replace Fb := Fb.kp (Kept.of hb)
    replace BW := BW.trans (hb.mono BW.size)
    clear hb
    have kk := chkv_two a
    have HO0 := Lib.hid (fun h : chkv a = 0 => chkv_zero h)
    generalize chkv a = ck0 at *
    rcases kk with rfl | rfl
    ·obtain ⟨c32, c33, c34, c35⟩ := K9.c4
     go_wp2_with fail
     clear c32 c33 c34 c35
     refine (r_check Fb).mono ?_
     rintro _ w36 ⟨rfl, hb⟩
     replace K5 := K5.on hb
     replace K9 := K9.on hb
     replace Fa := Fa.kp (Kept.of hb)
     replace Fb := Fb.kp (Kept.of hb)
     replace BW := BW.trans (hb.mono BW.size)
     clear hb
     have kk := chkv_two b
     have HO1 := Lib.hid (fun h : chkv b = 0 => chkv_zero h)
     generalize chkv b = ck1 at *
     rcases kk with rfl | rfl
     ·obtain ⟨s, La⟩ := (HO0.out (by trivial)).ff Fa
      obtain ⟨t, Lb⟩ := (HO1.out (by trivial)).ff Fb
      clear HO0 HO1 Fa Fb
      have hX := La.hq2 (by have := HG0.out; have := HZ0.out; omega)
      have hY := Lb.hq2 (by have := HG1.out; have := HZ1.out; omega)
      clear HG0 HG1 HZ0 HZ1
      have hU := hX.unit
      have hV := hY.unit
      have hW := hU.mul hV
      have hP := hX.mul hY
      have hM := Hq.one.sub hP
      have hA := hX.add hY
      have HN := Lib.hid (And.intro hU (And.intro hV (And.intro hW (And.intro hP (And.intro hM hA)))))
      clear hX hY hU hV hW hP hM hA
      obtain ⟨V37, e38, hb39, K40, Z41, -⟩ := alloc_new w36 [.bool true] 4
      have n42 : w.heap.size ≠ w36.heap.size := Nat.ne_of_lt (K5.lt)
      have n43 : w.heap.size + 1 ≠ w36.heap.size := Nat.ne_of_lt (K9.lt)
      have g44 : w.heap.size ≤ w36.heap.size := BW.size
      replace K5 := K5.on hb39
      replace K9 := K9.on hb39
      replace La := La.kp (Kept.of hb39)
      replace Lb := Lb.kp (Kept.of hb39)
      replace BW := BW.trans (hb39.mono BW.size)
      clear hb39
      obtain ⟨c45, c46, c47, c48⟩ := K5.c4
      rw [e38] at c45 c46 c47 c48
      go_wp2_with fail
      clear c45 c46 c47 c48
      rw [← e38]
      clear e38
      generalize w36.heap.size = b49 at *
      clear hg0 hg1
      refine (g_Unit2 La).mono ?_
      rintro _ w50 ⟨f1, g1, er, rfl, R1, hb⟩
      replace K5 := K5.on hb
      replace K9 := K9.on hb
      replace K40 := K40.on hb
      replace Z41 := Z41.on hb
      replace La := La.kp (Kept.of hb)
      replace Lb := Lb.kp (Kept.of hb)
      replace BW := BW.trans (hb.mono BW.size)
      clear hb
      obtain ⟨rfl, L1, M1⟩ := R1.yes (HN.out.1.re.fits (by decide)) (HN.out.1.im.fits (by decide))
      clear R1
      obtain ⟨V51, e52, hb53, K54, -, -⟩ := alloc_new w50 [.bool f1.n, .slice f1.A f1.xs.length f1.c, .bool f1.m, .slice f1.B f1.ds.length f1.d, .bool g1.n, .slice g1.A g1.xs.length g1.c, .bool g1.m, .slice g1.B g1.ds.length g1.d] 33
      have n55 : b49 ≠ w50.heap.size := Nat.ne_of_lt (K40.lt)
      replace K5 := K5.on hb53
      replace K9 := K9.on hb53
      replace K40 := K40.on hb53
      replace Z41 := Z41.on hb53
      replace La := La.kp (Kept.of hb53)
      replace Lb := Lb.kp (Kept.of hb53)
      replace L1 := L1.kp (Kept.of hb53)
      replace M1 := M1.kp (Kept.of hb53)
      replace BW := BW.trans (hb53.mono BW.size)
      clear hb53
      obtain ⟨c56, c57, c58, c59⟩ := K9.c4
      rw [e52] at c56 c57 c58 c59
      go_wp2_with fail
      clear c56 c57 c58 c59
      rw [← e52]
      clear e52
      generalize w50.heap.size = b60 at *
      refine (g_Unit2 Lb).mono ?_
      rintro _ w61 ⟨f2, g2, er, rfl, R2, hb⟩
      replace K5 := K5.on hb
      replace K9 := K9.on hb
      replace K40 := K40.on hb
      replace K54 := K54.on hb
      replace Z41 := Z41.on hb
      replace La := La.kp (Kept.of hb)
      replace Lb := Lb.kp (Kept.of hb)
      replace L1 := L1.kp (Kept.of hb)
      replace M1 := M1.kp (Kept.of hb)
      replace BW := BW.trans (hb.mono BW.size)
      clear hb
      obtain ⟨rfl, L2, M2⟩ := R2.yes (HN.out.2.1.re.fits (by decide)) (HN.out.2.1.im.fits (by decide))
      clear R2
      obtain ⟨V62, e63, hb64, K65, -, -⟩ := alloc_new w61 [.bool f2.n, .slice f2.A f2.xs.length f2.c, .bool f2.m, .slice f2.B f2.ds.length f2.d, .bool g2.n, .slice g2.A g2.xs.length g2.c, .bool g2.m, .slice g2.B g2.ds.length g2.d] 33
      have n66 : b49 ≠ w61.heap.size := Nat.ne_of_lt (K40.lt)
      replace K5 := K5.on hb64
      replace K9 := K9.on hb64
      replace K40 := K40.on hb64
      replace K54 := K54.on hb64
      replace Z41 := Z41.on hb64
      replace La := La.kp (Kept.of hb64)
      replace Lb := Lb.kp (Kept.of hb64)
      replace L1 := L1.kp (Kept.of hb64)
      replace M1 := M1.kp (Kept.of hb64)
      replace L2 := L2.kp (Kept.of hb64)
      replace M2 := M2.kp (Kept.of hb64)
      replace BW := BW.trans (hb64.mono BW.size)
      clear hb64
      obtain ⟨c67, c68, c69, c70, c71, c72, c73, c74⟩ := K54.c8
      rw [e63] at c67 c68 c69 c70 c71 c72 c73 c74
      go_wp2_with fail
      clear c67 c68 c69 c70 c71 c72 c73 c74
      rw [← e63]
      clear e63
      generalize w61.heap.size = b75 at *
      refine (g_Norm L1 M1).mono ?_
      rintro _ w76 ⟨f3, er, rfl, R3, hb⟩
      replace K5 := K5.on hb
      replace K9 := K9.on hb
      replace K40 := K40.on hb
      replace K54 := K54.on hb
      replace K65 := K65.on hb
      replace Z41 := Z41.on hb
      replace La := La.kp (Kept.of hb)
      replace Lb := Lb.kp (Kept.of hb)
      replace L1 := L1.kp (Kept.of hb)
      replace M1 := M1.kp (Kept.of hb)
      replace L2 := L2.kp (Kept.of hb)
      replace M2 := M2.kp (Kept.of hb)
      replace BW := BW.trans (hb.mono BW.size)
      clear hb
      obtain ⟨rfl, L3⟩ := R3.yes not_false (by rw [circle_norm]; exact fits_one)
      clear R3
      replace L3 := L3.to (circle_norm s)
      obtain ⟨V77, e78, hb79, K80, -, -⟩ := alloc_new w76 [.bool f3.n, .slice f3.A f3.xs.length f3.c, .bool f3.m, .slice f3.B f3.ds.length f3.d] 26
      have n81 : b49 ≠ w76.heap.size := Nat.ne_of_lt (K40.lt)
      replace K5 := K5.on hb79
      replace K9 := K9.on hb79
      replace K40 := K40.on hb79
      replace K54 := K54.on hb79
      replace K65 := K65.on hb79
      replace Z41 := Z41.on hb79
      replace La := La.kp (Kept.of hb79)
      replace Lb := Lb.kp (Kept.of hb79)
      replace L1 := L1.kp (Kept.of hb79)
      replace M1 := M1.kp (Kept.of hb79)
      replace L2 := L2.kp (Kept.of hb79)
      replace M2 := M2.kp (Kept.of hb79)
      replace L3 := L3.kp (Kept.of hb79)
      replace BW := BW.trans (hb79.mono BW.size)
      clear hb79
      go_wp2_with fail
      rw [← e78]
      clear e78
      generalize w76.heap.size = b82 at *
      refine (r_of 1 1 _ (by decide) (by decide) (by decide) (by decide)).mono ?_
      rintro _ w83 ⟨f4, er, rfl, R4, hb⟩
      replace K5 := K5.on hb
      replace K9 := K9.on hb
      replace K40 := K40.on hb
      replace K54 := K54.on hb
      replace K65 := K65.on hb
      replace K80 := K80.on hb
      replace Z41 := Z41.on hb
      replace La := La.kp (Kept.of hb)
      replace Lb := Lb.kp (Kept.of hb)
      replace L1 := L1.kp (Kept.of hb)
      replace M1 := M1.kp (Kept.of hb)
      replace L2 := L2.kp (Kept.of hb)
      replace M2 := M2.kp (Kept.of hb)
      replace L3 := L3.kp (Kept.of hb)
      replace BW := BW.trans (hb.mono BW.size)
      clear hb
      obtain ⟨rfl, L4⟩ := R4.yes (by decide) (by rw [of_one]; exact fits_one)
      clear R4
      replace L4 := L4.to of_one
      obtain ⟨V84, e85, hb86, K87, -, -⟩ := alloc_new w83 [.bool f4.n, .slice f4.A f4.xs.length f4.c, .bool f4.m, .slice f4.B f4.ds.length f4.d] 26
      have n88 : b49 ≠ w83.heap.size := Nat.ne_of_lt (K40.lt)
      replace K5 := K5.on hb86
      replace K9 := K9.on hb86
      replace K40 := K40.on hb86
      replace K54 := K54.on hb86
      replace K65 := K65.on hb86
      replace K80 := K80.on hb86
      replace Z41 := Z41.on hb86
      replace La := La.kp (Kept.of hb86)
      replace Lb := Lb.kp (Kept.of hb86)
      replace L1 := L1.kp (Kept.of hb86)
      replace M1 := M1.kp (Kept.of hb86)
      replace L2 := L2.kp (Kept.of hb86)
      replace M2 := M2.kp (Kept.of hb86)
      replace L3 := L3.kp (Kept.of hb86)
      replace L4 := L4.kp (Kept.of hb86)
      replace BW := BW.trans (hb86.mono BW.size)
      clear hb86
      obtain ⟨c89, c90, c91, c92⟩ := K5.c4
      obtain ⟨c93, c94, c95, c96⟩ := K9.c4
      rw [e85] at c89 c90 c91 c92 c93 c94 c95 c96
      go_wp2_with fail
      clear c89 c90 c91 c92 c93 c94 c95 c96
      rw [← e85]
      clear e85
      generalize w83.heap.size = b97 at *
      refine (r_mul La Lb).mono ?_
      rintro _ w98 ⟨f5, er, rfl, R5, hb⟩
      replace K5 := K5.on hb
      replace K9 := K9.on hb
      replace K40 := K40.on hb
      replace K54 := K54.on hb
      replace K65 := K65.on hb
      replace K80 := K80.on hb
      replace K87 := K87.on hb
      replace Z41 := Z41.on hb
      replace La := La.kp (Kept.of hb)
      replace Lb := Lb.kp (Kept.of hb)
      replace L1 := L1.kp (Kept.of hb)
      replace M1 := M1.kp (Kept.of hb)
      replace L2 := L2.kp (Kept.of hb)
      replace M2 := M2.kp (Kept.of hb)
      replace L3 := L3.kp (Kept.of hb)
      replace L4 := L4.kp (Kept.of hb)
      replace BW := BW.trans (hb.mono BW.size)
      clear hb
      obtain ⟨rfl, L5⟩ := R5.yes not_false (HN.out.2.2.2.1.fits (by decide))
      clear R5
      obtain ⟨V99, e100, hb101, K102, -, -⟩ := alloc_new w98 [.bool f5.n, .slice f5.A f5.xs.length f5.c, .bool f5.m, .slice f5.B f5.ds.length f5.d] 26
      have n103 : b49 ≠ w98.heap.size := Nat.ne_of_lt (K40.lt)
      replace K5 := K5.on hb101
      replace K9 := K9.on hb101
      replace K40 := K40.on hb101
      replace K54 := K54.on hb101
      replace K65 := K65.on hb101
      replace K80 := K80.on hb101
      replace K87 := K87.on hb101
      replace Z41 := Z41.on hb101
      replace La := La.kp (Kept.of hb101)
      replace Lb := Lb.kp (Kept.of hb101)
      replace L1 := L1.kp (Kept.of hb101)
      replace M1 := M1.kp (Kept.of hb101)
      replace L2 := L2.kp (Kept.of hb101)
      replace M2 := M2.kp (Kept.of hb101)
      replace L3 := L3.kp (Kept.of hb101)
      replace L4 := L4.kp (Kept.of hb101)
      replace L5 := L5.kp (Kept.of hb101)
      replace BW := BW.trans (hb101.mono BW.size)
      clear hb101
      obtain ⟨c104, c105, c106, c107⟩ := K87.c4
      rw [e100] at c104 c105 c106 c107
      go_wp2_with fail
      clear c104 c105 c106 c107
      rw [← e100]
      clear e100
      generalize w98.heap.size = b108 at *
      refine (r_sub L4 L5).mono ?_
      rintro _ w109 ⟨f6, er, rfl, R6, hb⟩
      replace K5 := K5.on hb
      replace K9 := K9.on hb
      replace K40 := K40.on hb
      replace K54 := K54.on hb
      replace K65 := K65.on hb
      replace K80 := K80.on hb
      replace K87 := K87.on hb
      replace Z41 := Z41.on hb
      replace La := La.kp (Kept.of hb)
      replace Lb := Lb.kp (Kept.of hb)
      replace L1 := L1.kp (Kept.of hb)
      replace M1 := M1.kp (Kept.of hb)
      replace L2 := L2.kp (Kept.of hb)
      replace M2 := M2.kp (Kept.of hb)
      replace L3 := L3.kp (Kept.of hb)
      replace L4 := L4.kp (Kept.of hb)
      replace BW := BW.trans (hb.mono BW.size)
      clear hb
      obtain ⟨rfl, L6⟩ := R6.yes not_false (HN.out.2.2.2.2.1.fits (by decide))
      clear R6
      obtain ⟨V110, e111, hb112, K113, -, -⟩ := alloc_new w109 [.bool f6.n, .slice f6.A f6.xs.length f6.c, .bool f6.m, .slice f6.B f6.ds.length f6.d] 26
      have n114 : b49 ≠ w109.heap.size := Nat.ne_of_lt (K40.lt)
      replace K5 := K5.on hb112
      replace K9 := K9.on hb112
      replace K40 := K40.on hb112
      replace K54 := K54.on hb112
      replace K65 := K65.on hb112
      replace K80 := K80.on hb112
      replace K87 := K87.on hb112
      replace Z41 := Z41.on hb112
      replace La := La.kp (Kept.of hb112)
      replace Lb := Lb.kp (Kept.of hb112)
      replace L1 := L1.kp (Kept.of hb112)
      replace M1 := M1.kp (Kept.of hb112)
      replace L2 := L2.kp (Kept.of hb112)
      replace M2 := M2.kp (Kept.of hb112)
      replace L3 := L3.kp (Kept.of hb112)
      replace L4 := L4.kp (Kept.of hb112)
      replace L6 := L6.kp (Kept.of hb112)
      replace BW := BW.trans (hb112.mono BW.size)
      clear hb112
      obtain ⟨c115, c116, c117, c118⟩ := K5.c4
      obtain ⟨c119, c120, c121, c122⟩ := K9.c4
      rw [e111] at c115 c116 c117 c118 c119 c120 c121 c122
      go_wp2_with fail
      clear c115 c116 c117 c118 c119 c120 c121 c122
      rw [← e111]
      clear e111
      generalize w109.heap.size = b123 at *
      refine (r_add La Lb).mono ?_
      rintro _ w124 ⟨f7, er, rfl, R7, hb⟩
      replace K40 := K40.on hb
      replace K54 := K54.on hb
      replace K65 := K65.on hb
      replace K80 := K80.on hb
      replace K87 := K87.on hb
      replace K113 := K113.on hb
      replace Z41 := Z41.on hb
      replace L1 := L1.kp (Kept.of hb)
      replace M1 := M1.kp (Kept.of hb)
      replace L2 := L2.kp (Kept.of hb)
      replace M2 := M2.kp (Kept.of hb)
      replace L3 := L3.kp (Kept.of hb)
      replace L4 := L4.kp (Kept.of hb)
      replace L6 := L6.kp (Kept.of hb)
      replace BW := BW.trans (hb.mono BW.size)
      clear hb
      obtain ⟨rfl, L7⟩ := R7.yes not_false (HN.out.2.2.2.2.2.fits (by decide))
      clear R7
      obtain ⟨V125, e126, hb127, K128, -, -⟩ := alloc_new w124 [.bool f7.n, .slice f7.A f7.xs.length f7.c, .bool f7.m, .slice f7.B f7.ds.length f7.d] 26
      have n129 : b49 ≠ w124.heap.size := Nat.ne_of_lt (K40.lt)
      replace K40 := K40.on hb127
      replace K54 := K54.on hb127
      replace K65 := K65.on hb127
      replace K80 := K80.on hb127
      replace K87 := K87.on hb127
      replace K113 := K113.on hb127
      replace Z41 := Z41.on hb127
      replace L1 := L1.kp (Kept.of hb127)
      replace M1 := M1.kp (Kept.of hb127)
      replace L2 := L2.kp (Kept.of hb127)
      replace M2 := M2.kp (Kept.of hb127)
      replace L3 := L3.kp (Kept.of hb127)
      replace L4 := L4.kp (Kept.of hb127)
      replace L6 := L6.kp (Kept.of hb127)
      replace L7 := L7.kp (Kept.of hb127)
      replace BW := BW.trans (hb127.mono BW.size)
      clear hb127
      obtain ⟨c130, c131, c132, c133⟩ := K80.c4
      obtain ⟨c134, c135, c136, c137⟩ := K87.c4
      rw [e126] at c130 c131 c132 c133 c134 c135 c136 c137
      go_wp2_with fail
      clear c130 c131 c132 c133 c134 c135 c136 c137
      rw [← e126]
      clear e126
      generalize w124.heap.size = b138 at *
      refine (r_same L3 L4).mono ?_
      rintro _ w139 ⟨rfl, hb⟩
      replace K40 := K40.on hb
      replace K54 := K54.on hb
      replace K65 := K65.on hb
      replace K113 := K113.on hb
      replace K128 := K128.on hb
      replace Z41 := Z41.on hb
      replace L1 := L1.kp (Kept.of hb)
      replace M1 := M1.kp (Kept.of hb)
      replace L2 := L2.kp (Kept.of hb)
      replace M2 := M2.kp (Kept.of hb)
      replace L6 := L6.kp (Kept.of hb)
      replace L7 := L7.kp (Kept.of hb)
      replace BW := BW.trans (hb.mono BW.size)
      clear hb
      rw [decide_eq_true rfl]
      obtain ⟨c140, c141, c142, c143, c144, c145, c146, c147⟩ := K54.c8
      obtain ⟨c148, c149, c150, c151, c152, c153, c154, c155⟩ := K65.c8
      go_wp2_with fail
      clear c140 c141 c142 c143 c144 c145 c146 c147 c148 c149 c150 c151 c152 c153 c154 c155
      refine (h_times L1 M1 L2 M2 K40 Z41 (HN.out.2.2.1.re.fits (by decide)) (HN.out.2.2.1.im.fits (by decide))).mono ?_
      rintro _ w156 ⟨f8, g8, rfl, L8, M8, hb⟩
      replace K40 := K40.on hb
      replace K113 := K113.on hb
      replace K128 := K128.on hb
      replace L6 := L6.kp (Kept.of hb)
      replace L7 := L7.kp (Kept.of hb)
      replace BW := BW.trans (hb.mono BW.size)
      clear hb
      obtain ⟨V157, e158, hb159, K160, -, -⟩ := alloc_new w156 [.bool f8.n, .slice f8.A f8.xs.length f8.c, .bool f8.m, .slice f8.B f8.ds.length f8.d, .bool g8.n, .slice g8.A g8.xs.length g8.c, .bool g8.m, .slice g8.B g8.ds.length g8.d] 33
      have n161 : b49 ≠ w156.heap.size := Nat.ne_of_lt (K40.lt)
      replace K40 := K40.on hb159
      replace K113 := K113.on hb159
      replace K128 := K128.on hb159
      replace L6 := L6.kp (Kept.of hb159)
      replace L7 := L7.kp (Kept.of hb159)
      replace L8 := L8.kp (Kept.of hb159)
      replace M8 := M8.kp (Kept.of hb159)
      replace BW := BW.trans (hb159.mono BW.size)
      clear hb159
      obtain ⟨c162, c163, c164, c165⟩ := K113.c4
      rw [e158] at c162 c163 c164 c165
      go_wp2_with fail
      clear c162 c163 c164 c165
      rw [← e158]
      clear e158
      generalize w156.heap.size = b166 at *
      refine (r_sign L6).mono ?_
      rintro _ w167 ⟨rfl, hb⟩
      replace K40 := K40.on hb
      replace K113 := K113.on hb
      replace K128 := K128.on hb
      replace K160 := K160.on hb
      replace L6 := L6.kp (Kept.of hb)
      replace L7 := L7.kp (Kept.of hb)
      replace L8 := L8.kp (Kept.of hb)
      replace M8 := M8.kp (Kept.of hb)
      replace BW := BW.trans (hb.mono BW.size)
      clear hb
      by_cases hd : 1 - s * t = 0
      ·rw [sgnQ_of hd]
       replace L8 := L8.to (circle_opp hd).1
       replace M8 := M8.to (circle_opp hd).2
       go_wp2_with fail
       refine wp_region_noPanic ?_
       have hb : Below w167.heap.size w167 w167.drew := (Below.refl _ _).drew
       replace K40 := K40.on hb
       replace K160 := K160.on hb
       replace L8 := L8.kp (Kept.of hb)
       replace M8 := M8.kp (Kept.of hb)
       replace BW := BW.trans (hb.mono BW.size)
       clear hb
       refine wp_region_held_drew (S := (fun wx => Cs wx (b49) 0 [.bool true] ∧ Cs wx (b166) 0 [.bool f8.n, .slice f8.A f8.xs.length f8.c, .bool f8.m, .slice f8.B f8.ds.length f8.d, .bool g8.n, .slice g8.A g8.xs.length g8.c, .bool g8.m, .slice g8.B g8.ds.length g8.d])) (by kernel_rfl) (by exact ⟨K40.cs, K160.cs⟩) (fun hHeld => ?_)
       generalize w167.drew = Vd168 at *
       refine pT 0 ?_
       (try simp only [p0, p1, p2, p3])
       refine pT 1 ?_
       (try simp only [p0, p1, p2, p3])
       refine pT 2 ?_
       (try simp only [p0, p1, p2, p3])
       refine pR1 3 (fun K hK => ?_)
       go_simp
       (go_at_call 22; with_reducible refine (g_Of (n := -1) (m := 0) (by decide) (by decide) (by decide) (by decide)).mono ?_)
       rintro _ w169 ⟨f9, g9, rfl, L9, M9, hb⟩
       (try go_wp2_with fail)
       replace K40 := K40.on hb
       replace K160 := K160.on hb
       replace L8 := L8.kp (Kept.of hb)
       replace M8 := M8.kp (Kept.of hb)
       replace BW := BW.trans (hb.mono BW.size)
       clear hb
       replace L9 := L9.to (p := -1) (by decide +kernel)
       replace M9 := M9.to (p := 0) (by decide +kernel)
       refine hK.out _ _ (by exact ⟨K40.cs, K160.cs⟩) (fun hHeld => ?_)
       clear hK
       (try simp only [p0, p1, p2, p3])
       refine pR1 4 (fun K hK => ?_)
       go_simp
       (go_at_call 21; with_reducible refine (g_same L8 M8 L9 M9).mono ?_)
       rintro _ w170 ⟨rfl, hb⟩
       (try go_wp2_with fail)
       replace K40 := K40.on hb
       replace K160 := K160.on hb
       replace BW := BW.trans (hb.mono BW.size)
       clear hb
       (try rw [decide_eq_true (show (-1 : Rat) = -1 ∧ (0 : Rat) = 0 from ⟨rfl, rfl⟩)])
       refine hK.out _ _ (by exact ⟨K40.cs, K160.cs⟩) (fun hHeld => ?_)
       clear hK
       (try simp only [p0, p1, p2, p3])
       refine pT 5 ?_
       (try simp only [p0, p1, p2, p3])
       refine pT 6 ?_
       (try simp only [p0, p1, p2, p3])
       refine pR1 7 (fun K hK => ?_)
       go_simp
       (go_at_call 11; with_reducible refine (alive_any (tab_below HT.out BW)).mono ?_)
       rintro _ w171 ⟨rfl, hb⟩
       (try go_wp2_with fail)
       replace K40 := K40.on hb
       replace K160 := K160.on hb
       replace BW := BW.trans (hb.mono BW.size)
       clear hb
       refine hK.out _ _ (by exact ⟨K40.cs, K160.cs⟩) (fun hHeld => ?_)
       clear hK
       (try simp only [p0, p1, p2, p3])
       refine pT 8 ?_
       (try simp only [p0, p1, p2, p3])
       refine pT 9 ?_
       (try simp only [p0, p1, p2, p3])
       refine wpAnyH_done (by kernel_rfl) (NoPanic.normal ?_) _
       go_wp2
       exact bodyPost_ret (v := .bool true) (by simp [results, Tryz.results3, go_sem]) rfl ⟨rfl, BW⟩
      ·obtain ⟨sd, hsd⟩ : ∃ sd, sgnQ (1 - s * t) = sd := ⟨_, rfl⟩
       have hs0 : sd ≠ 0 := hsd ▸ sgnQ_ne hd
       rw [hsd]
       clear hsd
       obtain ⟨c168, c169, c170, c171⟩ := K113.c4
       obtain ⟨c172, c173, c174, c175⟩ := K128.c4
       go_wp2_with fail
       clear c168 c169 c170 c171 c172 c173 c174 c175
       have hnum : ¬ (1 - s * t).num = 0 := fun e => hd (Rat.num_eq_zero.1 e)
       have hq := HN.out.2.2.2.2.2.quo HN.out.2.2.2.2.1 hd
       have hu := hq.unit
       have HQ := Lib.hid (And.intro hnum (And.intro hq (And.intro hu (circle_mul hd rfl))))
       clear hnum hq hu hs0
       refine (r_quo L7 L6).mono ?_
       rintro _ w176 ⟨f10, er, rfl, R10, hb⟩
       replace K40 := K40.on hb
       replace K160 := K160.on hb
       replace L8 := L8.kp (Kept.of hb)
       replace M8 := M8.kp (Kept.of hb)
       replace BW := BW.trans (hb.mono BW.size)
       clear hb
       obtain ⟨rfl, L10⟩ := R10.yes HQ.out.1 (HQ.out.2.1.fits (by decide))
       clear R10
       obtain ⟨V177, e178, hb179, K180, -, -⟩ := alloc_new w176 [.bool f10.n, .slice f10.A f10.xs.length f10.c, .bool f10.m, .slice f10.B f10.ds.length f10.d] 26
       have n181 : b49 ≠ w176.heap.size := Nat.ne_of_lt (K40.lt)
       replace K40 := K40.on hb179
       replace K160 := K160.on hb179
       replace L8 := L8.kp (Kept.of hb179)
       replace M8 := M8.kp (Kept.of hb179)
       replace L10 := L10.kp (Kept.of hb179)
       replace BW := BW.trans (hb179.mono BW.size)
       clear hb179
       go_wp2_with fail
       rw [← e178]
       clear e178
       generalize w176.heap.size = b182 at *
       refine (g_Unit2 L10).mono ?_
       rintro _ w183 ⟨f11, g11, er, rfl, R11, hb⟩
       replace K40 := K40.on hb
       replace K160 := K160.on hb
       replace L8 := L8.kp (Kept.of hb)
       replace M8 := M8.kp (Kept.of hb)
       replace BW := BW.trans (hb.mono BW.size)
       clear hb
       obtain ⟨rfl, L11, M11⟩ := R11.yes (HQ.out.2.2.1.re.fits (by decide)) (HQ.out.2.2.1.im.fits (by decide))
       clear R11
       replace L8 := L8.to HQ.out.2.2.2.1
       replace M8 := M8.to HQ.out.2.2.2.2
       obtain ⟨V184, e185, hb186, K187, -, -⟩ := alloc_new w183 [.bool f11.n, .slice f11.A f11.xs.length f11.c, .bool f11.m, .slice f11.B f11.ds.length f11.d, .bool g11.n, .slice g11.A g11.xs.length g11.c, .bool g11.m, .slice g11.B g11.ds.length g11.d] 33
       have n188 : b49 ≠ w183.heap.size := Nat.ne_of_lt (K40.lt)
       replace K40 := K40.on hb186
       replace K160 := K160.on hb186
       replace L8 := L8.kp (Kept.of hb186)
       replace M8 := M8.kp (Kept.of hb186)
       replace L11 := L11.kp (Kept.of hb186)
       replace M11 := M11.kp (Kept.of hb186)
       replace BW := BW.trans (hb186.mono BW.size)
       clear hb186
       have c189 := K40.c1
       obtain ⟨c190, c191, c192, c193, c194, c195, c196, c197⟩ := K160.c8
       rw [e185] at c189 c190 c191 c192 c193 c194 c195 c196 c197
       go_wp2_with fail
       clear c189 c190 c191 c192 c193 c194 c195 c196 c197
       rw [← e185]
       clear e185
       generalize w183.heap.size = b198 at *
       refine (g_same L8 M8 L11 M11).mono ?_
       rintro _ w199 ⟨rfl, hb⟩
       replace BW := BW.trans (hb.mono BW.size)
       clear hb
       rw [decide_eq_true (And.intro rfl rfl)]
       go_wp2_with fail
       refine (alive_any (tab_below HT.out BW)).mono ?_
       rintro _ w200 ⟨rfl, hb⟩
       replace BW := BW.trans (hb.mono BW.size)
       clear hb
       go_wp2_with fail
       exact bodyPost_ret (v := .bool true) (by simp [results, Tryz.results3, go_sem]) rfl ⟨rfl, BW⟩
     ·go_wp2_with fail
      refine (alive_any (tab_below HT.out BW)).mono ?_
      rintro _ w37 ⟨rfl, hb⟩
      replace BW := BW.trans (hb.mono BW.size)
      clear hb
      go_wp2_with fail
      exact bodyPost_ret (v := .bool true) (by simp [results, Tryz.results3, go_sem]) rfl ⟨rfl, BW⟩
    ·go_wp2_with fail
     refine (alive_any (tab_below HT.out BW)).mono ?_
     rintro _ w32 ⟨rfl, hb⟩
     replace BW := BW.trans (hb.mono BW.size)
     clear hb
     go_wp2_with fail
     exact bodyPost_ret (v := .bool true) (by simp [results, Tryz.results3, go_sem]) rfl ⟨rfl, BW⟩
end Go.Proofs.YtplgheabhekedaaGreatDoor
