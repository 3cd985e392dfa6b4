/-
  What bench answers of one element, and whether a bench may be. Conditions: that it is no longer than memory.
-/
import Derived.Test.YtjamfkafgfpobaaGreatBm1
import Derived.Test.YtjamfkafgfpobaaGreatBl2
import Derived.Deep.RegionHeld3
import Derived.Deep.DeepCutAuto
import Derived.BigRegion
import Derived.Laws.EntriesVeiled
namespace Go.Proofs.YtjamfkafgfpobaaGreat
open Go.RowKit Nb
theorem Box.c9 {W : World} {p : Nat} {a0 a1 a2 a3 a4 a5 a6 a7 a8 : Value} (K : Box W p [a0, a1, a2, a3, a4, a5, a6, a7, a8]) : W.cell? ⟨p, 0, none⟩ = some a0 ∧ W.cell? ⟨p, 1, none⟩ = some a1 ∧ W.cell? ⟨p, 2, none⟩ = some a2 ∧ W.cell? ⟨p, 3, none⟩ = some a3 ∧ W.cell? ⟨p, 4, none⟩ = some a4 ∧ W.cell? ⟨p, 5, none⟩ = some a5 ∧ W.cell? ⟨p, 6, none⟩ = some a6 ∧ W.cell? ⟨p, 7, none⟩ = some a7 ∧ W.cell? ⟨p, 8, none⟩ = some a8 := ⟨K.c 0 _ rfl, K.c 1 _ rfl, K.c 2 _ rfl, K.c 3 _ rfl, K.c 4 _ rfl, K.c 5 _ rfl, K.c 6 _ rfl, K.c 7 _ rfl, K.c 8 _ rfl⟩
theorem Box.c5 {W : World} {p : Nat} {a0 a1 a2 a3 a4 : Value} (K : Box W p [a0, a1, a2, a3, a4]) : W.cell? ⟨p, 0, none⟩ = some a0 ∧ W.cell? ⟨p, 1, none⟩ = some a1 ∧ W.cell? ⟨p, 2, none⟩ = some a2 ∧ W.cell? ⟨p, 3, none⟩ = some a3 ∧ W.cell? ⟨p, 4, none⟩ = some a4 := ⟨K.c 0 _ rfl, K.c 1 _ rfl, K.c 2 _ rfl, K.c 3 _ rfl, K.c 4 _ rfl⟩
theorem Box.c6 {W : World} {p : Nat} {a0 a1 a2 a3 a4 a5 : Value} (K : Box W p [a0, a1, a2, a3, a4, a5]) : W.cell? ⟨p, 0, none⟩ = some a0 ∧ W.cell? ⟨p, 1, none⟩ = some a1 ∧ W.cell? ⟨p, 2, none⟩ = some a2 ∧ W.cell? ⟨p, 3, none⟩ = some a3 ∧ W.cell? ⟨p, 4, none⟩ = some a4 ∧ W.cell? ⟨p, 5, none⟩ = some a5 := ⟨K.c 0 _ rfl, K.c 1 _ rfl, K.c 2 _ rfl, K.c 3 _ rfl, K.c 4 _ rfl, K.c 5 _ rfl⟩
def YesIf (w : World) (A : Prop) (e : Ending) (w' : World) : Prop := ∃ r : Bool, e = .returned (.bool r) ∧ (r = true ↔ A) ∧ Below w.heap.size w w'
theorem sgn_bg {W : World} {n : Bool} {A : Option Addr} {xs : List Nat} {c C : Nat} (h : Bg W n A xs c C) : sgn n xs = (sv n (val W64 xs)).sign := by
 have hz := norm_zero (B := W64) (by decide) h.norm
 unfold sgn
 cases n with
 | true =>
  have hx : xs ≠ [] := fun e => by have := h.sign e; cases this
  have h0 : val W64 xs ≠ 0 := fun e => hx (hz.1 e)
  rw [if_pos rfl, show sv true (val W64 xs) = -((val W64 xs : Nat) : Int) from rfl, Int.sign_eq_neg_one_of_neg (by omega)]
 | false =>
  rw [if_neg (by decide), show sv false (val W64 xs) = ((val W64 xs : Nat) : Int) from rfl]
  by_cases hl : xs.length = 0
  ·have h0 : xs = [] := List.length_eq_zero_iff.1 hl
   have := hz.2 h0
   rw [if_pos hl, this]; rfl
  ·have : val W64 xs ≠ 0 := fun e => hl (by rw [hz.1 e]; rfl)
   rw [if_neg hl, Int.sign_eq_one_of_pos (by omega)]
theorem sgn_ge {x : Rat} : 0 ≤ sgnQ x ↔ 0 ≤ x := by unfold sgnQ; rw [Int.sign_nonneg_iff, Rat.num_nonneg]
theorem sgn_zero {x : Rat} : sgnQ x = 0 ↔ x = 0 := by unfold sgnQ; rw [Int.sign_eq_zero_iff_zero, Rat.num_eq_zero]
theorem sgn_gt {x : Rat} : 0 < sgnQ x ↔ 0 < x := by
 constructor
 ·intro h
  have h1 := sgn_ge.1 (Int.le_of_lt h)
  have h2 : x ≠ 0 := fun e => by have := sgn_zero.2 e; omega
  grind
 ·intro h
  have h1 := sgn_ge.2 (show 0 ≤ x by grind)
  have h2 : sgnQ x ≠ 0 := fun e => by have := sgn_zero.1 e; grind
  omega
set_option maxHeartbeats 8000000 in
set_option maxRecDepth 20000 in
theorem b_sign {q : Rat} {f : Fv} {C : Nat} {w : World} (L : Fq w q f C) (hC : C ≤ 17592186043904) :
    Calls Tryz.prog 105 #[fv f] w (fun e w' => e = .returned (.int .i64 (sgnQ q)) ∧ Below w.heap.size w w') := by
 have BW : Below w.heap.size w w := Below.refl _ _
 obtain ⟨V1, e2, hb3, K4, -, -⟩ := alloc_new w [.bool f.n, .slice f.A f.xs.length f.c, .bool f.m, .slice f.B f.ds.length f.d] 74
 replace L := L.kp (Kept.of hb3)
 replace BW := BW.trans (hb3.mono BW.size)
 clear hb3
 go_enter Tryz.func105, Tryz.ntmps105
 go_wp2_with fail
 rw [← e2]
 clear e2
 refine (sign_any f.n f.A f.xs f.c _ (by have h1 := L.2.num.len; have h2 := L.2.num.cap; omega)).mono ?_
 rintro _ w5 ⟨rfl, hb⟩
 replace L := L.kp (Kept.of hb)
 replace BW := BW.trans (hb.mono BW.size)
 clear hb
 rw [show sgn f.n f.xs = sgnQ q by rw [sgn_bg L.2.num, L.2.vn]; rfl]
 go_wp2_with fail
 exact bodyPost_ret (v := .int .i64 (sgnQ q)) (by simp [results, Tryz.results105, go_sem]) rfl ⟨rfl, BW⟩
set_option maxHeartbeats 8000000 in
set_option maxRecDepth 20000 in
theorem b_mat1 {p q : Rat} {a b : Fv} {w : World} (La : Ff w p a) (Lb : Ff w q b)  :
    Calls Tryz.prog 61 #[.agg #[.int .u8 1, .bool a.n, .slice a.A a.xs.length a.c, .bool a.m, .slice a.B a.ds.length a.d, .bool b.n, .slice b.A b.xs.length b.c, .bool b.m, .slice b.B b.ds.length b.d]] w (GMx w (Mq.space p) (2050)) := by
 have BW : Below w.heap.size w w := Below.refl _ _
 obtain ⟨V2, e3, hb4, K5, -, z1⟩ := alloc_new w [.int .u8 1, .bool a.n, .slice a.A a.xs.length a.c, .bool a.m, .slice a.B a.ds.length a.d, .bool b.n, .slice b.A b.xs.length b.c, .bool b.m, .slice b.B b.ds.length b.d] 58
 replace La := La.kp (Kept.of hb4)
 replace Lb := Lb.kp (Kept.of hb4)
 replace BW := BW.trans (hb4.mono BW.size)
 clear hb4
 obtain ⟨V7, e8, hb9, K10, Z11, z6⟩ := alloc_new V2 [.bool false, .slice none 0 0, .bool false, .slice none 0 0, .bool false, .slice none 0 0, .bool false, .slice none 0 0, .bool false, .slice none 0 0, .bool false, .slice none 0 0, .bool false, .slice none 0 0, .bool false, .slice none 0 0] 76
 rw [z1] at K10 Z11 z6
 replace K10 : Box V7 (w.heap.size + 1) (zcs16) := K10
 have n12 : w.heap.size ≠ w.heap.size + 1 := Nat.ne_of_lt (z1 ▸ K5.lt)
 have g13 : w.heap.size ≤ w.heap.size + 1 := z1 ▸ BW.size
 replace K5 := K5.on hb9
 replace La := La.kp (Kept.of hb9)
 replace Lb := Lb.kp (Kept.of hb9)
 replace BW := BW.trans (hb9.mono BW.size)
 clear hb9
 obtain ⟨V14, e15, hb16, K17, -, -⟩ := alloc_new V7 [.nilFunc, .func (.func 96) #[] #[], .func (.func 98) #[] #[], .func (.func 100) #[] #[], .func (.func 102) #[] #[], .func (.func 103) #[] #[]] 146
 rw [z6] at K17
 have n18 : w.heap.size + 1 ≠ w.heap.size + 1 + 1 := Nat.ne_of_lt (z6 ▸ K10.lt)
 replace K5 := K5.on hb16
 replace K10 := K10.on hb16
 replace Z11 := Z11.on hb16
 replace La := La.kp (Kept.of hb16)
 replace Lb := Lb.kp (Kept.of hb16)
 replace BW := BW.trans (hb16.mono BW.size)
 clear hb16
 clear z1 z6
 go_enter Tryz.func61, Tryz.ntmps61
 go_wp2_with fail
 rw [← e3, ← e8, ← e15]
 clear e3 e8 e15
 refine wp_region_noPanic ?_
 have hb : Below V14.heap.size V14 V14.drew := (Below.refl _ _).drew
 replace K5 := K5.on hb
 replace K10 := K10.on hb
 replace K17 := K17.on hb
 replace Z11 := Z11.on hb
 replace La := La.kp (Kept.of hb)
 replace Lb := Lb.kp (Kept.of hb)
 replace BW := BW.trans (hb.mono BW.size)
 clear hb
 refine wp_region_held_drew (S := (fun wx => Cs wx (w.heap.size) 0 [.int .u8 1, .bool a.n, .slice a.A a.xs.length a.c, .bool a.m, .slice a.B a.ds.length a.d, .bool b.n, .slice b.A b.xs.length b.c, .bool b.m, .slice b.B b.ds.length b.d] ∧ Cs wx (w.heap.size + 1 + 1) 0 [.nilFunc, .func (.func 96) #[] #[], .func (.func 98) #[] #[], .func (.func 100) #[] #[], .func (.func 102) #[] #[], .func (.func 103) #[] #[]])) (by kernel_rfl) (by exact ⟨K5.cs, K17.cs⟩) (fun hHeld => ?_)
 generalize V14.drew = Vd19 at *
 refine pT 0 ?_
 (try simp only [p0, p1, p2, p3])
 refine pT 1 ?_
 (try simp only [p0, p1, p2, p3])
 refine pT 2 ?_
 (try simp only [p0, p1, p2, p3])
 refine pT 3 ?_
 (try simp only [p0, p1, p2, p3])
 refine pT 4 ?_
 (try simp only [p0, p1, p2, p3])
 refine pT 5 ?_
 (try simp only [p0, p1, p2, p3])
 refine pT 7 ?_
 (try simp only [p0, p1, p2, p3])
 refine pT 8 ?_
 (try simp only [p0, p1, p2, p3])
 refine pR1 6 (fun K hK => ?_)
 go_simp
 (go_at_call 45; with_reducible refine (q_from La).mono ?_)
 rintro _ w20 ⟨f1, rfl, L1, hb⟩
 (try go_wp2_with fail)
 replace K5 := K5.on hb
 replace K10 := K10.on hb
 replace K17 := K17.on hb
 replace Z11 := Z11.on hb
 replace Lb := Lb.kp (Kept.of hb)
 replace BW := BW.trans (hb.mono BW.size)
 clear hb
 clear hHeld
 refine hK.out _ _ (by exact ⟨K5.cs, K17.cs⟩) (fun hHeld => ?_)
 clear hK
 (try simp only [p0, p1, p2, p3])
 refine pR1 9 (fun K hK => ?_)
 go_simp
 (go_at_call 45; with_reducible refine (q_from Lb).mono ?_)
 rintro _ w21 ⟨f2, rfl, L2, hb⟩
 (try go_wp2_with fail)
 replace K5 := K5.on hb
 replace K10 := K10.on hb
 replace K17 := K17.on hb
 replace Z11 := Z11.on hb
 replace L1 := L1.kp (Kept.of hb)
 replace BW := BW.trans (hb.mono BW.size)
 clear hb
 clear hHeld
 refine hK.out _ _ (by exact ⟨K5.cs, K17.cs⟩) (fun hHeld => ?_)
 clear hK
 (try simp only [p0, p1, p2, p3])
 refine pR1 10 (fun K hK => ?_)
 go_simp
 (go_at_call 96; with_reducible refine (b_clo1 L1 L2 (by decide)).mono ?_)
 rintro _ w22 ⟨f, rfl, L, hb⟩
 (try go_wp2_with fail)
 replace K5 := K5.on hb
 replace K10 := K10.on hb
 replace K17 := K17.on hb
 replace Z11 := Z11.on hb
 replace BW := BW.trans (hb.mono BW.size)
 clear hb
 clear hHeld
 refine hK.out _ _ (by exact ⟨K5.cs, K17.cs⟩) (fun hHeld => ?_)
 clear hK
 (try simp only [p0, p1, p2, p3])
 refine pR1 11 (fun K hK => ?_)
 refine ite_yes (by rfl) (wp_stL rfl rfl rfl K10 Z11 rfl rfl rfl ?_)
 obtain ⟨V23, hk25⟩ : ∃ V23, V23 = w22.setCells (w.heap.size + 1) 0 [.bool f.A.n, .slice f.A.A f.A.xs.length f.A.c, .bool f.A.m, .slice f.A.B f.A.ds.length f.A.d, .bool f.B.n, .slice f.B.A f.B.xs.length f.B.c, .bool f.B.m, .slice f.B.B f.B.ds.length f.B.d, .bool f.C.n, .slice f.C.A f.C.xs.length f.C.c, .bool f.C.m, .slice f.C.B f.C.ds.length f.C.d, .bool f.D.n, .slice f.D.A f.D.xs.length f.D.c, .bool f.D.m, .slice f.D.B f.D.ds.length f.D.d] := ⟨_, rfl⟩
 have e24 := hk25
 have hk26 := Kept.overE hk25 K10 rfl (Nat.le_of_ble_eq_true rfl)
 replace K5 := K5.awayE hk25 n12
 replace K10 := K10.overE hk25 rfl
 replace K17 := K17.awayE hk25 n18.symm
 replace L := L.kp hk26
 replace BW := Below.putE BW hk25 g13
 clear hk25 hk26
 replace K10 : Box V23 (w.heap.size + 1) (mcs f) := K10
 rw [← e24]
 clear e24
 clear hHeld
 refine hK.out _ _ (by exact ⟨K5.cs, K17.cs⟩) (fun hHeld => ?_)
 clear hK
 (try simp only [p0])
 refine wpAnyH_done (by kernel_rfl) (NoPanic.normal ?_) _
 go_wp2
 exact bodyPost_ret (v := mv f) (res_L Tryz.results61 (by rfl) K10 rfl) rfl ⟨f, rfl, L.mono (by decide), BW⟩
set_option maxHeartbeats 8000000 in
set_option maxRecDepth 20000 in
theorem b_mat2 {p q : Rat} {a b : Fv} {w : World} (La : Ff w p a) (Lb : Ff w q b)  :
    Calls Tryz.prog 61 #[.agg #[.int .u8 2, .bool a.n, .slice a.A a.xs.length a.c, .bool a.m, .slice a.B a.ds.length a.d, .bool b.n, .slice b.A b.xs.length b.c, .bool b.m, .slice b.B b.ds.length b.d]] w (GMx w (Mq.lens p) (2050)) := by
 have BW : Below w.heap.size w w := Below.refl _ _
 obtain ⟨V2, e3, hb4, K5, -, z1⟩ := alloc_new w [.int .u8 2, .bool a.n, .slice a.A a.xs.length a.c, .bool a.m, .slice a.B a.ds.length a.d, .bool b.n, .slice b.A b.xs.length b.c, .bool b.m, .slice b.B b.ds.length b.d] 58
 replace La := La.kp (Kept.of hb4)
 replace Lb := Lb.kp (Kept.of hb4)
 replace BW := BW.trans (hb4.mono BW.size)
 clear hb4
 obtain ⟨V7, e8, hb9, K10, Z11, z6⟩ := alloc_new V2 [.bool false, .slice none 0 0, .bool false, .slice none 0 0, .bool false, .slice none 0 0, .bool false, .slice none 0 0, .bool false, .slice none 0 0, .bool false, .slice none 0 0, .bool false, .slice none 0 0, .bool false, .slice none 0 0] 76
 rw [z1] at K10 Z11 z6
 replace K10 : Box V7 (w.heap.size + 1) (zcs16) := K10
 have n12 : w.heap.size ≠ w.heap.size + 1 := Nat.ne_of_lt (z1 ▸ K5.lt)
 have g13 : w.heap.size ≤ w.heap.size + 1 := z1 ▸ BW.size
 replace K5 := K5.on hb9
 replace La := La.kp (Kept.of hb9)
 replace Lb := Lb.kp (Kept.of hb9)
 replace BW := BW.trans (hb9.mono BW.size)
 clear hb9
 obtain ⟨V14, e15, hb16, K17, -, -⟩ := alloc_new V7 [.nilFunc, .func (.func 96) #[] #[], .func (.func 98) #[] #[], .func (.func 100) #[] #[], .func (.func 102) #[] #[], .func (.func 103) #[] #[]] 146
 rw [z6] at K17
 have n18 : w.heap.size + 1 ≠ w.heap.size + 1 + 1 := Nat.ne_of_lt (z6 ▸ K10.lt)
 replace K5 := K5.on hb16
 replace K10 := K10.on hb16
 replace Z11 := Z11.on hb16
 replace La := La.kp (Kept.of hb16)
 replace Lb := Lb.kp (Kept.of hb16)
 replace BW := BW.trans (hb16.mono BW.size)
 clear hb16
 clear z1 z6
 go_enter Tryz.func61, Tryz.ntmps61
 go_wp2_with fail
 rw [← e3, ← e8, ← e15]
 clear e3 e8 e15
 refine wp_region_noPanic ?_
 have hb : Below V14.heap.size V14 V14.drew := (Below.refl _ _).drew
 replace K5 := K5.on hb
 replace K10 := K10.on hb
 replace K17 := K17.on hb
 replace Z11 := Z11.on hb
 replace La := La.kp (Kept.of hb)
 replace Lb := Lb.kp (Kept.of hb)
 replace BW := BW.trans (hb.mono BW.size)
 clear hb
 refine wp_region_held_drew (S := (fun wx => Cs wx (w.heap.size) 0 [.int .u8 2, .bool a.n, .slice a.A a.xs.length a.c, .bool a.m, .slice a.B a.ds.length a.d, .bool b.n, .slice b.A b.xs.length b.c, .bool b.m, .slice b.B b.ds.length b.d] ∧ Cs wx (w.heap.size + 1 + 1) 0 [.nilFunc, .func (.func 96) #[] #[], .func (.func 98) #[] #[], .func (.func 100) #[] #[], .func (.func 102) #[] #[], .func (.func 103) #[] #[]])) (by kernel_rfl) (by exact ⟨K5.cs, K17.cs⟩) (fun hHeld => ?_)
 generalize V14.drew = Vd19 at *
 refine pT 0 ?_
 (try simp only [p0, p1, p2, p3])
 refine pT 1 ?_
 (try simp only [p0, p1, p2, p3])
 refine pT 2 ?_
 (try simp only [p0, p1, p2, p3])
 refine pT 3 ?_
 (try simp only [p0, p1, p2, p3])
 refine pT 4 ?_
 (try simp only [p0, p1, p2, p3])
 refine pT 5 ?_
 (try simp only [p0, p1, p2, p3])
 refine pT 7 ?_
 (try simp only [p0, p1, p2, p3])
 refine pT 8 ?_
 (try simp only [p0, p1, p2, p3])
 refine pR1 6 (fun K hK => ?_)
 go_simp
 (go_at_call 45; with_reducible refine (q_from La).mono ?_)
 rintro _ w20 ⟨f1, rfl, L1, hb⟩
 (try go_wp2_with fail)
 replace K5 := K5.on hb
 replace K10 := K10.on hb
 replace K17 := K17.on hb
 replace Z11 := Z11.on hb
 replace Lb := Lb.kp (Kept.of hb)
 replace BW := BW.trans (hb.mono BW.size)
 clear hb
 clear hHeld
 refine hK.out _ _ (by exact ⟨K5.cs, K17.cs⟩) (fun hHeld => ?_)
 clear hK
 (try simp only [p0, p1, p2, p3])
 refine pR1 9 (fun K hK => ?_)
 go_simp
 (go_at_call 45; with_reducible refine (q_from Lb).mono ?_)
 rintro _ w21 ⟨f2, rfl, L2, hb⟩
 (try go_wp2_with fail)
 replace K5 := K5.on hb
 replace K10 := K10.on hb
 replace K17 := K17.on hb
 replace Z11 := Z11.on hb
 replace L1 := L1.kp (Kept.of hb)
 replace BW := BW.trans (hb.mono BW.size)
 clear hb
 clear hHeld
 refine hK.out _ _ (by exact ⟨K5.cs, K17.cs⟩) (fun hHeld => ?_)
 clear hK
 (try simp only [p0, p1, p2, p3])
 refine pR1 10 (fun K hK => ?_)
 go_simp
 (go_at_call 98; with_reducible refine (b_clo2 L1 L2 (by decide)).mono ?_)
 rintro _ w22 ⟨f, rfl, L, hb⟩
 (try go_wp2_with fail)
 replace K5 := K5.on hb
 replace K10 := K10.on hb
 replace K17 := K17.on hb
 replace Z11 := Z11.on hb
 replace BW := BW.trans (hb.mono BW.size)
 clear hb
 clear hHeld
 refine hK.out _ _ (by exact ⟨K5.cs, K17.cs⟩) (fun hHeld => ?_)
 clear hK
 (try simp only [p0, p1, p2, p3])
 refine pR1 11 (fun K hK => ?_)
 refine ite_yes (by rfl) (wp_stL rfl rfl rfl K10 Z11 rfl rfl rfl ?_)
 obtain ⟨V23, hk25⟩ : ∃ V23, V23 = w22.setCells (w.heap.size + 1) 0 [.bool f.A.n, .slice f.A.A f.A.xs.length f.A.c, .bool f.A.m, .slice f.A.B f.A.ds.length f.A.d, .bool f.B.n, .slice f.B.A f.B.xs.length f.B.c, .bool f.B.m, .slice f.B.B f.B.ds.length f.B.d, .bool f.C.n, .slice f.C.A f.C.xs.length f.C.c, .bool f.C.m, .slice f.C.B f.C.ds.length f.C.d, .bool f.D.n, .slice f.D.A f.D.xs.length f.D.c, .bool f.D.m, .slice f.D.B f.D.ds.length f.D.d] := ⟨_, rfl⟩
 have e24 := hk25
 have hk26 := Kept.overE hk25 K10 rfl (Nat.le_of_ble_eq_true rfl)
 replace K5 := K5.awayE hk25 n12
 replace K10 := K10.overE hk25 rfl
 replace K17 := K17.awayE hk25 n18.symm
 replace L := L.kp hk26
 replace BW := Below.putE BW hk25 g13
 clear hk25 hk26
 replace K10 : Box V23 (w.heap.size + 1) (mcs f) := K10
 rw [← e24]
 clear e24
 clear hHeld
 refine hK.out _ _ (by exact ⟨K5.cs, K17.cs⟩) (fun hHeld => ?_)
 clear hK
 (try simp only [p0])
 refine wpAnyH_done (by kernel_rfl) (NoPanic.normal ?_) _
 go_wp2
 exact bodyPost_ret (v := mv f) (res_L Tryz.results61 (by rfl) K10 rfl) rfl ⟨f, rfl, L.mono (by decide), BW⟩
set_option maxHeartbeats 8000000 in
set_option maxRecDepth 20000 in
theorem b_mat3 {p q : Rat} {a b : Fv} {w : World} (La : Ff w p a) (Lb : Ff w q b) (hq : q.num ≠ 0) :
    Calls Tryz.prog 61 #[.agg #[.int .u8 3, .bool a.n, .slice a.A a.xs.length a.c, .bool a.m, .slice a.B a.ds.length a.d, .bool b.n, .slice b.A b.xs.length b.c, .bool b.m, .slice b.B b.ds.length b.d]] w (GMx w (Mq.space (p / q)) (2050)) := by
 have BW : Below w.heap.size w w := Below.refl _ _
 obtain ⟨V2, e3, hb4, K5, -, z1⟩ := alloc_new w [.int .u8 3, .bool a.n, .slice a.A a.xs.length a.c, .bool a.m, .slice a.B a.ds.length a.d, .bool b.n, .slice b.A b.xs.length b.c, .bool b.m, .slice b.B b.ds.length b.d] 58
 replace La := La.kp (Kept.of hb4)
 replace Lb := Lb.kp (Kept.of hb4)
 replace BW := BW.trans (hb4.mono BW.size)
 clear hb4
 obtain ⟨V7, e8, hb9, K10, Z11, z6⟩ := alloc_new V2 [.bool false, .slice none 0 0, .bool false, .slice none 0 0, .bool false, .slice none 0 0, .bool false, .slice none 0 0, .bool false, .slice none 0 0, .bool false, .slice none 0 0, .bool false, .slice none 0 0, .bool false, .slice none 0 0] 76
 rw [z1] at K10 Z11 z6
 replace K10 : Box V7 (w.heap.size + 1) (zcs16) := K10
 have n12 : w.heap.size ≠ w.heap.size + 1 := Nat.ne_of_lt (z1 ▸ K5.lt)
 have g13 : w.heap.size ≤ w.heap.size + 1 := z1 ▸ BW.size
 replace K5 := K5.on hb9
 replace La := La.kp (Kept.of hb9)
 replace Lb := Lb.kp (Kept.of hb9)
 replace BW := BW.trans (hb9.mono BW.size)
 clear hb9
 obtain ⟨V14, e15, hb16, K17, -, -⟩ := alloc_new V7 [.nilFunc, .func (.func 96) #[] #[], .func (.func 98) #[] #[], .func (.func 100) #[] #[], .func (.func 102) #[] #[], .func (.func 103) #[] #[]] 146
 rw [z6] at K17
 have n18 : w.heap.size + 1 ≠ w.heap.size + 1 + 1 := Nat.ne_of_lt (z6 ▸ K10.lt)
 replace K5 := K5.on hb16
 replace K10 := K10.on hb16
 replace Z11 := Z11.on hb16
 replace La := La.kp (Kept.of hb16)
 replace Lb := Lb.kp (Kept.of hb16)
 replace BW := BW.trans (hb16.mono BW.size)
 clear hb16
 clear z1 z6
 go_enter Tryz.func61, Tryz.ntmps61
 go_wp2_with fail
 rw [← e3, ← e8, ← e15]
 clear e3 e8 e15
 refine wp_region_noPanic ?_
 have hb : Below V14.heap.size V14 V14.drew := (Below.refl _ _).drew
 replace K5 := K5.on hb
 replace K10 := K10.on hb
 replace K17 := K17.on hb
 replace Z11 := Z11.on hb
 replace La := La.kp (Kept.of hb)
 replace Lb := Lb.kp (Kept.of hb)
 replace BW := BW.trans (hb.mono BW.size)
 clear hb
 refine wp_region_held_drew (S := (fun wx => Cs wx (w.heap.size) 0 [.int .u8 3, .bool a.n, .slice a.A a.xs.length a.c, .bool a.m, .slice a.B a.ds.length a.d, .bool b.n, .slice b.A b.xs.length b.c, .bool b.m, .slice b.B b.ds.length b.d] ∧ Cs wx (w.heap.size + 1 + 1) 0 [.nilFunc, .func (.func 96) #[] #[], .func (.func 98) #[] #[], .func (.func 100) #[] #[], .func (.func 102) #[] #[], .func (.func 103) #[] #[]])) (by kernel_rfl) (by exact ⟨K5.cs, K17.cs⟩) (fun hHeld => ?_)
 generalize V14.drew = Vd19 at *
 refine pT 0 ?_
 (try simp only [p0, p1, p2, p3])
 refine pT 1 ?_
 (try simp only [p0, p1, p2, p3])
 refine pT 2 ?_
 (try simp only [p0, p1, p2, p3])
 refine pT 3 ?_
 (try simp only [p0, p1, p2, p3])
 refine pT 4 ?_
 (try simp only [p0, p1, p2, p3])
 refine pT 5 ?_
 (try simp only [p0, p1, p2, p3])
 refine pT 7 ?_
 (try simp only [p0, p1, p2, p3])
 refine pT 8 ?_
 (try simp only [p0, p1, p2, p3])
 refine pR1 6 (fun K hK => ?_)
 go_simp
 (go_at_call 45; with_reducible refine (q_from La).mono ?_)
 rintro _ w20 ⟨f1, rfl, L1, hb⟩
 (try go_wp2_with fail)
 replace K5 := K5.on hb
 replace K10 := K10.on hb
 replace K17 := K17.on hb
 replace Z11 := Z11.on hb
 replace Lb := Lb.kp (Kept.of hb)
 replace BW := BW.trans (hb.mono BW.size)
 clear hb
 clear hHeld
 refine hK.out _ _ (by exact ⟨K5.cs, K17.cs⟩) (fun hHeld => ?_)
 clear hK
 (try simp only [p0, p1, p2, p3])
 refine pR1 9 (fun K hK => ?_)
 go_simp
 (go_at_call 45; with_reducible refine (q_from Lb).mono ?_)
 rintro _ w21 ⟨f2, rfl, L2, hb⟩
 (try go_wp2_with fail)
 replace K5 := K5.on hb
 replace K10 := K10.on hb
 replace K17 := K17.on hb
 replace Z11 := Z11.on hb
 replace L1 := L1.kp (Kept.of hb)
 replace BW := BW.trans (hb.mono BW.size)
 clear hb
 clear hHeld
 refine hK.out _ _ (by exact ⟨K5.cs, K17.cs⟩) (fun hHeld => ?_)
 clear hK
 (try simp only [p0, p1, p2, p3])
 refine pR1 10 (fun K hK => ?_)
 go_simp
 (go_at_call 100; with_reducible refine (b_clo3 L1 L2 hq (by decide)).mono ?_)
 rintro _ w22 ⟨f, rfl, L, hb⟩
 (try go_wp2_with fail)
 replace K5 := K5.on hb
 replace K10 := K10.on hb
 replace K17 := K17.on hb
 replace Z11 := Z11.on hb
 replace BW := BW.trans (hb.mono BW.size)
 clear hb
 clear hHeld
 refine hK.out _ _ (by exact ⟨K5.cs, K17.cs⟩) (fun hHeld => ?_)
 clear hK
 (try simp only [p0, p1, p2, p3])
 refine pR1 11 (fun K hK => ?_)
 refine ite_yes (by rfl) (wp_stL rfl rfl rfl K10 Z11 rfl rfl rfl ?_)
 obtain ⟨V23, hk25⟩ : ∃ V23, V23 = w22.setCells (w.heap.size + 1) 0 [.bool f.A.n, .slice f.A.A f.A.xs.length f.A.c, .bool f.A.m, .slice f.A.B f.A.ds.length f.A.d, .bool f.B.n, .slice f.B.A f.B.xs.length f.B.c, .bool f.B.m, .slice f.B.B f.B.ds.length f.B.d, .bool f.C.n, .slice f.C.A f.C.xs.length f.C.c, .bool f.C.m, .slice f.C.B f.C.ds.length f.C.d, .bool f.D.n, .slice f.D.A f.D.xs.length f.D.c, .bool f.D.m, .slice f.D.B f.D.ds.length f.D.d] := ⟨_, rfl⟩
 have e24 := hk25
 have hk26 := Kept.overE hk25 K10 rfl (Nat.le_of_ble_eq_true rfl)
 replace K5 := K5.awayE hk25 n12
 replace K10 := K10.overE hk25 rfl
 replace K17 := K17.awayE hk25 n18.symm
 replace L := L.kp hk26
 replace BW := Below.putE BW hk25 g13
 clear hk25 hk26
 replace K10 : Box V23 (w.heap.size + 1) (mcs f) := K10
 rw [← e24]
 clear e24
 clear hHeld
 refine hK.out _ _ (by exact ⟨K5.cs, K17.cs⟩) (fun hHeld => ?_)
 clear hK
 (try simp only [p0])
 refine wpAnyH_done (by kernel_rfl) (NoPanic.normal ?_) _
 go_wp2
 exact bodyPost_ret (v := mv f) (res_L Tryz.results61 (by rfl) K10 rfl) rfl ⟨f, rfl, L.mono (by decide), BW⟩
set_option maxHeartbeats 8000000 in
set_option maxRecDepth 20000 in
theorem b_mat4 {p q : Rat} {a b : Fv} {w : World} (La : Ff w p a) (Lb : Ff w q b)  :
    Calls Tryz.prog 61 #[.agg #[.int .u8 4, .bool a.n, .slice a.A a.xs.length a.c, .bool a.m, .slice a.B a.ds.length a.d, .bool b.n, .slice b.A b.xs.length b.c, .bool b.m, .slice b.B b.ds.length b.d]] w (GMx w (Mq.lens (p * q)) (2050)) := by
 have BW : Below w.heap.size w w := Below.refl _ _
 obtain ⟨V2, e3, hb4, K5, -, z1⟩ := alloc_new w [.int .u8 4, .bool a.n, .slice a.A a.xs.length a.c, .bool a.m, .slice a.B a.ds.length a.d, .bool b.n, .slice b.A b.xs.length b.c, .bool b.m, .slice b.B b.ds.length b.d] 58
 replace La := La.kp (Kept.of hb4)
 replace Lb := Lb.kp (Kept.of hb4)
 replace BW := BW.trans (hb4.mono BW.size)
 clear hb4
 obtain ⟨V7, e8, hb9, K10, Z11, z6⟩ := alloc_new V2 [.bool false, .slice none 0 0, .bool false, .slice none 0 0, .bool false, .slice none 0 0, .bool false, .slice none 0 0, .bool false, .slice none 0 0, .bool false, .slice none 0 0, .bool false, .slice none 0 0, .bool false, .slice none 0 0] 76
 rw [z1] at K10 Z11 z6
 replace K10 : Box V7 (w.heap.size + 1) (zcs16) := K10
 have n12 : w.heap.size ≠ w.heap.size + 1 := Nat.ne_of_lt (z1 ▸ K5.lt)
 have g13 : w.heap.size ≤ w.heap.size + 1 := z1 ▸ BW.size
 replace K5 := K5.on hb9
 replace La := La.kp (Kept.of hb9)
 replace Lb := Lb.kp (Kept.of hb9)
 replace BW := BW.trans (hb9.mono BW.size)
 clear hb9
 obtain ⟨V14, e15, hb16, K17, -, -⟩ := alloc_new V7 [.nilFunc, .func (.func 96) #[] #[], .func (.func 98) #[] #[], .func (.func 100) #[] #[], .func (.func 102) #[] #[], .func (.func 103) #[] #[]] 146
 rw [z6] at K17
 have n18 : w.heap.size + 1 ≠ w.heap.size + 1 + 1 := Nat.ne_of_lt (z6 ▸ K10.lt)
 replace K5 := K5.on hb16
 replace K10 := K10.on hb16
 replace Z11 := Z11.on hb16
 replace La := La.kp (Kept.of hb16)
 replace Lb := Lb.kp (Kept.of hb16)
 replace BW := BW.trans (hb16.mono BW.size)
 clear hb16
 clear z1 z6
 go_enter Tryz.func61, Tryz.ntmps61
 go_wp2_with fail
 rw [← e3, ← e8, ← e15]
 clear e3 e8 e15
 refine wp_region_noPanic ?_
 have hb : Below V14.heap.size V14 V14.drew := (Below.refl _ _).drew
 replace K5 := K5.on hb
 replace K10 := K10.on hb
 replace K17 := K17.on hb
 replace Z11 := Z11.on hb
 replace La := La.kp (Kept.of hb)
 replace Lb := Lb.kp (Kept.of hb)
 replace BW := BW.trans (hb.mono BW.size)
 clear hb
 refine wp_region_held_drew (S := (fun wx => Cs wx (w.heap.size) 0 [.int .u8 4, .bool a.n, .slice a.A a.xs.length a.c, .bool a.m, .slice a.B a.ds.length a.d, .bool b.n, .slice b.A b.xs.length b.c, .bool b.m, .slice b.B b.ds.length b.d] ∧ Cs wx (w.heap.size + 1 + 1) 0 [.nilFunc, .func (.func 96) #[] #[], .func (.func 98) #[] #[], .func (.func 100) #[] #[], .func (.func 102) #[] #[], .func (.func 103) #[] #[]])) (by kernel_rfl) (by exact ⟨K5.cs, K17.cs⟩) (fun hHeld => ?_)
 generalize V14.drew = Vd19 at *
 refine pT 0 ?_
 (try simp only [p0, p1, p2, p3])
 refine pT 1 ?_
 (try simp only [p0, p1, p2, p3])
 refine pT 2 ?_
 (try simp only [p0, p1, p2, p3])
 refine pT 3 ?_
 (try simp only [p0, p1, p2, p3])
 refine pT 4 ?_
 (try simp only [p0, p1, p2, p3])
 refine pT 5 ?_
 (try simp only [p0, p1, p2, p3])
 refine pT 7 ?_
 (try simp only [p0, p1, p2, p3])
 refine pT 8 ?_
 (try simp only [p0, p1, p2, p3])
 refine pR1 6 (fun K hK => ?_)
 go_simp
 (go_at_call 45; with_reducible refine (q_from La).mono ?_)
 rintro _ w20 ⟨f1, rfl, L1, hb⟩
 (try go_wp2_with fail)
 replace K5 := K5.on hb
 replace K10 := K10.on hb
 replace K17 := K17.on hb
 replace Z11 := Z11.on hb
 replace Lb := Lb.kp (Kept.of hb)
 replace BW := BW.trans (hb.mono BW.size)
 clear hb
 clear hHeld
 refine hK.out _ _ (by exact ⟨K5.cs, K17.cs⟩) (fun hHeld => ?_)
 clear hK
 (try simp only [p0, p1, p2, p3])
 refine pR1 9 (fun K hK => ?_)
 go_simp
 (go_at_call 45; with_reducible refine (q_from Lb).mono ?_)
 rintro _ w21 ⟨f2, rfl, L2, hb⟩
 (try go_wp2_with fail)
 replace K5 := K5.on hb
 replace K10 := K10.on hb
 replace K17 := K17.on hb
 replace Z11 := Z11.on hb
 replace L1 := L1.kp (Kept.of hb)
 replace BW := BW.trans (hb.mono BW.size)
 clear hb
 clear hHeld
 refine hK.out _ _ (by exact ⟨K5.cs, K17.cs⟩) (fun hHeld => ?_)
 clear hK
 (try simp only [p0, p1, p2, p3])
 refine pR1 10 (fun K hK => ?_)
 go_simp
 (go_at_call 102; with_reducible refine (b_clo4 L1 L2 (by decide)).mono ?_)
 rintro _ w22 ⟨f, rfl, L, hb⟩
 (try go_wp2_with fail)
 replace K5 := K5.on hb
 replace K10 := K10.on hb
 replace K17 := K17.on hb
 replace Z11 := Z11.on hb
 replace BW := BW.trans (hb.mono BW.size)
 clear hb
 clear hHeld
 refine hK.out _ _ (by exact ⟨K5.cs, K17.cs⟩) (fun hHeld => ?_)
 clear hK
 (try simp only [p0, p1, p2, p3])
 refine pR1 11 (fun K hK => ?_)
 refine ite_yes (by rfl) (wp_stL rfl rfl rfl K10 Z11 rfl rfl rfl ?_)
 obtain ⟨V23, hk25⟩ : ∃ V23, V23 = w22.setCells (w.heap.size + 1) 0 [.bool f.A.n, .slice f.A.A f.A.xs.length f.A.c, .bool f.A.m, .slice f.A.B f.A.ds.length f.A.d, .bool f.B.n, .slice f.B.A f.B.xs.length f.B.c, .bool f.B.m, .slice f.B.B f.B.ds.length f.B.d, .bool f.C.n, .slice f.C.A f.C.xs.length f.C.c, .bool f.C.m, .slice f.C.B f.C.ds.length f.C.d, .bool f.D.n, .slice f.D.A f.D.xs.length f.D.c, .bool f.D.m, .slice f.D.B f.D.ds.length f.D.d] := ⟨_, rfl⟩
 have e24 := hk25
 have hk26 := Kept.overE hk25 K10 rfl (Nat.le_of_ble_eq_true rfl)
 replace K5 := K5.awayE hk25 n12
 replace K10 := K10.overE hk25 rfl
 replace K17 := K17.awayE hk25 n18.symm
 replace L := L.kp hk26
 replace BW := Below.putE BW hk25 g13
 clear hk25 hk26
 replace K10 : Box V23 (w.heap.size + 1) (mcs f) := K10
 rw [← e24]
 clear e24
 clear hHeld
 refine hK.out _ _ (by exact ⟨K5.cs, K17.cs⟩) (fun hHeld => ?_)
 clear hK
 (try simp only [p0])
 refine wpAnyH_done (by kernel_rfl) (NoPanic.normal ?_) _
 go_wp2
 exact bodyPost_ret (v := mv f) (res_L Tryz.results61 (by rfl) K10 rfl) rfl ⟨f, rfl, L.mono (by decide), BW⟩
set_option maxHeartbeats 8000000 in
set_option maxRecDepth 20000 in
theorem b_mat5 {p q : Rat} {a b : Fv} {w : World} (La : Ff w p a) (Lb : Ff w q b)  :
    Calls Tryz.prog 61 #[.agg #[.int .u8 5, .bool a.n, .slice a.A a.xs.length a.c, .bool a.m, .slice a.B a.ds.length a.d, .bool b.n, .slice b.A b.xs.length b.c, .bool b.m, .slice b.B b.ds.length b.d]] w (GMx w ((Mq.lens 0).neg) (2050)) := by
 have BW : Below w.heap.size w w := Below.refl _ _
 obtain ⟨V2, e3, hb4, K5, -, z1⟩ := alloc_new w [.int .u8 5, .bool a.n, .slice a.A a.xs.length a.c, .bool a.m, .slice a.B a.ds.length a.d, .bool b.n, .slice b.A b.xs.length b.c, .bool b.m, .slice b.B b.ds.length b.d] 58
 replace La := La.kp (Kept.of hb4)
 replace Lb := Lb.kp (Kept.of hb4)
 replace BW := BW.trans (hb4.mono BW.size)
 clear hb4
 obtain ⟨V7, e8, hb9, K10, Z11, z6⟩ := alloc_new V2 [.bool false, .slice none 0 0, .bool false, .slice none 0 0, .bool false, .slice none 0 0, .bool false, .slice none 0 0, .bool false, .slice none 0 0, .bool false, .slice none 0 0, .bool false, .slice none 0 0, .bool false, .slice none 0 0] 76
 rw [z1] at K10 Z11 z6
 replace K10 : Box V7 (w.heap.size + 1) (zcs16) := K10
 have n12 : w.heap.size ≠ w.heap.size + 1 := Nat.ne_of_lt (z1 ▸ K5.lt)
 have g13 : w.heap.size ≤ w.heap.size + 1 := z1 ▸ BW.size
 replace K5 := K5.on hb9
 replace La := La.kp (Kept.of hb9)
 replace Lb := Lb.kp (Kept.of hb9)
 replace BW := BW.trans (hb9.mono BW.size)
 clear hb9
 obtain ⟨V14, e15, hb16, K17, -, -⟩ := alloc_new V7 [.nilFunc, .func (.func 96) #[] #[], .func (.func 98) #[] #[], .func (.func 100) #[] #[], .func (.func 102) #[] #[], .func (.func 103) #[] #[]] 146
 rw [z6] at K17
 have n18 : w.heap.size + 1 ≠ w.heap.size + 1 + 1 := Nat.ne_of_lt (z6 ▸ K10.lt)
 replace K5 := K5.on hb16
 replace K10 := K10.on hb16
 replace Z11 := Z11.on hb16
 replace La := La.kp (Kept.of hb16)
 replace Lb := Lb.kp (Kept.of hb16)
 replace BW := BW.trans (hb16.mono BW.size)
 clear hb16
 clear z1 z6
 go_enter Tryz.func61, Tryz.ntmps61
 go_wp2_with fail
 rw [← e3, ← e8, ← e15]
 clear e3 e8 e15
 refine wp_region_noPanic ?_
 have hb : Below V14.heap.size V14 V14.drew := (Below.refl _ _).drew
 replace K5 := K5.on hb
 replace K10 := K10.on hb
 replace K17 := K17.on hb
 replace Z11 := Z11.on hb
 replace La := La.kp (Kept.of hb)
 replace Lb := Lb.kp (Kept.of hb)
 replace BW := BW.trans (hb.mono BW.size)
 clear hb
 refine wp_region_held_drew (S := (fun wx => Cs wx (w.heap.size) 0 [.int .u8 5, .bool a.n, .slice a.A a.xs.length a.c, .bool a.m, .slice a.B a.ds.length a.d, .bool b.n, .slice b.A b.xs.length b.c, .bool b.m, .slice b.B b.ds.length b.d] ∧ Cs wx (w.heap.size + 1 + 1) 0 [.nilFunc, .func (.func 96) #[] #[], .func (.func 98) #[] #[], .func (.func 100) #[] #[], .func (.func 102) #[] #[], .func (.func 103) #[] #[]])) (by kernel_rfl) (by exact ⟨K5.cs, K17.cs⟩) (fun hHeld => ?_)
 generalize V14.drew = Vd19 at *
 refine pT 0 ?_
 (try simp only [p0, p1, p2, p3])
 refine pT 1 ?_
 (try simp only [p0, p1, p2, p3])
 refine pT 2 ?_
 (try simp only [p0, p1, p2, p3])
 refine pT 3 ?_
 (try simp only [p0, p1, p2, p3])
 refine pT 4 ?_
 (try simp only [p0, p1, p2, p3])
 refine pT 5 ?_
 (try simp only [p0, p1, p2, p3])
 refine pT 7 ?_
 (try simp only [p0, p1, p2, p3])
 refine pT 8 ?_
 (try simp only [p0, p1, p2, p3])
 refine pR1 6 (fun K hK => ?_)
 go_simp
 (go_at_call 45; with_reducible refine (q_from La).mono ?_)
 rintro _ w20 ⟨f1, rfl, L1, hb⟩
 (try go_wp2_with fail)
 replace K5 := K5.on hb
 replace K10 := K10.on hb
 replace K17 := K17.on hb
 replace Z11 := Z11.on hb
 replace Lb := Lb.kp (Kept.of hb)
 replace BW := BW.trans (hb.mono BW.size)
 clear hb
 clear hHeld
 refine hK.out _ _ (by exact ⟨K5.cs, K17.cs⟩) (fun hHeld => ?_)
 clear hK
 (try simp only [p0, p1, p2, p3])
 refine pR1 9 (fun K hK => ?_)
 go_simp
 (go_at_call 45; with_reducible refine (q_from Lb).mono ?_)
 rintro _ w21 ⟨f2, rfl, L2, hb⟩
 (try go_wp2_with fail)
 replace K5 := K5.on hb
 replace K10 := K10.on hb
 replace K17 := K17.on hb
 replace Z11 := Z11.on hb
 replace L1 := L1.kp (Kept.of hb)
 replace BW := BW.trans (hb.mono BW.size)
 clear hb
 clear hHeld
 refine hK.out _ _ (by exact ⟨K5.cs, K17.cs⟩) (fun hHeld => ?_)
 clear hK
 (try simp only [p0, p1, p2, p3])
 refine pR1 10 (fun K hK => ?_)
 go_simp
 (go_at_call 103; with_reducible refine (b_clo5 L1 L2 (by decide)).mono ?_)
 rintro _ w22 ⟨f, rfl, L, hb⟩
 (try go_wp2_with fail)
 replace K5 := K5.on hb
 replace K10 := K10.on hb
 replace K17 := K17.on hb
 replace Z11 := Z11.on hb
 replace BW := BW.trans (hb.mono BW.size)
 clear hb
 clear hHeld
 refine hK.out _ _ (by exact ⟨K5.cs, K17.cs⟩) (fun hHeld => ?_)
 clear hK
 (try simp only [p0, p1, p2, p3])
 refine pR1 11 (fun K hK => ?_)
 refine ite_yes (by rfl) (wp_stL rfl rfl rfl K10 Z11 rfl rfl rfl ?_)
 obtain ⟨V23, hk25⟩ : ∃ V23, V23 = w22.setCells (w.heap.size + 1) 0 [.bool f.A.n, .slice f.A.A f.A.xs.length f.A.c, .bool f.A.m, .slice f.A.B f.A.ds.length f.A.d, .bool f.B.n, .slice f.B.A f.B.xs.length f.B.c, .bool f.B.m, .slice f.B.B f.B.ds.length f.B.d, .bool f.C.n, .slice f.C.A f.C.xs.length f.C.c, .bool f.C.m, .slice f.C.B f.C.ds.length f.C.d, .bool f.D.n, .slice f.D.A f.D.xs.length f.D.c, .bool f.D.m, .slice f.D.B f.D.ds.length f.D.d] := ⟨_, rfl⟩
 have e24 := hk25
 have hk26 := Kept.overE hk25 K10 rfl (Nat.le_of_ble_eq_true rfl)
 replace K5 := K5.awayE hk25 n12
 replace K10 := K10.overE hk25 rfl
 replace K17 := K17.awayE hk25 n18.symm
 replace L := L.kp hk26
 replace BW := Below.putE BW hk25 g13
 clear hk25 hk26
 replace K10 : Box V23 (w.heap.size + 1) (mcs f) := K10
 rw [← e24]
 clear e24
 clear hHeld
 refine hK.out _ _ (by exact ⟨K5.cs, K17.cs⟩) (fun hHeld => ?_)
 clear hK
 (try simp only [p0])
 refine wpAnyH_done (by kernel_rfl) (NoPanic.normal ?_) _
 go_wp2
 exact bodyPost_ret (v := mv f) (res_L Tryz.results61 (by rfl) K10 rfl) rfl ⟨f, rfl, L.mono (by decide), BW⟩
theorem b_matrix {z : Eq} {e : Ev} {w : World} (h : Fe w z e) (hz : z.may) : Calls Tryz.prog 61 #[ev e] w (GMx w z.mat 2050) := by
 obtain ⟨k, P, Q⟩ := e
 obtain ⟨hk, hP, hQ⟩ := h
 simp only at hk hP hQ
 unfold Eq.mat
 rcases hz with ⟨h1, _⟩ | ⟨h1, _⟩ | ⟨h1, _, h2⟩ | h1 | ⟨h1, _⟩
 ·obtain rfl : k = 1 := hk.symm.trans h1
  rw [if_pos h1]; exact b_mat1 hP hQ
 ·obtain rfl : k = 2 := hk.symm.trans h1
  rw [if_neg (by omega), if_pos h1]; exact b_mat2 hP hQ
 ·obtain rfl : k = 3 := hk.symm.trans h1
  rw [if_neg (by omega), if_neg (by omega), if_pos h1]; exact b_mat3 hP hQ (fun e => by have := Rat.num_eq_zero.1 e; grind)
 ·obtain rfl : k = 4 := hk.symm.trans h1
  rw [if_neg (by omega), if_neg (by omega), if_neg (by omega), if_pos h1]; exact b_mat4 hP hQ
 ·obtain rfl : k = 5 := hk.symm.trans h1
  rw [if_neg (by omega), if_neg (by omega), if_neg (by omega), if_neg (by omega)]; exact b_mat5 hP hQ
end Go.Proofs.YtjamfkafgfpobaaGreat
namespace Go.Proofs.YtjamfkafgfpobaaGreat
open Go.RowKit Nb
set_option maxHeartbeats 8000000 in
set_option maxRecDepth 20000 in
theorem b_may1 {p q : Rat} {a b : Fv} {w : World} (La : Ff w p a) (Lb : Ff w q b) :
    Calls Tryz.prog 64 #[.agg #[.int .u8 1, .bool a.n, .slice a.A a.xs.length a.c, .bool a.m, .slice a.B a.ds.length a.d, .bool b.n, .slice b.A b.xs.length b.c, .bool b.m, .slice b.B b.ds.length b.d]] w (YesIf w (0 ≤ p ∧ q = 0)) := by
 have BW : Below w.heap.size w w := Below.refl _ _
 obtain ⟨V1, e2, hb3, K4, -, -⟩ := alloc_new w [.int .u8 1, .bool a.n, .slice a.A a.xs.length a.c, .bool a.m, .slice a.B a.ds.length a.d, .bool b.n, .slice b.A b.xs.length b.c, .bool b.m, .slice b.B b.ds.length b.d] 58
 replace La := La.kp (Kept.of hb3)
 replace Lb := Lb.kp (Kept.of hb3)
 replace BW := BW.trans (hb3.mono BW.size)
 clear hb3
 go_enter Tryz.func64, Tryz.ntmps64
 go_wp2_with fail
 rw [← e2]
 clear e2
 refine (r_check La.fx).mono ?_
 rintro _ w5 ⟨rfl, hb⟩
 replace K4 := K4.on hb
 replace La := La.kp (Kept.of hb)
 replace Lb := Lb.kp (Kept.of hb)
 replace BW := BW.trans (hb.mono BW.size)
 clear hb
 rw [chkv_ok La.okv]
 obtain ⟨c6, c7, c8, c9, c10, c11, c12, c13, c14⟩ := K4.c9
 go_wp2_with fail
 clear c6 c7 c8 c9 c10 c11 c12 c13 c14
 refine (r_check Lb.fx).mono ?_
 rintro _ w15 ⟨rfl, hb⟩
 replace K4 := K4.on hb
 replace La := La.kp (Kept.of hb)
 replace Lb := Lb.kp (Kept.of hb)
 replace BW := BW.trans (hb.mono BW.size)
 clear hb
 rw [chkv_ok Lb.okv]
 go_wp2_with fail
 refine wp_region_noPanic ?_
 have hb : Below w15.heap.size w15 w15.drew := (Below.refl _ _).drew
 replace K4 := K4.on hb
 replace La := La.kp (Kept.of hb)
 replace Lb := Lb.kp (Kept.of hb)
 replace BW := BW.trans (hb.mono BW.size)
 clear hb
 refine wp_region_held_drew (S := (fun wx => Cs wx (w.heap.size) 0 [.int .u8 1, .bool a.n, .slice a.A a.xs.length a.c, .bool a.m, .slice a.B a.ds.length a.d, .bool b.n, .slice b.A b.xs.length b.c, .bool b.m, .slice b.B b.ds.length b.d])) (by kernel_rfl) (by exact K4.cs) (fun hHeld => ?_)
 generalize w15.drew = Vd16 at *
 refine pT 0 ?_
 (try simp only [p0, p1, p2, p3])
 refine pT 1 ?_
 (try simp only [p0, p1, p2, p3])
 refine pT 4 ?_
 (try simp only [p0, p1, p2, p3])
 refine pT 5 ?_
 (try simp only [p0, p1, p2, p3])
 refine pR1 2 (fun K hK => ?_)
 go_simp
 (go_at_call 45; with_reducible refine (q_from La).mono ?_)
 rintro _ w17 ⟨f1, rfl, L1, hb⟩
 (try go_wp2_with fail)
 replace K4 := K4.on hb
 replace Lb := Lb.kp (Kept.of hb)
 replace BW := BW.trans (hb.mono BW.size)
 clear hb
 clear hHeld
 refine hK.out _ _ (by exact K4.cs) (fun hHeld => ?_)
 clear hK
 (try simp only [p0, p1, p2, p3])
 refine pR1 3 (fun K hK => ?_)
 go_simp
 (go_at_call 105; with_reducible refine (b_sign L1 (by decide)).mono ?_)
 rintro _ w18 ⟨rfl, hb⟩
 (try go_wp2_with fail)
 replace K4 := K4.on hb
 replace Lb := Lb.kp (Kept.of hb)
 replace BW := BW.trans (hb.mono BW.size)
 clear hb
 clear hHeld
 refine hK.out _ _ (by exact K4.cs) (fun hHeld => ?_)
 clear hK
 (try simp only [p0, p1, p2, p3])
 refine pR1 6 (fun K hK => ?_)
 go_simp
 (go_at_call 45; with_reducible refine (q_from Lb).mono ?_)
 rintro _ w19 ⟨f2, rfl, L2, hb⟩
 (try go_wp2_with fail)
 replace K4 := K4.on hb
 replace BW := BW.trans (hb.mono BW.size)
 clear hb
 clear hHeld
 refine hK.out _ _ (by exact K4.cs) (fun hHeld => ?_)
 clear hK
 (try simp only [p0, p1, p2, p3])
 refine pR1 7 (fun K hK => ?_)
 go_simp
 (go_at_call 105; with_reducible refine (b_sign L2 (by decide)).mono ?_)
 rintro _ w20 ⟨rfl, hb⟩
 (try go_wp2_with fail)
 replace K4 := K4.on hb
 replace BW := BW.trans (hb.mono BW.size)
 clear hb
 clear hHeld
 refine hK.out _ _ (by exact K4.cs) (fun hHeld => ?_)
 clear hK
 (try simp only [p0, p1, p2, p3])
 refine pT 8 ?_
 (try simp only [p0, p1, p2, p3])
 refine pT 9 ?_
 (try simp only [p0, p1, p2, p3])
 refine wpAnyH_done (by kernel_rfl) (NoPanic.normal ?_) _
 generalize hs : sgnQ p = s at *
 generalize ht : sgnQ q = t at *
 have HS := Lib.hid hs
 have HT := Lib.hid ht
 clear hs ht
 obtain ⟨c21, c22, c23, c24, c25, c26, c27, c28, c29⟩ := K4.c9
 by_cases h1 : 0 ≤ s
 · by_cases h2 : t = 0
   · subst h2
     go_wp2_with fail
     exact bodyPost_ret (v := .bool true) (by simp [results, Tryz.results64, go_sem]) rfl ⟨true, rfl, ⟨fun _ => ⟨sgn_ge.1 (HS.out ▸ h1), sgn_zero.1 HT.out⟩, fun _ => rfl⟩, BW⟩
   · have h3 : (t == 0) = false := by simpa using h2
     go_wp2_with fail
     exact bodyPost_ret (v := .bool false) (by simp [results, Tryz.results64, go_sem]) rfl ⟨false, rfl, ⟨fun h => (by cases h), fun h => absurd (HT.out.symm.trans (sgn_zero.2 h.2)) h2⟩, BW⟩
 · have h3 : s < 0 := by omega
   have h4 : decide (0 ≤ s) = false := by simp; omega
   go_wp2_with fail
   exact bodyPost_ret (v := .bool false) (by simp [results, Tryz.results64, go_sem]) rfl ⟨false, rfl, ⟨fun h => (by cases h), fun h => (by exfalso; have h9 := sgn_ge.2 h.1; rw [HS.out] at h9; omega)⟩, BW⟩
set_option maxHeartbeats 8000000 in
set_option maxRecDepth 20000 in
theorem b_may2 {p q : Rat} {a b : Fv} {w : World} (La : Ff w p a) (Lb : Ff w q b) :
    Calls Tryz.prog 64 #[.agg #[.int .u8 2, .bool a.n, .slice a.A a.xs.length a.c, .bool a.m, .slice a.B a.ds.length a.d, .bool b.n, .slice b.A b.xs.length b.c, .bool b.m, .slice b.B b.ds.length b.d]] w (YesIf w (q = 0)) := by
 have BW : Below w.heap.size w w := Below.refl _ _
 obtain ⟨V1, e2, hb3, K4, -, -⟩ := alloc_new w [.int .u8 2, .bool a.n, .slice a.A a.xs.length a.c, .bool a.m, .slice a.B a.ds.length a.d, .bool b.n, .slice b.A b.xs.length b.c, .bool b.m, .slice b.B b.ds.length b.d] 58
 replace La := La.kp (Kept.of hb3)
 replace Lb := Lb.kp (Kept.of hb3)
 replace BW := BW.trans (hb3.mono BW.size)
 clear hb3
 go_enter Tryz.func64, Tryz.ntmps64
 go_wp2_with fail
 rw [← e2]
 clear e2
 refine (r_check La.fx).mono ?_
 rintro _ w5 ⟨rfl, hb⟩
 replace K4 := K4.on hb
 replace La := La.kp (Kept.of hb)
 replace Lb := Lb.kp (Kept.of hb)
 replace BW := BW.trans (hb.mono BW.size)
 clear hb
 rw [chkv_ok La.okv]
 obtain ⟨c6, c7, c8, c9, c10, c11, c12, c13, c14⟩ := K4.c9
 go_wp2_with fail
 clear c6 c7 c8 c9 c10 c11 c12 c13 c14
 refine (r_check Lb.fx).mono ?_
 rintro _ w15 ⟨rfl, hb⟩
 replace K4 := K4.on hb
 replace La := La.kp (Kept.of hb)
 replace Lb := Lb.kp (Kept.of hb)
 replace BW := BW.trans (hb.mono BW.size)
 clear hb
 rw [chkv_ok Lb.okv]
 go_wp2_with fail
 refine wp_region_noPanic ?_
 have hb : Below w15.heap.size w15 w15.drew := (Below.refl _ _).drew
 replace K4 := K4.on hb
 replace La := La.kp (Kept.of hb)
 replace Lb := Lb.kp (Kept.of hb)
 replace BW := BW.trans (hb.mono BW.size)
 clear hb
 refine wp_region_held_drew (S := (fun wx => Cs wx (w.heap.size) 0 [.int .u8 2, .bool a.n, .slice a.A a.xs.length a.c, .bool a.m, .slice a.B a.ds.length a.d, .bool b.n, .slice b.A b.xs.length b.c, .bool b.m, .slice b.B b.ds.length b.d])) (by kernel_rfl) (by exact K4.cs) (fun hHeld => ?_)
 generalize w15.drew = Vd16 at *
 refine pT 0 ?_
 (try simp only [p0, p1, p2, p3])
 refine pT 1 ?_
 (try simp only [p0, p1, p2, p3])
 refine pT 4 ?_
 (try simp only [p0, p1, p2, p3])
 refine pT 5 ?_
 (try simp only [p0, p1, p2, p3])
 refine pR1 2 (fun K hK => ?_)
 go_simp
 (go_at_call 45; with_reducible refine (q_from La).mono ?_)
 rintro _ w17 ⟨f1, rfl, L1, hb⟩
 (try go_wp2_with fail)
 replace K4 := K4.on hb
 replace Lb := Lb.kp (Kept.of hb)
 replace BW := BW.trans (hb.mono BW.size)
 clear hb
 clear hHeld
 refine hK.out _ _ (by exact K4.cs) (fun hHeld => ?_)
 clear hK
 (try simp only [p0, p1, p2, p3])
 refine pR1 3 (fun K hK => ?_)
 go_simp
 (go_at_call 105; with_reducible refine (b_sign L1 (by decide)).mono ?_)
 rintro _ w18 ⟨rfl, hb⟩
 (try go_wp2_with fail)
 replace K4 := K4.on hb
 replace Lb := Lb.kp (Kept.of hb)
 replace BW := BW.trans (hb.mono BW.size)
 clear hb
 clear hHeld
 refine hK.out _ _ (by exact K4.cs) (fun hHeld => ?_)
 clear hK
 (try simp only [p0, p1, p2, p3])
 refine pR1 6 (fun K hK => ?_)
 go_simp
 (go_at_call 45; with_reducible refine (q_from Lb).mono ?_)
 rintro _ w19 ⟨f2, rfl, L2, hb⟩
 (try go_wp2_with fail)
 replace K4 := K4.on hb
 replace BW := BW.trans (hb.mono BW.size)
 clear hb
 clear hHeld
 refine hK.out _ _ (by exact K4.cs) (fun hHeld => ?_)
 clear hK
 (try simp only [p0, p1, p2, p3])
 refine pR1 7 (fun K hK => ?_)
 go_simp
 (go_at_call 105; with_reducible refine (b_sign L2 (by decide)).mono ?_)
 rintro _ w20 ⟨rfl, hb⟩
 (try go_wp2_with fail)
 replace K4 := K4.on hb
 replace BW := BW.trans (hb.mono BW.size)
 clear hb
 clear hHeld
 refine hK.out _ _ (by exact K4.cs) (fun hHeld => ?_)
 clear hK
 (try simp only [p0, p1, p2, p3])
 refine pT 8 ?_
 (try simp only [p0, p1, p2, p3])
 refine pT 9 ?_
 (try simp only [p0, p1, p2, p3])
 refine wpAnyH_done (by kernel_rfl) (NoPanic.normal ?_) _
 generalize hs : sgnQ p = s at *
 generalize ht : sgnQ q = t at *
 have HS := Lib.hid hs
 have HT := Lib.hid ht
 clear hs ht
 obtain ⟨c21, c22, c23, c24, c25, c26, c27, c28, c29⟩ := K4.c9
 by_cases h2 : t = 0
 · subst h2
   go_wp2_with fail
   exact bodyPost_ret (v := .bool true) (by simp [results, Tryz.results64, go_sem]) rfl ⟨true, rfl, ⟨fun _ => sgn_zero.1 HT.out, fun _ => rfl⟩, BW⟩
 · have h3 : (t == 0) = false := by simpa using h2
   go_wp2_with fail
   exact bodyPost_ret (v := .bool false) (by simp [results, Tryz.results64, go_sem]) rfl ⟨false, rfl, ⟨fun h => (by cases h), fun h => absurd (HT.out.symm.trans (sgn_zero.2 h)) h2⟩, BW⟩
set_option maxHeartbeats 8000000 in
set_option maxRecDepth 20000 in
theorem b_may3 {p q : Rat} {a b : Fv} {w : World} (La : Ff w p a) (Lb : Ff w q b) :
    Calls Tryz.prog 64 #[.agg #[.int .u8 3, .bool a.n, .slice a.A a.xs.length a.c, .bool a.m, .slice a.B a.ds.length a.d, .bool b.n, .slice b.A b.xs.length b.c, .bool b.m, .slice b.B b.ds.length b.d]] w (YesIf w (0 ≤ p ∧ 0 < q)) := by
 have BW : Below w.heap.size w w := Below.refl _ _
 obtain ⟨V1, e2, hb3, K4, -, -⟩ := alloc_new w [.int .u8 3, .bool a.n, .slice a.A a.xs.length a.c, .bool a.m, .slice a.B a.ds.length a.d, .bool b.n, .slice b.A b.xs.length b.c, .bool b.m, .slice b.B b.ds.length b.d] 58
 replace La := La.kp (Kept.of hb3)
 replace Lb := Lb.kp (Kept.of hb3)
 replace BW := BW.trans (hb3.mono BW.size)
 clear hb3
 go_enter Tryz.func64, Tryz.ntmps64
 go_wp2_with fail
 rw [← e2]
 clear e2
 refine (r_check La.fx).mono ?_
 rintro _ w5 ⟨rfl, hb⟩
 replace K4 := K4.on hb
 replace La := La.kp (Kept.of hb)
 replace Lb := Lb.kp (Kept.of hb)
 replace BW := BW.trans (hb.mono BW.size)
 clear hb
 rw [chkv_ok La.okv]
 obtain ⟨c6, c7, c8, c9, c10, c11, c12, c13, c14⟩ := K4.c9
 go_wp2_with fail
 clear c6 c7 c8 c9 c10 c11 c12 c13 c14
 refine (r_check Lb.fx).mono ?_
 rintro _ w15 ⟨rfl, hb⟩
 replace K4 := K4.on hb
 replace La := La.kp (Kept.of hb)
 replace Lb := Lb.kp (Kept.of hb)
 replace BW := BW.trans (hb.mono BW.size)
 clear hb
 rw [chkv_ok Lb.okv]
 go_wp2_with fail
 refine wp_region_noPanic ?_
 have hb : Below w15.heap.size w15 w15.drew := (Below.refl _ _).drew
 replace K4 := K4.on hb
 replace La := La.kp (Kept.of hb)
 replace Lb := Lb.kp (Kept.of hb)
 replace BW := BW.trans (hb.mono BW.size)
 clear hb
 refine wp_region_held_drew (S := (fun wx => Cs wx (w.heap.size) 0 [.int .u8 3, .bool a.n, .slice a.A a.xs.length a.c, .bool a.m, .slice a.B a.ds.length a.d, .bool b.n, .slice b.A b.xs.length b.c, .bool b.m, .slice b.B b.ds.length b.d])) (by kernel_rfl) (by exact K4.cs) (fun hHeld => ?_)
 generalize w15.drew = Vd16 at *
 refine pT 0 ?_
 (try simp only [p0, p1, p2, p3])
 refine pT 1 ?_
 (try simp only [p0, p1, p2, p3])
 refine pT 4 ?_
 (try simp only [p0, p1, p2, p3])
 refine pT 5 ?_
 (try simp only [p0, p1, p2, p3])
 refine pR1 2 (fun K hK => ?_)
 go_simp
 (go_at_call 45; with_reducible refine (q_from La).mono ?_)
 rintro _ w17 ⟨f1, rfl, L1, hb⟩
 (try go_wp2_with fail)
 replace K4 := K4.on hb
 replace Lb := Lb.kp (Kept.of hb)
 replace BW := BW.trans (hb.mono BW.size)
 clear hb
 clear hHeld
 refine hK.out _ _ (by exact K4.cs) (fun hHeld => ?_)
 clear hK
 (try simp only [p0, p1, p2, p3])
 refine pR1 3 (fun K hK => ?_)
 go_simp
 (go_at_call 105; with_reducible refine (b_sign L1 (by decide)).mono ?_)
 rintro _ w18 ⟨rfl, hb⟩
 (try go_wp2_with fail)
 replace K4 := K4.on hb
 replace Lb := Lb.kp (Kept.of hb)
 replace BW := BW.trans (hb.mono BW.size)
 clear hb
 clear hHeld
 refine hK.out _ _ (by exact K4.cs) (fun hHeld => ?_)
 clear hK
 (try simp only [p0, p1, p2, p3])
 refine pR1 6 (fun K hK => ?_)
 go_simp
 (go_at_call 45; with_reducible refine (q_from Lb).mono ?_)
 rintro _ w19 ⟨f2, rfl, L2, hb⟩
 (try go_wp2_with fail)
 replace K4 := K4.on hb
 replace BW := BW.trans (hb.mono BW.size)
 clear hb
 clear hHeld
 refine hK.out _ _ (by exact K4.cs) (fun hHeld => ?_)
 clear hK
 (try simp only [p0, p1, p2, p3])
 refine pR1 7 (fun K hK => ?_)
 go_simp
 (go_at_call 105; with_reducible refine (b_sign L2 (by decide)).mono ?_)
 rintro _ w20 ⟨rfl, hb⟩
 (try go_wp2_with fail)
 replace K4 := K4.on hb
 replace BW := BW.trans (hb.mono BW.size)
 clear hb
 clear hHeld
 refine hK.out _ _ (by exact K4.cs) (fun hHeld => ?_)
 clear hK
 (try simp only [p0, p1, p2, p3])
 refine pT 8 ?_
 (try simp only [p0, p1, p2, p3])
 refine pT 9 ?_
 (try simp only [p0, p1, p2, p3])
 refine wpAnyH_done (by kernel_rfl) (NoPanic.normal ?_) _
 generalize hs : sgnQ p = s at *
 generalize ht : sgnQ q = t at *
 have HS := Lib.hid hs
 have HT := Lib.hid ht
 clear hs ht
 obtain ⟨c21, c22, c23, c24, c25, c26, c27, c28, c29⟩ := K4.c9
 by_cases h1 : 0 ≤ s
 · by_cases h2 : 0 < t
   · go_wp2_with fail
     exact bodyPost_ret (v := .bool true) (by simp [results, Tryz.results64, go_sem]) rfl ⟨true, rfl, ⟨fun _ => ⟨sgn_ge.1 (HS.out ▸ h1), sgn_gt.1 (HT.out ▸ h2)⟩, fun _ => rfl⟩, BW⟩
   · have h3 : t ≤ 0 := by omega
     have h4 : decide (0 < t) = false := by simp; omega
     go_wp2_with fail
     exact bodyPost_ret (v := .bool false) (by simp [results, Tryz.results64, go_sem]) rfl ⟨false, rfl, ⟨fun h => (by cases h), fun h => (by exfalso; have h9 := sgn_gt.2 h.2; rw [HT.out] at h9; omega)⟩, BW⟩
 · have h3 : s < 0 := by omega
   have h4 : decide (0 ≤ s) = false := by simp; omega
   go_wp2_with fail
   exact bodyPost_ret (v := .bool false) (by simp [results, Tryz.results64, go_sem]) rfl ⟨false, rfl, ⟨fun h => (by cases h), fun h => (by exfalso; have h9 := sgn_ge.2 h.1; rw [HS.out] at h9; omega)⟩, BW⟩
set_option maxHeartbeats 8000000 in
set_option maxRecDepth 20000 in
theorem b_may4 {p q : Rat} {a b : Fv} {w : World} (La : Ff w p a) (Lb : Ff w q b) :
    Calls Tryz.prog 64 #[.agg #[.int .u8 4, .bool a.n, .slice a.A a.xs.length a.c, .bool a.m, .slice a.B a.ds.length a.d, .bool b.n, .slice b.A b.xs.length b.c, .bool b.m, .slice b.B b.ds.length b.d]] w (YesIf w (True)) := by
 have BW : Below w.heap.size w w := Below.refl _ _
 obtain ⟨V1, e2, hb3, K4, -, -⟩ := alloc_new w [.int .u8 4, .bool a.n, .slice a.A a.xs.length a.c, .bool a.m, .slice a.B a.ds.length a.d, .bool b.n, .slice b.A b.xs.length b.c, .bool b.m, .slice b.B b.ds.length b.d] 58
 replace La := La.kp (Kept.of hb3)
 replace Lb := Lb.kp (Kept.of hb3)
 replace BW := BW.trans (hb3.mono BW.size)
 clear hb3
 go_enter Tryz.func64, Tryz.ntmps64
 go_wp2_with fail
 rw [← e2]
 clear e2
 refine (r_check La.fx).mono ?_
 rintro _ w5 ⟨rfl, hb⟩
 replace K4 := K4.on hb
 replace La := La.kp (Kept.of hb)
 replace Lb := Lb.kp (Kept.of hb)
 replace BW := BW.trans (hb.mono BW.size)
 clear hb
 rw [chkv_ok La.okv]
 obtain ⟨c6, c7, c8, c9, c10, c11, c12, c13, c14⟩ := K4.c9
 go_wp2_with fail
 clear c6 c7 c8 c9 c10 c11 c12 c13 c14
 refine (r_check Lb.fx).mono ?_
 rintro _ w15 ⟨rfl, hb⟩
 replace K4 := K4.on hb
 replace La := La.kp (Kept.of hb)
 replace Lb := Lb.kp (Kept.of hb)
 replace BW := BW.trans (hb.mono BW.size)
 clear hb
 rw [chkv_ok Lb.okv]
 go_wp2_with fail
 refine wp_region_noPanic ?_
 have hb : Below w15.heap.size w15 w15.drew := (Below.refl _ _).drew
 replace K4 := K4.on hb
 replace La := La.kp (Kept.of hb)
 replace Lb := Lb.kp (Kept.of hb)
 replace BW := BW.trans (hb.mono BW.size)
 clear hb
 refine wp_region_held_drew (S := (fun wx => Cs wx (w.heap.size) 0 [.int .u8 4, .bool a.n, .slice a.A a.xs.length a.c, .bool a.m, .slice a.B a.ds.length a.d, .bool b.n, .slice b.A b.xs.length b.c, .bool b.m, .slice b.B b.ds.length b.d])) (by kernel_rfl) (by exact K4.cs) (fun hHeld => ?_)
 generalize w15.drew = Vd16 at *
 refine pT 0 ?_
 (try simp only [p0, p1, p2, p3])
 refine pT 1 ?_
 (try simp only [p0, p1, p2, p3])
 refine pT 4 ?_
 (try simp only [p0, p1, p2, p3])
 refine pT 5 ?_
 (try simp only [p0, p1, p2, p3])
 refine pR1 2 (fun K hK => ?_)
 go_simp
 (go_at_call 45; with_reducible refine (q_from La).mono ?_)
 rintro _ w17 ⟨f1, rfl, L1, hb⟩
 (try go_wp2_with fail)
 replace K4 := K4.on hb
 replace Lb := Lb.kp (Kept.of hb)
 replace BW := BW.trans (hb.mono BW.size)
 clear hb
 clear hHeld
 refine hK.out _ _ (by exact K4.cs) (fun hHeld => ?_)
 clear hK
 (try simp only [p0, p1, p2, p3])
 refine pR1 3 (fun K hK => ?_)
 go_simp
 (go_at_call 105; with_reducible refine (b_sign L1 (by decide)).mono ?_)
 rintro _ w18 ⟨rfl, hb⟩
 (try go_wp2_with fail)
 replace K4 := K4.on hb
 replace Lb := Lb.kp (Kept.of hb)
 replace BW := BW.trans (hb.mono BW.size)
 clear hb
 clear hHeld
 refine hK.out _ _ (by exact K4.cs) (fun hHeld => ?_)
 clear hK
 (try simp only [p0, p1, p2, p3])
 refine pR1 6 (fun K hK => ?_)
 go_simp
 (go_at_call 45; with_reducible refine (q_from Lb).mono ?_)
 rintro _ w19 ⟨f2, rfl, L2, hb⟩
 (try go_wp2_with fail)
 replace K4 := K4.on hb
 replace BW := BW.trans (hb.mono BW.size)
 clear hb
 clear hHeld
 refine hK.out _ _ (by exact K4.cs) (fun hHeld => ?_)
 clear hK
 (try simp only [p0, p1, p2, p3])
 refine pR1 7 (fun K hK => ?_)
 go_simp
 (go_at_call 105; with_reducible refine (b_sign L2 (by decide)).mono ?_)
 rintro _ w20 ⟨rfl, hb⟩
 (try go_wp2_with fail)
 replace K4 := K4.on hb
 replace BW := BW.trans (hb.mono BW.size)
 clear hb
 clear hHeld
 refine hK.out _ _ (by exact K4.cs) (fun hHeld => ?_)
 clear hK
 (try simp only [p0, p1, p2, p3])
 refine pT 8 ?_
 (try simp only [p0, p1, p2, p3])
 refine pT 9 ?_
 (try simp only [p0, p1, p2, p3])
 refine wpAnyH_done (by kernel_rfl) (NoPanic.normal ?_) _
 generalize hs : sgnQ p = s at *
 generalize ht : sgnQ q = t at *
 have HS := Lib.hid hs
 have HT := Lib.hid ht
 clear hs ht
 obtain ⟨c21, c22, c23, c24, c25, c26, c27, c28, c29⟩ := K4.c9
 go_wp2_with fail
 exact bodyPost_ret (v := .bool true) (by simp [results, Tryz.results64, go_sem]) rfl ⟨true, rfl, ⟨fun _ => trivial, fun _ => rfl⟩, BW⟩
set_option maxHeartbeats 8000000 in
set_option maxRecDepth 20000 in
theorem b_may5 {p q : Rat} {a b : Fv} {w : World} (La : Ff w p a) (Lb : Ff w q b) :
    Calls Tryz.prog 64 #[.agg #[.int .u8 5, .bool a.n, .slice a.A a.xs.length a.c, .bool a.m, .slice a.B a.ds.length a.d, .bool b.n, .slice b.A b.xs.length b.c, .bool b.m, .slice b.B b.ds.length b.d]] w (YesIf w (p = 0 ∧ q = 0)) := by
 have BW : Below w.heap.size w w := Below.refl _ _
 obtain ⟨V1, e2, hb3, K4, -, -⟩ := alloc_new w [.int .u8 5, .bool a.n, .slice a.A a.xs.length a.c, .bool a.m, .slice a.B a.ds.length a.d, .bool b.n, .slice b.A b.xs.length b.c, .bool b.m, .slice b.B b.ds.length b.d] 58
 replace La := La.kp (Kept.of hb3)
 replace Lb := Lb.kp (Kept.of hb3)
 replace BW := BW.trans (hb3.mono BW.size)
 clear hb3
 go_enter Tryz.func64, Tryz.ntmps64
 go_wp2_with fail
 rw [← e2]
 clear e2
 refine (r_check La.fx).mono ?_
 rintro _ w5 ⟨rfl, hb⟩
 replace K4 := K4.on hb
 replace La := La.kp (Kept.of hb)
 replace Lb := Lb.kp (Kept.of hb)
 replace BW := BW.trans (hb.mono BW.size)
 clear hb
 rw [chkv_ok La.okv]
 obtain ⟨c6, c7, c8, c9, c10, c11, c12, c13, c14⟩ := K4.c9
 go_wp2_with fail
 clear c6 c7 c8 c9 c10 c11 c12 c13 c14
 refine (r_check Lb.fx).mono ?_
 rintro _ w15 ⟨rfl, hb⟩
 replace K4 := K4.on hb
 replace La := La.kp (Kept.of hb)
 replace Lb := Lb.kp (Kept.of hb)
 replace BW := BW.trans (hb.mono BW.size)
 clear hb
 rw [chkv_ok Lb.okv]
 go_wp2_with fail
 refine wp_region_noPanic ?_
 have hb : Below w15.heap.size w15 w15.drew := (Below.refl _ _).drew
 replace K4 := K4.on hb
 replace La := La.kp (Kept.of hb)
 replace Lb := Lb.kp (Kept.of hb)
 replace BW := BW.trans (hb.mono BW.size)
 clear hb
 refine wp_region_held_drew (S := (fun wx => Cs wx (w.heap.size) 0 [.int .u8 5, .bool a.n, .slice a.A a.xs.length a.c, .bool a.m, .slice a.B a.ds.length a.d, .bool b.n, .slice b.A b.xs.length b.c, .bool b.m, .slice b.B b.ds.length b.d])) (by kernel_rfl) (by exact K4.cs) (fun hHeld => ?_)
 generalize w15.drew = Vd16 at *
 refine pT 0 ?_
 (try simp only [p0, p1, p2, p3])
 refine pT 1 ?_
 (try simp only [p0, p1, p2, p3])
 refine pT 4 ?_
 (try simp only [p0, p1, p2, p3])
 refine pT 5 ?_
 (try simp only [p0, p1, p2, p3])
 refine pR1 2 (fun K hK => ?_)
 go_simp
 (go_at_call 45; with_reducible refine (q_from La).mono ?_)
 rintro _ w17 ⟨f1, rfl, L1, hb⟩
 (try go_wp2_with fail)
 replace K4 := K4.on hb
 replace Lb := Lb.kp (Kept.of hb)
 replace BW := BW.trans (hb.mono BW.size)
 clear hb
 clear hHeld
 refine hK.out _ _ (by exact K4.cs) (fun hHeld => ?_)
 clear hK
 (try simp only [p0, p1, p2, p3])
 refine pR1 3 (fun K hK => ?_)
 go_simp
 (go_at_call 105; with_reducible refine (b_sign L1 (by decide)).mono ?_)
 rintro _ w18 ⟨rfl, hb⟩
 (try go_wp2_with fail)
 replace K4 := K4.on hb
 replace Lb := Lb.kp (Kept.of hb)
 replace BW := BW.trans (hb.mono BW.size)
 clear hb
 clear hHeld
 refine hK.out _ _ (by exact K4.cs) (fun hHeld => ?_)
 clear hK
 (try simp only [p0, p1, p2, p3])
 refine pR1 6 (fun K hK => ?_)
 go_simp
 (go_at_call 45; with_reducible refine (q_from Lb).mono ?_)
 rintro _ w19 ⟨f2, rfl, L2, hb⟩
 (try go_wp2_with fail)
 replace K4 := K4.on hb
 replace BW := BW.trans (hb.mono BW.size)
 clear hb
 clear hHeld
 refine hK.out _ _ (by exact K4.cs) (fun hHeld => ?_)
 clear hK
 (try simp only [p0, p1, p2, p3])
 refine pR1 7 (fun K hK => ?_)
 go_simp
 (go_at_call 105; with_reducible refine (b_sign L2 (by decide)).mono ?_)
 rintro _ w20 ⟨rfl, hb⟩
 (try go_wp2_with fail)
 replace K4 := K4.on hb
 replace BW := BW.trans (hb.mono BW.size)
 clear hb
 clear hHeld
 refine hK.out _ _ (by exact K4.cs) (fun hHeld => ?_)
 clear hK
 (try simp only [p0, p1, p2, p3])
 refine pT 8 ?_
 (try simp only [p0, p1, p2, p3])
 refine pT 9 ?_
 (try simp only [p0, p1, p2, p3])
 refine wpAnyH_done (by kernel_rfl) (NoPanic.normal ?_) _
 generalize hs : sgnQ p = s at *
 generalize ht : sgnQ q = t at *
 have HS := Lib.hid hs
 have HT := Lib.hid ht
 clear hs ht
 obtain ⟨c21, c22, c23, c24, c25, c26, c27, c28, c29⟩ := K4.c9
 by_cases h1 : s = 0
 · subst h1
   by_cases h2 : t = 0
   · subst h2
     go_wp2_with fail
     exact bodyPost_ret (v := .bool true) (by simp [results, Tryz.results64, go_sem]) rfl ⟨true, rfl, ⟨fun _ => ⟨sgn_zero.1 HS.out, sgn_zero.1 HT.out⟩, fun _ => rfl⟩, BW⟩
   · have h3 : (t == 0) = false := by simpa using h2
     go_wp2_with fail
     exact bodyPost_ret (v := .bool false) (by simp [results, Tryz.results64, go_sem]) rfl ⟨false, rfl, ⟨fun h => (by cases h), fun h => absurd (HT.out.symm.trans (sgn_zero.2 h.2)) h2⟩, BW⟩
 · have h3 : (s == 0) = false := by simpa using h1
   go_wp2_with fail
   exact bodyPost_ret (v := .bool false) (by simp [results, Tryz.results64, go_sem]) rfl ⟨false, rfl, ⟨fun h => (by cases h), fun h => absurd (HS.out.symm.trans (sgn_zero.2 h.1)) h1⟩, BW⟩
set_option maxHeartbeats 8000000 in
set_option maxRecDepth 20000 in
theorem b_mayk {p q : Rat} {a b : Fv} {w : World} {k : Int} (hk : k ≠ 1 ∧ k ≠ 2 ∧ k ≠ 3 ∧ k ≠ 4 ∧ k ≠ 5) (La : Ff w p a) (Lb : Ff w q b) :
    Calls Tryz.prog 64 #[.agg #[.int .u8 k, .bool a.n, .slice a.A a.xs.length a.c, .bool a.m, .slice a.B a.ds.length a.d, .bool b.n, .slice b.A b.xs.length b.c, .bool b.m, .slice b.B b.ds.length b.d]] w (YesIf w (False)) := by
 have BW : Below w.heap.size w w := Below.refl _ _
 obtain ⟨V1, e2, hb3, K4, -, -⟩ := alloc_new w [.int .u8 k, .bool a.n, .slice a.A a.xs.length a.c, .bool a.m, .slice a.B a.ds.length a.d, .bool b.n, .slice b.A b.xs.length b.c, .bool b.m, .slice b.B b.ds.length b.d] 58
 replace La := La.kp (Kept.of hb3)
 replace Lb := Lb.kp (Kept.of hb3)
 replace BW := BW.trans (hb3.mono BW.size)
 clear hb3
 go_enter Tryz.func64, Tryz.ntmps64
 go_wp2_with fail
 rw [← e2]
 clear e2
 refine (r_check La.fx).mono ?_
 rintro _ w5 ⟨rfl, hb⟩
 replace K4 := K4.on hb
 replace La := La.kp (Kept.of hb)
 replace Lb := Lb.kp (Kept.of hb)
 replace BW := BW.trans (hb.mono BW.size)
 clear hb
 rw [chkv_ok La.okv]
 obtain ⟨c6, c7, c8, c9, c10, c11, c12, c13, c14⟩ := K4.c9
 go_wp2_with fail
 clear c6 c7 c8 c9 c10 c11 c12 c13 c14
 refine (r_check Lb.fx).mono ?_
 rintro _ w15 ⟨rfl, hb⟩
 replace K4 := K4.on hb
 replace La := La.kp (Kept.of hb)
 replace Lb := Lb.kp (Kept.of hb)
 replace BW := BW.trans (hb.mono BW.size)
 clear hb
 rw [chkv_ok Lb.okv]
 go_wp2_with fail
 refine wp_region_noPanic ?_
 have hb : Below w15.heap.size w15 w15.drew := (Below.refl _ _).drew
 replace K4 := K4.on hb
 replace La := La.kp (Kept.of hb)
 replace Lb := Lb.kp (Kept.of hb)
 replace BW := BW.trans (hb.mono BW.size)
 clear hb
 refine wp_region_held_drew (S := (fun wx => Cs wx (w.heap.size) 0 [.int .u8 k, .bool a.n, .slice a.A a.xs.length a.c, .bool a.m, .slice a.B a.ds.length a.d, .bool b.n, .slice b.A b.xs.length b.c, .bool b.m, .slice b.B b.ds.length b.d])) (by kernel_rfl) (by exact K4.cs) (fun hHeld => ?_)
 generalize w15.drew = Vd16 at *
 refine pT 0 ?_
 (try simp only [p0, p1, p2, p3])
 refine pT 1 ?_
 (try simp only [p0, p1, p2, p3])
 refine pT 4 ?_
 (try simp only [p0, p1, p2, p3])
 refine pT 5 ?_
 (try simp only [p0, p1, p2, p3])
 refine pR1 2 (fun K hK => ?_)
 go_simp
 (go_at_call 45; with_reducible refine (q_from La).mono ?_)
 rintro _ w17 ⟨f1, rfl, L1, hb⟩
 (try go_wp2_with fail)
 replace K4 := K4.on hb
 replace Lb := Lb.kp (Kept.of hb)
 replace BW := BW.trans (hb.mono BW.size)
 clear hb
 clear hHeld
 refine hK.out _ _ (by exact K4.cs) (fun hHeld => ?_)
 clear hK
 (try simp only [p0, p1, p2, p3])
 refine pR1 3 (fun K hK => ?_)
 go_simp
 (go_at_call 105; with_reducible refine (b_sign L1 (by decide)).mono ?_)
 rintro _ w18 ⟨rfl, hb⟩
 (try go_wp2_with fail)
 replace K4 := K4.on hb
 replace Lb := Lb.kp (Kept.of hb)
 replace BW := BW.trans (hb.mono BW.size)
 clear hb
 clear hHeld
 refine hK.out _ _ (by exact K4.cs) (fun hHeld => ?_)
 clear hK
 (try simp only [p0, p1, p2, p3])
 refine pR1 6 (fun K hK => ?_)
 go_simp
 (go_at_call 45; with_reducible refine (q_from Lb).mono ?_)
 rintro _ w19 ⟨f2, rfl, L2, hb⟩
 (try go_wp2_with fail)
 replace K4 := K4.on hb
 replace BW := BW.trans (hb.mono BW.size)
 clear hb
 clear hHeld
 refine hK.out _ _ (by exact K4.cs) (fun hHeld => ?_)
 clear hK
 (try simp only [p0, p1, p2, p3])
 refine pR1 7 (fun K hK => ?_)
 go_simp
 (go_at_call 105; with_reducible refine (b_sign L2 (by decide)).mono ?_)
 rintro _ w20 ⟨rfl, hb⟩
 (try go_wp2_with fail)
 replace K4 := K4.on hb
 replace BW := BW.trans (hb.mono BW.size)
 clear hb
 clear hHeld
 refine hK.out _ _ (by exact K4.cs) (fun hHeld => ?_)
 clear hK
 (try simp only [p0, p1, p2, p3])
 refine pT 8 ?_
 (try simp only [p0, p1, p2, p3])
 refine pT 9 ?_
 (try simp only [p0, p1, p2, p3])
 refine wpAnyH_done (by kernel_rfl) (NoPanic.normal ?_) _
 generalize hs : sgnQ p = s at *
 generalize ht : sgnQ q = t at *
 have HS := Lib.hid hs
 have HT := Lib.hid ht
 clear hs ht
 obtain ⟨c21, c22, c23, c24, c25, c26, c27, c28, c29⟩ := K4.c9
 have k1 : (k == 1) = false := by simp; omega
 have k2 : (k == 2) = false := by simp; omega
 have k3 : (k == 3) = false := by simp; omega
 have k4 : (k == 4) = false := by simp; omega
 have k5 : (k == 5) = false := by simp; omega
 clear hk
 go_wp2_with fail
 exact bodyPost_ret (v := .bool false) (by simp [results, Tryz.results64, go_sem]) rfl ⟨false, rfl, ⟨fun h => (by cases h), fun h => h.elim⟩, BW⟩
set_option maxHeartbeats 8000000 in
set_option maxRecDepth 20000 in
theorem b_mayP {k : Int} {a b : Fv} {w : World} (La : Fx w a) (_Lb : Fx w b) (hn : ¬ okv a) :
    Calls Tryz.prog 64 #[.agg #[.int .u8 k, .bool a.n, .slice a.A a.xs.length a.c, .bool a.m, .slice a.B a.ds.length a.d, .bool b.n, .slice b.A b.xs.length b.c, .bool b.m, .slice b.B b.ds.length b.d]] w (fun e w' => e = .returned (.bool false) ∧ Below w.heap.size w w') := by
 have HN := Lib.hid hn
 clear hn
 have BW : Below w.heap.size w w := Below.refl _ _
 obtain ⟨V1, e2, hb3, K4, -, -⟩ := alloc_new w [.int .u8 k, .bool a.n, .slice a.A a.xs.length a.c, .bool a.m, .slice a.B a.ds.length a.d, .bool b.n, .slice b.A b.xs.length b.c, .bool b.m, .slice b.B b.ds.length b.d] 58
 replace La := La.kp (Kept.of hb3)
 replace BW := BW.trans (hb3.mono BW.size)
 clear hb3
 go_enter Tryz.func64, Tryz.ntmps64
 go_wp2_with fail
 rw [← e2]
 clear e2
 refine (r_check La).mono ?_
 rintro _ w5 ⟨rfl, hb⟩
 replace BW := BW.trans (hb.mono BW.size)
 clear hb
 rw [chkv_bad HN.out]
 go_wp2_with fail
 exact bodyPost_ret (v := .bool false) (by simp [results, Tryz.results64, go_sem]) rfl ⟨rfl, BW⟩
set_option maxHeartbeats 8000000 in
set_option maxRecDepth 20000 in
theorem b_mayQ {k : Int} {a b : Fv} {w : World} (La : Fx w a) (Lb : Fx w b) (ha : okv a) (hn : ¬ okv b) :
    Calls Tryz.prog 64 #[.agg #[.int .u8 k, .bool a.n, .slice a.A a.xs.length a.c, .bool a.m, .slice a.B a.ds.length a.d, .bool b.n, .slice b.A b.xs.length b.c, .bool b.m, .slice b.B b.ds.length b.d]] w (fun e w' => e = .returned (.bool false) ∧ Below w.heap.size w w') := by
 have HN := Lib.hid hn
 clear hn
 have BW : Below w.heap.size w w := Below.refl _ _
 obtain ⟨V1, e2, hb3, K4, -, -⟩ := alloc_new w [.int .u8 k, .bool a.n, .slice a.A a.xs.length a.c, .bool a.m, .slice a.B a.ds.length a.d, .bool b.n, .slice b.A b.xs.length b.c, .bool b.m, .slice b.B b.ds.length b.d] 58
 replace La := La.kp (Kept.of hb3)
 replace Lb := Lb.kp (Kept.of hb3)
 replace BW := BW.trans (hb3.mono BW.size)
 clear hb3
 go_enter Tryz.func64, Tryz.ntmps64
 go_wp2_with fail
 rw [← e2]
 clear e2
 refine (r_check La).mono ?_
 rintro _ w5 ⟨rfl, hb⟩
 replace K4 := K4.on hb
 replace Lb := Lb.kp (Kept.of hb)
 replace BW := BW.trans (hb.mono BW.size)
 clear hb
 rw [chkv_ok ha]
 obtain ⟨c6, c7, c8, c9, c10, c11, c12, c13, c14⟩ := K4.c9
 go_wp2_with fail
 clear c6 c7 c8 c9 c10 c11 c12 c13 c14
 refine (r_check Lb).mono ?_
 rintro _ w15 ⟨rfl, hb⟩
 replace BW := BW.trans (hb.mono BW.size)
 clear hb
 rw [chkv_bad HN.out]
 go_wp2_with fail
 exact bodyPost_ret (v := .bool false) (by simp [results, Tryz.results64, go_sem]) rfl ⟨rfl, BW⟩
theorem b_may {e : Ev} {w : World} (X : Xe w e) : Calls Tryz.prog 64 #[ev e] w (fun ee w' => ∃ r : Bool, ee = .returned (.bool r) ∧ (r = true ↔ MayE w e) ∧ Below w.heap.size w w') := by
 obtain ⟨k, P, Q⟩ := e
 obtain ⟨_, hP, hQ⟩ := X
 simp only at hP hQ
 by_cases oP : okv P
 ·by_cases oQ : okv Q
  ·obtain ⟨p, La⟩ := oP.ff hP
   obtain ⟨q, Lb⟩ := oQ.ff hQ
   have key : MayE w ⟨k, P, Q⟩ ↔ (⟨k, p, q⟩ : Eq).may := by
    constructor
    ·rintro ⟨⟨k', p', q'⟩, ⟨h1, h2, h3⟩, hm⟩
     simp only at h1 h2 h3
     rw [h1, h2.uniq La, h3.uniq Lb] at hm
     exact hm
    ·exact fun h => ⟨⟨k, p, q⟩, ⟨rfl, La, Lb⟩, h⟩
   by_cases k1 : k = 1
   ·subst k1
    refine (b_may1 La Lb).mono ?_
    rintro _ w1 ⟨r, rfl, h, hb⟩
    exact ⟨r, rfl, h.trans (by rw [key]; unfold Eq.may; simp), hb⟩
   by_cases k2 : k = 2
   ·subst k2
    refine (b_may2 La Lb).mono ?_
    rintro _ w1 ⟨r, rfl, h, hb⟩
    exact ⟨r, rfl, h.trans (by rw [key]; unfold Eq.may; simp), hb⟩
   by_cases k3 : k = 3
   ·subst k3
    refine (b_may3 La Lb).mono ?_
    rintro _ w1 ⟨r, rfl, h, hb⟩
    exact ⟨r, rfl, h.trans (by rw [key]; unfold Eq.may; simp), hb⟩
   by_cases k4 : k = 4
   ·subst k4
    refine (b_may4 La Lb).mono ?_
    rintro _ w1 ⟨r, rfl, h, hb⟩
    exact ⟨r, rfl, h.trans (by rw [key]; unfold Eq.may; simp), hb⟩
   by_cases k5 : k = 5
   ·subst k5
    refine (b_may5 La Lb).mono ?_
    rintro _ w1 ⟨r, rfl, h, hb⟩
    exact ⟨r, rfl, h.trans (by rw [key]; unfold Eq.may; simp), hb⟩
   refine (b_mayk ⟨k1, k2, k3, k4, k5⟩ La Lb).mono ?_
   rintro _ w1 ⟨r, rfl, h, hb⟩
   exact ⟨r, rfl, h.trans (by rw [key]; unfold Eq.may; simp [k1, k2, k3, k4, k5]), hb⟩
  ·refine (b_mayQ hP hQ oP oQ).mono ?_
   rintro _ w1 ⟨rfl, hb⟩
   exact ⟨false, rfl, ⟨fun h => (by cases h), fun ⟨z, h, _⟩ => absurd h.fQ.okv oQ⟩, hb⟩
 ·refine (b_mayP hP hQ oP).mono ?_
  rintro _ w1 ⟨rfl, hb⟩
  exact ⟨false, rfl, ⟨fun h => (by cases h), fun ⟨z, h, _⟩ => absurd h.fP.okv oP⟩, hb⟩
end Go.Proofs.YtjamfkafgfpobaaGreat
namespace Go.Proofs.YtjamfkafgfpobaaGreat
open Go.RowKit Nb
/-- A bench in memory. -/
def Sle (W : World) (a : Option Addr) (c : Nat) (es : List Ev) : Prop := es.length ≤ c ∧ c ≤ 9223372036854775807 ∧ (∀ e ∈ es, Xe W e) ∧ ∀ (i : Nat) (e : Ev), es[i]? = some e → ∃ g o : Nat, a = some ⟨g, o, none⟩ ∧ g < W.heap.size ∧ AtB W g (o + i * 9) (ecs e)
section
variable {W W' w : World} {a : Option Addr} {c i : Nat} {es : List Ev} {e : Ev}
theorem AtB.on {p o : Nat} {us : List Value} (h : AtB W p o us) (hp : p < W.heap.size) (hb : Below W.heap.size W W') : AtB W' p o us := fun j v ev => (hb.cell (p := ⟨p, o + j, none⟩) hp).trans (h j v ev)
theorem Sle.on (h : Sle W a c es) (hb : Below W.heap.size W W') : Sle W' a c es :=
 ⟨h.1, h.2.1, fun e he => (h.2.2.1 e he).kp (Kept.of hb), fun i e he => by
  obtain ⟨g, o, h1, h2, h3⟩ := h.2.2.2 i e he
  exact ⟨g, o, h1, Nat.lt_of_lt_of_le h2 hb.size, h3.on h2 hb⟩⟩
theorem Sle.xe (h : Sle W a c es) (he : es[i]? = some e) : Xe W e := h.2.2.1 e (List.mem_of_getElem? he)
theorem MayE.at (X : Xe w e) (h : MayE W e) : MayE w e := by
 obtain ⟨z, ⟨h1, h2, h3⟩, hm⟩ := h
 obtain ⟨p, k2⟩ := h2.okv.ff X.2.1
 obtain ⟨q, k3⟩ := h3.okv.ff X.2.2
 exact ⟨z, ⟨h1, by rw [h2.uniq k2]; exact k2, by rw [h3.uniq k3]; exact k3⟩, hm⟩
def MayL (W : World) (es : List Ev) : Prop := ∀ e ∈ es, MayE W e
theorem MayL.at (X : ∀ e ∈ es, Xe w e) (h : MayL W es) : MayL w es := fun e he => (h e he).at (X e he)
theorem MayL.kp (h : MayL W es) (k : Kept W W') : MayL W' es := fun e he => (h e he).kp k
/-- What Check answers. -/
def ChkL (W : World) (es : List Ev) (r : Int) : Prop := (r = 4 ∧ 4096 < es.length) ∨ (es.length ≤ 4096 ∧ ((r = 0 ∧ MayL W es) ∨ (r = 1 ∧ ¬ MayL W es)))
theorem ChkL.zero {r : Int} (h : ChkL W es r) (hr : r = 0) : es.length ≤ 4096 ∧ MayL W es := by
 rcases h with ⟨h1, _⟩ | ⟨h1, ⟨_, h2⟩ | ⟨h2, _⟩⟩
 ·omega
 ·exact ⟨h1, h2⟩
 ·omega
theorem ChkL.yes {r : Int} (h : ChkL W es r) (hl : es.length ≤ 4096) (hm : MayL W es) : r = 0 := by
 rcases h with ⟨h1, h2⟩ | ⟨h1, ⟨h2, _⟩ | ⟨_, h2⟩⟩
 ·omega
 ·exact h2
 ·exact absurd hm h2
theorem ChkL.kp {r : Int} (h : ChkL W es r) (X : ∀ e ∈ es, Xe W e) (k : Kept W W') : ChkL W' es r := by
 rcases h with h | ⟨h1, ⟨h2, h3⟩ | ⟨h2, h3⟩⟩
 ·exact .inl h
 ·exact .inr ⟨h1, .inl ⟨h2, h3.kp k⟩⟩
 ·exact .inr ⟨h1, .inr ⟨h2, fun h => h3 (MayL.at X h)⟩⟩
end
theorem pre_step {W : World} {es : List Ev} {k : Nat} {e : Ev} (h : ∀ i x, i < k → es[i]? = some x → MayE W x) (he : es[k]? = some e) (hm : MayE W e) : ∀ i x, i < k + 1 → es[i]? = some x → MayE W x := fun i x hi hx => by
 by_cases hk : i = k
 ·subst hk; rw [he] at hx; cases hx; exact hm
 ·exact h i x (by omega) hx
set_option maxHeartbeats 16000000 in
set_option maxRecDepth 100000 in
theorem b_check {a : Option Addr} {c : Nat} {es : List Ev} {w : World} (S : Sle w a c es) :
    Calls Tryz.prog 30 #[.slice a es.length c] w (fun ee w' => ∃ r : Int, ee = .returned (.int .i64 r) ∧ ChkL w es r ∧ Below w.heap.size w w') := by
 have hlen : (es.length : Int) ≤ 9223372036854775807 := by have h1 := S.1; have h2 := S.2.1; omega
 have HS := Lib.hid S
 by_cases hn : 4096 < es.length
 · have h1 : (4096 : Int) < (es.length : Int) := by omega
   have BW : Below w.heap.size w w := Below.refl _ _
   go_enter Tryz.func30, Tryz.ntmps30
   go_wp2_with fail
   exact bodyPost_ret (v := .int .i64 4) (by simp [results, Tryz.results30, go_sem]) rfl ⟨4, rfl, .inl ⟨rfl, hn⟩, BW⟩
 · have h1 : (es.length : Int) ≤ 4096 := by omega
   have BW : Below w.heap.size w w := Below.refl _ _
   go_enter Tryz.func30, Tryz.ntmps30
   go_wp2_with fail
   go_loopw [10] (fun iv wr => ∃ k : Nat, iv = .int .i64 (k : Nat) ∧ k ≤ es.length ∧ (∀ i x, i < k → es[i]? = some x → MayE w x) ∧ Below w.heap.size w wr) (fun iv _ => es.length - (intOf iv).toNat)
   case atStart => exact ⟨0, rfl, by omega, fun i x h => by omega, BW⟩
   case round =>
     obtain ⟨k, rfl, hk, hm, BW⟩ := hrel
     have HM := Lib.hid hm
     clear hm
     by_cases hlt : k < es.length
     · have h2 : (k : Int) < (es.length : Int) := by omega
       obtain ⟨e, he⟩ : ∃ e, es[k]? = some e := ⟨_, List.getElem?_eq_getElem hlt⟩
       obtain ⟨g, o, ha, hg, hat0⟩ := HS.out.2.2.2 k e he
       have hat : AtB wr g (o + k * 9) [.int .u8 e.k, .bool e.P.n, .slice e.P.A e.P.xs.length e.P.c, .bool e.P.m, .slice e.P.B e.P.ds.length e.P.d, .bool e.Q.n, .slice e.Q.A e.Q.xs.length e.Q.c, .bool e.Q.m, .slice e.Q.B e.Q.ds.length e.Q.d] := hat0.on hg BW
       have X := (HS.out.xe he).kp (Kept.of BW)
       have X0 := HS.out.xe he
       have HE := Lib.hid he
       clear hat0 he
       subst ha
       obtain ⟨V501, e502, hb503, K504, -, -⟩ := alloc_new wr [.int .u8 e.k, .bool e.P.n, .slice e.P.A e.P.xs.length e.P.c, .bool e.P.m, .slice e.P.B e.P.ds.length e.P.d, .bool e.Q.n, .slice e.Q.A e.Q.xs.length e.Q.c, .bool e.Q.m, .slice e.Q.B e.Q.ds.length e.Q.d] 58
       replace X := X.kp (Kept.of hb503)
       replace BW := BW.trans (hb503.mono BW.size)
       clear hb503
       go_wp2_with (first | (refine wpList_ldE (by rfl) (by rfl) (by rfl) hat (by rfl) ?_))
       rw [← e502]
       clear e502
       generalize wr.heap.size = b505 at *
       obtain ⟨c506, c507, c508, c509, c510, c511, c512, c513, c514⟩ := K504.c9
       go_wp2_with fail
       clear c506 c507 c508 c509 c510 c511 c512 c513 c514
       have HBW := Lib.hid BW
       refine (b_may X).mono ?_
       rintro _ w515 ⟨r, rfl, hr, hb⟩
       replace BW := BW.trans (hb.mono BW.size)
       clear hb
       have HR := Lib.hid hr
       clear hr
       rcases Bool.eq_false_or_eq_true r with rfl | rfl
       · go_wp2_with fail
         go_wp2
         go_roundw
         case rel => exact ⟨k + 1, by go_num, by omega, pre_step HM.out HE.out (MayE.at X0 (HR.out.1 (by trivial))), BW⟩
         case measure => simp [intOf]; omega
       · go_wp2_with fail
         exact bodyPost_ret (v := .int .i64 1) (by simp [results, Tryz.results30, go_sem]) rfl ⟨1, rfl, .inr ⟨by omega, .inr ⟨rfl, fun h => by have h3 := HR.out.2 ((h e (List.mem_of_getElem? HE.out)).kp (Kept.of HBW.out)); simp at h3⟩⟩, BW⟩
     · obtain rfl : k = es.length := by omega
       go_wp2_with fail
       exact bodyPost_ret (v := .int .i64 0) (by simp [results, Tryz.results30, go_sem]) rfl ⟨0, rfl, .inr ⟨by omega, .inl ⟨rfl, fun x hx => by obtain ⟨i, hi, hxi⟩ := List.getElem_of_mem hx; exact HM.out i x hi (by rw [List.getElem?_eq_getElem hi, hxi])⟩⟩, BW⟩
end Go.Proofs.YtjamfkafgfpobaaGreat
