/-
  How great matrices and rays are; may a matrix be, a ray? Conditions: that they are no longer than memory.
-/
import Derived.Test.YtjamfkafgfpobaaGreatRb
import Derived.Test.YtjamfkafgfpobaaGreatRc0
import Derived.Deep.RegionHeld3
import Derived.Deep.DeepCutAuto
import Derived.BigRegion
namespace Go.Proofs.YtjamfkafgfpobaaGreat
open Go.RowKit Nb
theorem chkv_two (a : Fv) : chkv a = 0 ∨ chkv a = 1 := chkF_two _ _ _ _
theorem chkv_one {a : Fv} (h : chkv a = 1) : ¬ okv a := fun k => by rw [chkv_ok k] at h; cases h
theorem Ff.uniq {W W' : World} {q p : Rat} {f : Fv} (h : Ff W q f) (k : Ff W' p f) : q = p := by
 refine Rat.ext (h.2.num.v.symm.trans k.2.num.v) ?_
 have := h.2.den.v.symm.trans k.2.den.v
 omega
theorem Fm.uniq {W W' : World} {q p : Mq} {m : Mv} (h : Fm W q m) (k : Fm W' p m) : q = p :=
 Mq.ext4 (h.1.uniq k.1) (h.2.1.uniq k.2.1) (h.2.2.1.uniq k.2.2.1) (h.2.2.2.uniq k.2.2.2)
section
variable {W : World} {m : Mv} {y : Yv}
theorem Xm.xA (h : Xm W m) : Fx W m.A := h.1
theorem Xm.xB (h : Xm W m) : Fx W m.B := h.2.1
theorem Xm.xC (h : Xm W m) : Fx W m.C := h.2.2.1
theorem Xm.xD (h : Xm W m) : Fx W m.D := h.2.2.2
end
/-- May a matrix be: what Check answers. -/
def MayM (W : World) (m : Mv) : Prop := ∃ q, Fm W q m ∧ q.det = 1
def Chk (W : World) (m : Mv) (r : Int) : Prop := (r = 0 ∧ MayM W m) ∨ (r = 1 ∧ ¬ MayM W m)
theorem wrap_small {x : Int} (h0 : -9223372036854775808 ≤ x) (h1 : x ≤ 9223372036854775807) : IntKind.i64.wrap x = x := by
 rw [IntKind.wrap_i64]; omega
set_option maxHeartbeats 1000000 in
theorem isize_val (n : Bool) (A : Option Addr) (l c : Nat) (w : World) (hl : (l : Int) ≤ 140737488351232) :
  Calls Tryz.prog 121 #[big n A l c] w (fun e w' => e = .returned (.int .i64 (1 + (l : Int))) ∧ Below w.heap.size w w') := by
 go_enter Tryz.func121, Tryz.ntmps121
 go_wp2
 go_ret
 exact ⟨rfl, by go_grown⟩
set_option maxHeartbeats 8000000 in
set_option maxRecDepth 20000 in
theorem f_size {f : Fv} {w : World} (h : Fx w f) :
  Calls Tryz.prog 91 #[fv f] w (fun e w' => e = .returned (.int .i64 (2 + (f.xs.length : Int) + (f.ds.length : Int))) ∧ Below w.heap.size w w') := by
 have l1 : (f.xs.length : Int) ≤ 35184372087808 := by have := h.x.sz; omega
 have l2 : (f.ds.length : Int) ≤ 35184372087808 := by have := h.y.sz; omega
 have HL := Lib.hid (And.intro l1 l2)
 clear h l1 l2
 have BW : Below w.heap.size w w := Below.refl _ _
 obtain ⟨V1, e2, hb3, K4, -, -⟩ := alloc_new w [.bool f.n, .slice f.A f.xs.length f.c, .bool f.m, .slice f.B f.ds.length f.d] 29
 replace BW := BW.trans (hb3.mono BW.size)
 clear hb3
 go_enter Tryz.func91, Tryz.ntmps91
 go_wp2_with fail
 rw [← e2]
 clear e2
 refine wp_region_noPanic ?_
 have hb : Below V1.heap.size V1 V1.drew := (Below.refl _ _).drew
 replace K4 := K4.on hb
 replace BW := BW.trans (hb.mono BW.size)
 clear hb
 refine wp_region_held_drew (S := (fun wx => Cs wx (w.heap.size) 0 [.bool f.n, .slice f.A f.xs.length f.c, .bool f.m, .slice f.B f.ds.length f.d])) (by kernel_rfl) (by exact K4.cs) (fun hHeld => ?_)
 generalize V1.drew = Vd5 at *
 refine pT 0 ?_
 (try simp only [p0, p1, p2, p3])
 refine pT 1 ?_
 (try simp only [p0, p1, p2, p3])
 refine pT 3 ?_
 (try simp only [p0, p1, p2, p3])
 refine pT 4 ?_
 (try simp only [p0, p1, p2, p3])
 refine pR1 2 (fun K hK => ?_)
 go_simp
 (go_at_call 121; with_reducible refine (isize_val _ _ _ _ _ (by have := HL.out; omega)).mono ?_)
 rintro _ w6 ⟨rfl, hb⟩
 (try go_wp2_with fail)
 replace K4 := K4.on hb
 replace BW := BW.trans (hb.mono BW.size)
 clear hb
 refine hK.out _ _ (by exact K4.cs) (fun hHeld => ?_)
 clear hK
 (try simp only [p0, p1, p2, p3])
 refine pR1 5 (fun K hK => ?_)
 go_simp
 (go_at_call 121; with_reducible refine (isize_val _ _ _ _ _ (by have := HL.out; omega)).mono ?_)
 rintro _ w7 ⟨rfl, hb⟩
 (try go_wp2_with fail)
 replace K4 := K4.on hb
 replace BW := BW.trans (hb.mono BW.size)
 clear hb
 refine hK.out _ _ (by exact K4.cs) (fun hHeld => ?_)
 clear hK
 (try simp only [p0, p1, p2, p3])
 refine pT 6 ?_
 (try simp only [p0, p1, p2, p3])
 refine pT 7 ?_
 (try simp only [p0, p1, p2, p3])
 refine wpAnyH_done (by kernel_rfl) (NoPanic.normal ?_) _
 go_wp2
 go_ret
 exact ⟨congrArg (fun z => Ending.returned (.int .i64 z)) ((wrap_small (x := 1 + (f.xs.length : Int) + (1 + (f.ds.length : Int))) (by have := HL.out; omega) (by have := HL.out; omega)).trans (by omega)), BW⟩
set_option maxHeartbeats 16000000 in
set_option maxRecDepth 100000 in
theorem y_check {m : Mv} {w : World} (X : Xm w m) :
    Calls Tryz.prog 14 #[mv m] w (fun e w' => ∃ r : Int, e = .returned (.int .i64 r) ∧ Chk w m r ∧ Below w.heap.size w w') := by
 have HX := Lib.hid X
 have i0 : ∀ v : World, (Instr.index 84 (.agg #[.bool m.A.n, .slice m.A.A m.A.xs.length m.A.c, .bool m.A.m, .slice m.A.B m.A.ds.length m.A.d, .bool m.B.n, .slice m.B.A m.B.xs.length m.B.c, .bool m.B.m, .slice m.B.B m.B.ds.length m.B.d, .bool m.C.n, .slice m.C.A m.C.xs.length m.C.c, .bool m.C.m, .slice m.C.B m.C.ds.length m.C.d, .bool m.D.n, .slice m.D.A m.D.xs.length m.D.c, .bool m.D.m, .slice m.D.B m.D.ds.length m.D.d]) (.int .i64 0)).run Tryz.prog v = .ok (.agg #[.bool m.A.n, .slice m.A.A m.A.xs.length m.A.c, .bool m.A.m, .slice m.A.B m.A.ds.length m.A.d]) v := fun _ => by kernel_rfl
 have i1 : ∀ v : World, (Instr.index 84 (.agg #[.bool m.A.n, .slice m.A.A m.A.xs.length m.A.c, .bool m.A.m, .slice m.A.B m.A.ds.length m.A.d, .bool m.B.n, .slice m.B.A m.B.xs.length m.B.c, .bool m.B.m, .slice m.B.B m.B.ds.length m.B.d, .bool m.C.n, .slice m.C.A m.C.xs.length m.C.c, .bool m.C.m, .slice m.C.B m.C.ds.length m.C.d, .bool m.D.n, .slice m.D.A m.D.xs.length m.D.c, .bool m.D.m, .slice m.D.B m.D.ds.length m.D.d]) (.int .i64 1)).run Tryz.prog v = .ok (.agg #[.bool m.B.n, .slice m.B.A m.B.xs.length m.B.c, .bool m.B.m, .slice m.B.B m.B.ds.length m.B.d]) v := fun _ => by kernel_rfl
 have i2 : ∀ v : World, (Instr.index 84 (.agg #[.bool m.A.n, .slice m.A.A m.A.xs.length m.A.c, .bool m.A.m, .slice m.A.B m.A.ds.length m.A.d, .bool m.B.n, .slice m.B.A m.B.xs.length m.B.c, .bool m.B.m, .slice m.B.B m.B.ds.length m.B.d, .bool m.C.n, .slice m.C.A m.C.xs.length m.C.c, .bool m.C.m, .slice m.C.B m.C.ds.length m.C.d, .bool m.D.n, .slice m.D.A m.D.xs.length m.D.c, .bool m.D.m, .slice m.D.B m.D.ds.length m.D.d]) (.int .i64 2)).run Tryz.prog v = .ok (.agg #[.bool m.C.n, .slice m.C.A m.C.xs.length m.C.c, .bool m.C.m, .slice m.C.B m.C.ds.length m.C.d]) v := fun _ => by kernel_rfl
 have i3 : ∀ v : World, (Instr.index 84 (.agg #[.bool m.A.n, .slice m.A.A m.A.xs.length m.A.c, .bool m.A.m, .slice m.A.B m.A.ds.length m.A.d, .bool m.B.n, .slice m.B.A m.B.xs.length m.B.c, .bool m.B.m, .slice m.B.B m.B.ds.length m.B.d, .bool m.C.n, .slice m.C.A m.C.xs.length m.C.c, .bool m.C.m, .slice m.C.B m.C.ds.length m.C.d, .bool m.D.n, .slice m.D.A m.D.xs.length m.D.c, .bool m.D.m, .slice m.D.B m.D.ds.length m.D.d]) (.int .i64 3)).run Tryz.prog v = .ok (.agg #[.bool m.D.n, .slice m.D.A m.D.xs.length m.D.c, .bool m.D.m, .slice m.D.B m.D.ds.length m.D.d]) v := fun _ => by kernel_rfl
 have BW : Below w.heap.size w w := Below.refl _ _
 obtain ⟨V1, e2, hb3, K4, -, -⟩ := alloc_new w [.bool m.A.n, .slice m.A.A m.A.xs.length m.A.c, .bool m.A.m, .slice m.A.B m.A.ds.length m.A.d, .bool m.B.n, .slice m.B.A m.B.xs.length m.B.c, .bool m.B.m, .slice m.B.B m.B.ds.length m.B.d, .bool m.C.n, .slice m.C.A m.C.xs.length m.C.c, .bool m.C.m, .slice m.C.B m.C.ds.length m.C.d, .bool m.D.n, .slice m.D.A m.D.xs.length m.D.c, .bool m.D.m, .slice m.D.B m.D.ds.length m.D.d] 31
 replace K4 : Box V1 (w.heap.size) (mcs m) := K4
 replace X := X.kp (Kept.of hb3)
 replace BW := BW.trans (hb3.mono BW.size)
 clear hb3
 go_enter Tryz.func14, Tryz.ntmps14
 go_upto_region 1 with fail
 rw [← e2]
 clear e2
 have c5 : Box V1 (w.heap.size) [.bool m.A.n, .slice m.A.A m.A.xs.length m.A.c, .bool m.A.m, .slice m.A.B m.A.ds.length m.A.d, .bool m.B.n, .slice m.B.A m.B.xs.length m.B.c, .bool m.B.m, .slice m.B.B m.B.ds.length m.B.d, .bool m.C.n, .slice m.C.A m.C.xs.length m.C.c, .bool m.C.m, .slice m.C.B m.C.ds.length m.C.d, .bool m.D.n, .slice m.D.A m.D.xs.length m.D.c, .bool m.D.m, .slice m.D.B m.D.ds.length m.D.d] := K4
 go_wp2_with (first | (refine wpList_ldM (by rfl) (by rfl) (by rfl) c5 (by rfl) ?_))
 clear c5
 refine (y_apart).mono ?_
 rintro _ w6 ⟨rfl, hb⟩
 replace K4 := K4.on hb
 replace X := X.kp (Kept.of hb)
 replace BW := BW.trans (hb.mono BW.size)
 clear hb
 go_wp2_with fail
 refine wp_loop_rounds 5 ?_
 rw [rounds_succ]
 obtain ⟨V7, e8, hb9, K10, -, -⟩ := alloc_new w6 [.bool m.A.n, .slice m.A.A m.A.xs.length m.A.c, .bool m.A.m, .slice m.A.B m.A.ds.length m.A.d] 29
 replace K4 := K4.on hb9
 replace X := X.kp (Kept.of hb9)
 replace BW := BW.trans (hb9.mono BW.size)
 clear hb9
 go_wp2_with fail
 rw [← e8]
 clear e8
 generalize w6.heap.size = b11 at *
 refine (r_check X.xA).mono ?_
 rintro _ w12 ⟨rfl, hb⟩
 replace K4 := K4.on hb
 replace X := X.kp (Kept.of hb)
 replace BW := BW.trans (hb.mono BW.size)
 clear hb
 have kk := chkv_two m.A
 have HC := Lib.hid (And.intro (fun h : chkv m.A = 0 => chkv_zero h) (fun h : chkv m.A = 1 => chkv_one h))
 generalize chkv m.A = ck at *
 rcases kk with rfl | rfl
 · have HA0 := Lib.hid (HC.out.1 rfl)
   clear HC
   go_wp2_with fail
   rw [rounds_succ]
   go_wp2_with fail
   obtain ⟨V13, e14, hb15, K16, -, -⟩ := alloc_new w12 [.bool m.B.n, .slice m.B.A m.B.xs.length m.B.c, .bool m.B.m, .slice m.B.B m.B.ds.length m.B.d] 29
   replace K4 := K4.on hb15
   replace X := X.kp (Kept.of hb15)
   replace BW := BW.trans (hb15.mono BW.size)
   clear hb15
   go_wp2_with fail
   rw [← e14]
   clear e14
   generalize w12.heap.size = b17 at *
   refine (r_check X.xB).mono ?_
   rintro _ w18 ⟨rfl, hb⟩
   replace K4 := K4.on hb
   replace X := X.kp (Kept.of hb)
   replace BW := BW.trans (hb.mono BW.size)
   clear hb
   have kk := chkv_two m.B
   have HC := Lib.hid (And.intro (fun h : chkv m.B = 0 => chkv_zero h) (fun h : chkv m.B = 1 => chkv_one h))
   generalize chkv m.B = ck at *
   rcases kk with rfl | rfl
   · have HA1 := Lib.hid (HC.out.1 rfl)
     clear HC
     go_wp2_with fail
     rw [rounds_succ]
     go_wp2_with fail
     obtain ⟨V19, e20, hb21, K22, -, -⟩ := alloc_new w18 [.bool m.C.n, .slice m.C.A m.C.xs.length m.C.c, .bool m.C.m, .slice m.C.B m.C.ds.length m.C.d] 29
     replace K4 := K4.on hb21
     replace X := X.kp (Kept.of hb21)
     replace BW := BW.trans (hb21.mono BW.size)
     clear hb21
     go_wp2_with fail
     rw [← e20]
     clear e20
     generalize w18.heap.size = b23 at *
     refine (r_check X.xC).mono ?_
     rintro _ w24 ⟨rfl, hb⟩
     replace K4 := K4.on hb
     replace X := X.kp (Kept.of hb)
     replace BW := BW.trans (hb.mono BW.size)
     clear hb
     have kk := chkv_two m.C
     have HC := Lib.hid (And.intro (fun h : chkv m.C = 0 => chkv_zero h) (fun h : chkv m.C = 1 => chkv_one h))
     generalize chkv m.C = ck at *
     rcases kk with rfl | rfl
     · have HA2 := Lib.hid (HC.out.1 rfl)
       clear HC
       go_wp2_with fail
       rw [rounds_succ]
       go_wp2_with fail
       obtain ⟨V25, e26, hb27, K28, -, -⟩ := alloc_new w24 [.bool m.D.n, .slice m.D.A m.D.xs.length m.D.c, .bool m.D.m, .slice m.D.B m.D.ds.length m.D.d] 29
       replace K4 := K4.on hb27
       replace X := X.kp (Kept.of hb27)
       replace BW := BW.trans (hb27.mono BW.size)
       clear hb27
       go_wp2_with fail
       rw [← e26]
       clear e26
       generalize w24.heap.size = b29 at *
       refine (r_check X.xD).mono ?_
       rintro _ w30 ⟨rfl, hb⟩
       replace K4 := K4.on hb
       replace BW := BW.trans (hb.mono BW.size)
       clear hb
       have kk := chkv_two m.D
       have HC := Lib.hid (And.intro (fun h : chkv m.D = 0 => chkv_zero h) (fun h : chkv m.D = 1 => chkv_one h))
       generalize chkv m.D = ck at *
       rcases kk with rfl | rfl
       · have HA3 := Lib.hid (HC.out.1 rfl)
         clear HC
         go_wp2_with fail
         rw [rounds_succ]
         go_wp2_with fail
         go_wp2_with fail
         obtain ⟨q, Fm0⟩ := okm.fm ⟨HA0.out, HA1.out, HA2.out, HA3.out⟩ HX.out
         have Fm1 := Fm0.kp (Kept.of BW)
         have HM := Lib.hid Fm0
         clear Fm0
         refine wp_region_noPanic ?_
         have hb : Below w30.heap.size w30 w30.drew := (Below.refl _ _).drew
         replace K4 := K4.on hb
         replace Fm1 := Fm1.kp (Kept.of hb)
         replace BW := BW.trans (hb.mono BW.size)
         clear hb
         refine wp_region_held_drew (S := (fun wx => Cs wx (w.heap.size) 0 [.bool m.A.n, .slice m.A.A m.A.xs.length m.A.c, .bool m.A.m, .slice m.A.B m.A.ds.length m.A.d, .bool m.B.n, .slice m.B.A m.B.xs.length m.B.c, .bool m.B.m, .slice m.B.B m.B.ds.length m.B.d, .bool m.C.n, .slice m.C.A m.C.xs.length m.C.c, .bool m.C.m, .slice m.C.B m.C.ds.length m.C.d, .bool m.D.n, .slice m.D.A m.D.xs.length m.D.c, .bool m.D.m, .slice m.D.B m.D.ds.length m.D.d])) (by kernel_rfl) (by exact K4.cs) (fun hHeld => ?_)
         generalize w30.drew = Vd31 at *
         refine pT 0 ?_
         (try simp only [p0, p1, p2, p3])
         refine pT 1 ?_
         (try simp only [p0, p1, p2, p3])
         refine pT 2 ?_
         (try simp only [p0, p1, p2, p3])
         refine pT 3 ?_
         (try simp only [p0, p1, p2, p3])
         refine pT 4 ?_
         (try simp only [p0, p1, p2, p3])
         refine pT 5 ?_
         (try simp only [p0, p1, p2, p3])
         refine pT 7 ?_
         (try simp only [p0, p1, p2, p3])
         refine pT 8 ?_
         (try simp only [p0, p1, p2, p3])
         refine pR1 6 (fun K hK => ?_)
         go_simp
         (go_at_call 43; with_reducible refine (y_minus Fm1.fB).mono ?_)
         rintro _ w32 ⟨f1, rfl, h1, hb⟩
         (try go_wp2_with fail)
         replace K4 := K4.on hb
         replace Fm1 := Fm1.kp (Kept.of hb)
         replace BW := BW.trans (hb.mono BW.size)
         clear hb
         clear hHeld
         refine hK.out _ _ (by exact K4.cs) (fun hHeld => ?_)
         clear hK
         (try simp only [p0, p1, p2, p3])
         refine pR1 9 (fun K hK => ?_)
         go_simp
         (go_at_call 42; with_reducible refine (y_sum Fm1.fA Fm1.fD h1 Fm1.fC).mono ?_)
         rintro _ w33 ⟨f2, rfl, h2, hb⟩
         (try go_wp2_with fail)
         replace K4 := K4.on hb
         replace h1 := h1.kp (Kept.of hb)
         replace BW := BW.trans (hb.mono BW.size)
         clear hb
         clear hHeld
         refine hK.out _ _ (by exact K4.cs) (fun hHeld => ?_)
         clear hK
         (try simp only [p0, p1, p2, p3])
         refine pR1 10 (fun K hK => ?_)
         go_simp
         (go_at_call 46; with_reducible refine (y_of (n := 1) (by decide) (by decide)).mono ?_)
         rintro _ w34 ⟨f3, rfl, h3, hb⟩
         (try go_wp2_with fail)
         replace K4 := K4.on hb
         replace h1 := h1.kp (Kept.of hb)
         replace h2 := h2.kp (Kept.of hb)
         replace BW := BW.trans (hb.mono BW.size)
         clear hb
         clear hHeld
         refine hK.out _ _ (by exact K4.cs) (fun hHeld => ?_)
         clear hK
         (try simp only [p0, p1, p2, p3])
         refine pR1 11 (fun K hK => ?_)
         go_simp
         (go_at_call 45; with_reducible refine (q_from h3).mono ?_)
         rintro _ w35 ⟨f4, rfl, h4, hb⟩
         (try go_wp2_with fail)
         replace K4 := K4.on hb
         replace h1 := h1.kp (Kept.of hb)
         replace h2 := h2.kp (Kept.of hb)
         replace h3 := h3.kp (Kept.of hb)
         replace BW := BW.trans (hb.mono BW.size)
         clear hb
         replace h4 := h4.mono (C' := 4104) (by decide)
         clear hHeld
         refine hK.out _ _ (by exact K4.cs) (fun hHeld => ?_)
         clear hK
         (try simp only [p0, p1, p2, p3])
         refine pR1 12 (fun K hK => ?_)
         go_simp
         (go_at_call 44; with_reducible refine (q_cmp h2 h4 (by decide)).mono ?_)
         rintro _ w36 ⟨⟨s, rfl, hs⟩, hb⟩
         (try go_wp2_with fail)
         replace K4 := K4.on hb
         replace h1 := h1.kp (Kept.of hb)
         replace h2 := h2.kp (Kept.of hb)
         replace h3 := h3.kp (Kept.of hb)
         replace BW := BW.trans (hb.mono BW.size)
         clear hb
         clear hHeld
         refine hK.out _ _ (by exact K4.cs) (fun hHeld => ?_)
         clear hK
         (try simp only [p0, p1, p2, p3])
         refine pT 13 ?_
         (try simp only [p0, p1, p2, p3])
         refine wpAnyH_done (by kernel_rfl) (NoPanic.normal ?_) _
         have hs2 : (s = 0 ↔ q.det = 1) := by rw [hs]; unfold Mq.det; have h1 : ((1 : Int) : Rat) = 1 := rfl; rw [h1]; constructor <;> intro h <;> grind
         clear hs
         by_cases hs0 : s = 0
         · have hd := hs2.1 hs0
           subst hs0
           clear hs2
           go_wp2
           go_ret
           exact ⟨0, rfl, .inl ⟨rfl, q, HM.out, hd⟩, BW⟩
         · have hd := fun h => hs0 (hs2.2 h)
           have hs3 : (s == 0) = false := by simpa using hs0
           clear hs2 hs0
           go_wp2
           go_ret
           exact ⟨1, rfl, .inr ⟨rfl, fun ⟨q2, h2, h3⟩ => hd (by rw [HM.out.uniq h2]; exact h3)⟩, BW⟩
       · have hn := HC.out.2 rfl
         clear HC
         go_wp2_with fail
         exact bodyPost_ret (v := .int .i64 1) (by simp [results, Tryz.results14, go_sem]) rfl ⟨1, rfl, .inr ⟨rfl, show ¬ MayM w m from fun hm => hn hm.choose_spec.1.okm.2.2.2⟩, BW⟩
     · have hn := HC.out.2 rfl
       clear HC
       go_wp2_with fail
       exact bodyPost_ret (v := .int .i64 1) (by simp [results, Tryz.results14, go_sem]) rfl ⟨1, rfl, .inr ⟨rfl, show ¬ MayM w m from fun hm => hn hm.choose_spec.1.okm.2.2.1⟩, BW⟩
   · have hn := HC.out.2 rfl
     clear HC
     go_wp2_with fail
     exact bodyPost_ret (v := .int .i64 1) (by simp [results, Tryz.results14, go_sem]) rfl ⟨1, rfl, .inr ⟨rfl, show ¬ MayM w m from fun hm => hn hm.choose_spec.1.okm.2.1⟩, BW⟩
 · have hn := HC.out.2 rfl
   clear HC
   go_wp2_with fail
   exact bodyPost_ret (v := .int .i64 1) (by simp [results, Tryz.results14, go_sem]) rfl ⟨1, rfl, .inr ⟨rfl, show ¬ MayM w m from fun hm => hn hm.choose_spec.1.okm.1⟩, BW⟩
theorem y_check0 {q : Mq} {m : Mv} {w : World} (h : Fm w q m) (hd : q.det = 1) : Calls Tryz.prog 14 #[mv m] w (fun e w' => e = .returned (.int .i64 0) ∧ Below w.heap.size w w') := by
 refine (y_check h.xm).mono ?_
 rintro _ w1 ⟨r, rfl, ⟨rfl, _⟩ | ⟨_, hn⟩, hb⟩
 ·exact ⟨rfl, hb⟩
 ·exact absurd ⟨q, h, hd⟩ hn
theorem y_check1 {m : Mv} {w : World} (X : Xm w m) (h : ¬ MayM w m) : Calls Tryz.prog 14 #[mv m] w (fun e w' => e = .returned (.int .i64 1) ∧ Below w.heap.size w w') := by
 refine (y_check X).mono ?_
 rintro _ w1 ⟨r, rfl, ⟨_, hn⟩ | ⟨rfl, _⟩, hb⟩
 ·exact absurd hn h
 ·exact ⟨rfl, hb⟩
end Go.Proofs.YtjamfkafgfpobaaGreat
