/-
  The last ray of a trace is what the whole bench makes of the ray; each is what the next element makes of the last; a trace of two benches is that of the one, and then that of the other: yes. Conditions: that benches and ray are no longer than memory.
-/
import Derived.Test.YtjamfkafgfpobaaGreatTr2
import Derived.Test.YtjamfkafgfpobaaGreatTr3
import Derived.Test.YtjamfkafgfpobaaGreatXtb
import Derived.Test.YtjamfkafgfpobaaGreatRlc
import Derived.Test.YtjamfkafgfpobaaGreatRgt
import Derived.Deep.RegionHeld3
import Derived.Deep.DeepCutAuto
import Derived.BigRegion
namespace Go.Proofs.YtjamfkafgfpobaaGreat
open Go.RowKit Nb

theorem Fz.f9 {W : World} {p : Nat} (K : Fz W p) : W.frozen? ⟨p, 0, none⟩ = false ∧ W.frozen? ⟨p, 1, none⟩ = false ∧ W.frozen? ⟨p, 2, none⟩ = false ∧ W.frozen? ⟨p, 3, none⟩ = false ∧ W.frozen? ⟨p, 4, none⟩ = false ∧ W.frozen? ⟨p, 5, none⟩ = false ∧ W.frozen? ⟨p, 6, none⟩ = false ∧ W.frozen? ⟨p, 7, none⟩ = false ∧ W.frozen? ⟨p, 8, none⟩ = false := ⟨K.2 0, K.2 1, K.2 2, K.2 3, K.2 4, K.2 5, K.2 6, K.2 7, K.2 8⟩
def Bel (w W : World) : Prop := Below w.heap.size w W
def Lew (w : World) (g : Nat) : Prop := w.heap.size ≤ g
section
variable {w W V : World} {g o : Nat} {vs : List Value}
theorem Bel.b (h : Bel w W) : Below w.heap.size w W := h
theorem Bel.size (h : Bel w W) : w.heap.size ≤ W.heap.size := Below.size h
theorem Bel.lew (h : Bel w W) : Lew w W.heap.size := Below.size h
theorem Bel.trans (h : Bel w W) (k : Below w.heap.size W V) : Bel w V := Below.trans h k
theorem Bel.putE (h : Bel w W) (e : V = W.setCells g o vs) (hw : Lew w g) : Bel w V := Below.putE h e hw
end
theorem b_joinL {w : World} {a b : Option Addr} {c d : Nat} {es ds : List Ev} (S1 : Sle w a c es) (S2 : Sle w b d ds) (hl : es.length + ds.length ≤ 4096) : Calls Tryz.prog 11 #[.slice a es.length c, .slice b ds.length d] w (fun e w' => ∃ (gs : List Ev) (a3 : Option Addr) (c3 : Nat), Hid (gs = es ++ ds) ∧ e = .returned (.slice a3 gs.length c3) ∧ Sle w' a3 c3 gs ∧ Below w.heap.size w w') := (b_join S1 S2 hl).mono fun _ _ ⟨a3, c3, h1, h2, h3⟩ => ⟨_, a3, c3, Lib.hid rfl, h1, h2, h3⟩
theorem oky_fy {W : World} {y : Yv} (h : oky y) (X : Xy W y) : ∃ r, Fy W r y := h.fy X
theorem fy_to {W : World} {q p : Yq} {m : Yv} (h : Fy W q m) (e : q = p) : Fy W p m := e ▸ h
theorem Fy.fits' {W : World} {r : Yq} {y : Yv} (h : Fy W r y) : FitsY r := ⟨h.fY.fits, h.fU.fits⟩
theorem rayAt_left {zs ys : List Eq} {r : Yq} : rayAt (zs ++ ys) r zs.length = rayAt zs r zs.length := by have h := rayAt_app (zs := zs) (ys := ys) (r := r) (k := 0); rwa [Nat.add_zero, rayAt_zero] at h
theorem H27 {V W5 w : World} {gv gx n m s : Nat} {vs xs : List Yv} {ys qs : List Eq} {r ra : Yq} (KV : Box V gv (vs.flatMap ycs)) (hv : vs.length = m) (RV : RaysAt V ys ra vs m) (bv : Below V.heap.size V w) (KX : Box W5 gx (xs.flatMap ycs)) (hx : xs.length = n) (RX : RaysAt W5 qs r xs n) (bx : Below W5.heap.size W5 w) (hn : s + m = n) (hr : ∀ i, rayAt ys ra i = rayAt qs r (s + i)) :
  ∀ k, k < m → ∃ (r : Yq) (x y : Yv), AtC w gv (0 + k * 8) (ycs x) ∧ AtC w gx (s * 8 + k * 8) (ycs y) ∧ Fy w r x ∧ Fy w r y := fun k hk => by
 obtain ⟨x, h1⟩ : ∃ x, vs[k]? = some x := ⟨_, List.getElem?_eq_getElem (by omega)⟩
 obtain ⟨y, h2⟩ : ∃ y, xs[s + k]? = some y := ⟨_, List.getElem?_eq_getElem (by omega)⟩
 refine ⟨_, x, y, (Nat.zero_add (k * 8)).symm ▸ (rowY_at KV h1).on bv, ?_, (RV k x hk h1).kp (Kept.of bv), ?_⟩
 ·rw [← Nat.add_mul]; exact (rowY_at KX h2).on bx
 ·rw [hr]; exact (RX (s + k) y (by omega) h2).kp (Kept.of bx)
theorem b_samer0 {g o g2 o2 n : Nat} {w : World} (hn : n = 0) :
  Calls Tryz.prog 27 #[.slice (some ⟨g, o, none⟩) n n, .slice (some ⟨g2, o2, none⟩) 0 0] w (fun e w' => e = .returned (.bool true) ∧ Below w.heap.size w w') := by subst hn; exact b_samer (fun k hk => absurd hk (Nat.not_lt_zero k)) (by decide)
theorem b_samer27 {g g2 s n m : Nat} {w : World} (hm : m = n) (H : ∀ k, k < n → ∃ (r : Yq) (x y : Yv), AtC w g (0 + k * 8) (ycs x) ∧ AtC w g2 (s * 8 + k * 8) (ycs y) ∧ Fy w r x ∧ Fy w r y) (hn : n ≤ 4096) :
  Calls Tryz.prog 27 #[.slice (some ⟨g, 0, none⟩) n n, .slice (some ⟨g2, s * 8, none⟩) m m] w (fun e w' => e = .returned (.bool true) ∧ Below w.heap.size w w') := by subst hm; exact b_samer (o := 0) (o2 := s * 8) H hn
set_option maxHeartbeats 64000000 in
set_option maxRecDepth 100000 in
theorem steps_walk {a b : Option Addr} {c d : Nat} {es ds : List Ev} {y : Yv} {w : World} (S : Sle w a c es) (T : Sle w b d ds) (Y : Xy w y) :
    Calls Tryz.prog 5 #[.slice a es.length c, .slice b ds.length d, yv y] w (fun e w' => e = .returned (.bool true) ∧ Below w.heap.size w w') := by
 have HS := Lib.hid S
 have HT := Lib.hid T
 clear S T
 have BW : Below w.heap.size w w := Below.refl _ _
 obtain ⟨V1, e2, hb3, K4, Z5, -⟩ := alloc_new w [.bool y.Y.n, .slice y.Y.A y.Y.xs.length y.Y.c, .bool y.Y.m, .slice y.Y.B y.Y.ds.length y.Y.d, .bool y.U.n, .slice y.U.A y.U.xs.length y.U.c, .bool y.U.m, .slice y.U.B y.U.ds.length y.U.d] 40
 replace K4 : Box V1 (w.heap.size) (ycs y) := K4
 have g6 : w.heap.size ≤ w.heap.size := BW.size
 replace Y := Y.kp (Kept.of hb3)
 replace BW := BW.trans (hb3.mono BW.size)
 clear hb3
 go_enter Tryz.func5, Tryz.ntmps5
 go_wp2_with fail
 rw [← e2]
 clear e2
 refine (b_alive).mono ?_
 rintro _ w7 ⟨rfl, hb⟩
 replace K4 := K4.on hb
 replace Y := Y.kp (Kept.of hb)
 replace BW := BW.trans (hb.mono BW.size)
 clear hb
 go_wp2_with fail
 have BW0 := Lib.hid BW
 refine (b_fits (HS.out.on BW) (HT.out.on BW)).mono ?_
 rintro _ w8 ⟨r, rfl, hr, hb⟩
 replace K4 := K4.on hb
 replace Y := Y.kp (Kept.of hb)
 replace BW := BW.trans (hb.mono BW.size)
 clear hb
 have HR := Lib.hid hr
 clear hr
 rcases Bool.eq_false_or_eq_true r with rfl | rfl
 · obtain ⟨hl, hm1, hm2⟩ := HR.out (by trivial)
   clear HR
   obtain ⟨zs, F1⟩ := (hm1.at HS.out.2.2.1).fes
   obtain ⟨ys, F2⟩ := (hm2.at HT.out.2.2.1).fes
   have HF1 := Lib.hid F1
   have HF2 := Lib.hid F2
   have HL := Lib.hid hl
   clear hm1 hm2 hl F1 F2
   obtain ⟨c9, c10, c11, c12, c13, c14, c15, c16⟩ := K4.c8
   go_wp2_with fail
   clear c9 c10 c11 c12 c13 c14 c15 c16
   refine (c_ray Y).mono ?_
   rintro _ w17 ⟨n1, rfl, hb⟩
   replace K4 := K4.on hb
   replace Y := Y.kp (Kept.of hb)
   replace BW := BW.trans (hb.mono BW.size)
   clear hb
   obtain ⟨V18, e19, hb20, K21, Z22, -⟩ := alloc_new w17 [.int .i64 n1] 3
   have n23 : w.heap.size ≠ w17.heap.size := Nat.ne_of_lt (K4.lt)
   have g24 : w.heap.size ≤ w17.heap.size := BW.size
   replace K4 := K4.on hb20
   replace Y := Y.kp (Kept.of hb20)
   replace BW := BW.trans (hb20.mono BW.size)
   clear hb20
   go_wp2_with fail
   rw [← e19]
   clear e19
   generalize w17.heap.size = b25 at *
   refine (c_beyond (ns := [n1]) K21 (by simp) (by simp)).mono ?_
   rintro _ w26 ⟨r2, rfl, hb⟩
   replace K4 := K4.on hb
   replace K21 := K21.on hb
   replace Y := Y.kp (Kept.of hb)
   replace BW := BW.trans (hb.mono BW.size)
   clear hb
   clear K21
   rcases Bool.eq_false_or_eq_true r2 with rfl | rfl
   · go_wp2_with fail
     refine (b_alive).mono ?_
     rintro _ w27 ⟨rfl, hb⟩
     replace K4 := K4.on hb
     replace Y := Y.kp (Kept.of hb)
     replace BW := BW.trans (hb.mono BW.size)
     clear hb
     go_wp2_with fail
     exact bodyPost_ret (v := .bool true) (by simp [results, Tryz.results5, go_sem]) rfl ⟨rfl, BW⟩
   · go_wp2_with fail
     by_cases hy : oky y
     · obtain ⟨r, Fy1⟩ := oky_fy hy Y
       clear hy Y
       refine wp_region_noPanic ?_
       have hb : Below w26.heap.size w26 w26.drew := (Below.refl _ _).drew
       replace K4 := K4.on hb
       replace Fy1 := Fy1.kp (Kept.of hb)
       replace BW := BW.trans (hb.mono BW.size)
       clear hb
       refine wp_region_held_drew (S := (fun wx => Cs wx (w.heap.size) 0 [.bool y.Y.n, .slice y.Y.A y.Y.xs.length y.Y.c, .bool y.Y.m, .slice y.Y.B y.Y.ds.length y.Y.d, .bool y.U.n, .slice y.U.A y.U.xs.length y.U.c, .bool y.U.m, .slice y.U.B y.U.ds.length y.U.d])) (by kernel_rfl) (by exact K4.cs) (fun hHeld => ?_)
       generalize w26.drew = Vd27 at *
       refine pT 0 ?_
       (try simp only [p0, p1, p2, p3])
       refine pT 1 ?_
       (try simp only [p0, p1, p2, p3])
       refine pT 3 ?_
       (try simp only [p0, p1, p2, p3])
       refine pR1 2 (fun K hK => ?_)
       go_simp
       (go_at_call 11; with_reducible refine (b_joinL (HS.out.on BW) (HT.out.on BW) HL.out).mono ?_)
       rintro _ w28 ⟨gs, a3, c3, hgs, rfl, S3, hb⟩
       (try go_wp2_with fail)
       replace K4 := K4.on hb
       replace Fy1 := Fy1.kp (Kept.of hb)
       replace BW := BW.trans (hb.mono BW.size)
       clear hb
       have HGS := Lib.hid hgs.out.symm
       have hgl : gs.length ≤ 4096 := by rw [hgs.out, List.length_append]; exact HL.out
       have HGL := Lib.hid hgl
       clear hgs hgl
       obtain ⟨qs, hqs⟩ : ∃ qs, qs = zs ++ ys := ⟨_, rfl⟩
       have F3 := (HF1.out.app HF2.out).kp (Kept.of BW)
       rw [HGS.out, ← hqs] at F3
       have HQS := Lib.hid hqs
       clear hqs
       clear hHeld
       refine hK.out _ _ (by exact K4.cs) (fun hHeld => ?_)
       clear hK
       (try simp only [p0, p1, p2, p3])
       refine pR1 4 (fun K hK => ?_)
       go_simp
       (go_at_call 24; with_reducible refine (b_Trace S3 F3 HGL.out Fy1).mono ?_)
       rintro _ w29 ⟨v, er, rfl, hT, hb⟩
       (try go_wp2_with fail)
       replace K4 := K4.on hb
       replace Fy1 := Fy1.kp (Kept.of hb)
       replace F3 := F3.kp (Kept.of hb)
       replace BW := BW.trans (hb.mono BW.size)
       clear hb
       clear hHeld
       refine hK.out _ _ (by exact K4.cs) (fun hHeld => ?_)
       clear hK
       (try simp only [p0, p1, p2, p3])
       refine pT 5 ?_
       (try simp only [p0, p1, p2, p3])
       refine pT 6 ?_
       (try simp only [p0, p1, p2, p3])
       refine pT 7 ?_
       (try simp only [p0, p1, p2, p3])
       refine pT 8 ?_
       (try simp only [p0, p1, p2, p3])
       refine pT 9 ?_
       (try simp only [p0, p1, p2, p3])
       refine wpAnyH_done (by kernel_rfl) (NoPanic.normal ?_) _
       clear F3 S3
       rcases hT with ⟨rfl, gx, xs, rfl, hxl, hRx, hKx⟩ | ⟨rfl, rfl, -⟩
       · have HXL := Lib.hid hxl
         have HRX := Lib.hid hRx
         have HKX := Lib.hid hKx
         clear hxl hRx hKx
         have BWX : Bel w29 w29 := Below.refl _ _
         have GX9 : Lew w29 w29.heap.size := Nat.le_refl _
         have HFy := Lib.hid Fy1
         have hsum : (es.length : Int) + (ds.length : Int) = (gs.length : Int) := by rw [← HGS.out, List.length_append]; omega
         have hb1 : (es.length : Int) ≤ 4096 := by have := HL.out; omega
         have hb2 : (ds.length : Int) ≤ 4096 := by have := HL.out; omega
         have hb3 : (gs.length : Int) ≤ 4096 := by have := HGL.out; omega
         obtain ⟨c30, c31, c32, c33, c34, c35, c36, c37⟩ := K4.c8
         obtain ⟨V38, e39, hb40, K41, Z42, -⟩ := alloc_new w29 [.bool y.Y.n, .slice y.Y.A y.Y.xs.length y.Y.c, .bool y.Y.m, .slice y.Y.B y.Y.ds.length y.Y.d, .bool y.U.n, .slice y.U.A y.U.xs.length y.U.c, .bool y.U.m, .slice y.U.B y.U.ds.length y.U.d] 40
         replace K41 : Box V38 (w29.heap.size) (ycs y) := K41
         have n43 : w.heap.size ≠ w29.heap.size := Nat.ne_of_lt (K4.lt)
         have g44 : w.heap.size ≤ w29.heap.size := BW.size
         replace K4 := K4.on hb40
         replace Fy1 := Fy1.kp (Kept.of hb40)
         replace BW := BW.trans (hb40.mono BW.size)
         replace BWX := BWX.trans (hb40.mono BWX.size)
         clear hb40
         go_wp2_with fail
         clear c30 c31 c32 c33 c34 c35 c36 c37
         rw [← e39]
         clear e39
         generalize w29.heap.size = b45 at *
         clear hsum
         skip
         have GW9 := Lib.hid (show w.heap.size ≤ b45 from g44)
         have N59 := Lib.hid (show w.heap.size ≠ b45 from n43)
         go_loopw [10] (fun iv wr => ∃ (k : Nat) (yk : Yv), iv = .int .i64 (k : Nat) ∧ k ≤ gs.length ∧ Fy wr (rayAt qs r k) yk ∧ Box wr (b45) (ycs yk) ∧ Fz wr (b45) ∧ Fy wr r y ∧ Box wr (w.heap.size) (ycs y) ∧ Below w.heap.size w wr ∧ Bel w29 wr) (fun iv _ => gs.length - (intOf iv).toNat)
         case atStart => exact ⟨0, y, rfl, by omega, (by rw [rayAt_zero]; exact Fy1), K41, Z42, Fy1, K4, BW, BWX⟩
         case round =>
           obtain ⟨k, yk, rfl, hk, LY, K9, Z9, Fy1, K5, BW, BWX⟩ := hrel
           by_cases hlt : k < gs.length
           · have h2 : (k : Int) < (gs.length : Int) := by omega
             obtain ⟨xk, hxk⟩ : ∃ xk, xs[k]? = some xk := ⟨_, List.getElem?_eq_getElem (by rw [HXL.out]; exact hlt)⟩
             have HLT := Lib.hid hlt
             have HXK := Lib.hid hxk
             clear hxk
             go_upto_region 12 with fail
             obtain ⟨V501, e502, hb503, K504, Z505, -⟩ := alloc_new wr [.int .u8 0, .bool false, .slice none 0 0, .bool false, .slice none 0 0, .bool false, .slice none 0 0, .bool false, .slice none 0 0] 58
             have n506 : b45 ≠ wr.heap.size := Nat.ne_of_lt (K9.lt)
             have n507 : w.heap.size ≠ wr.heap.size := Nat.ne_of_lt (K5.lt)
             have g508 : w.heap.size ≤ wr.heap.size := BW.size
             have gx509 := BWX.lew
             replace K9 := K9.on hb503
             replace K5 := K5.on hb503
             replace Z9 := Z9.on hb503
             replace LY := LY.kp (Kept.of hb503)
             replace Fy1 := Fy1.kp (Kept.of hb503)
             replace BW := BW.trans (hb503.mono BW.size)
             replace BWX := BWX.trans (hb503.mono BWX.size)
             clear hb503
             go_upto_region 13 with fail
             rw [← e502]
             clear e502
             generalize wr.heap.size = b510 at *
             go_upto_if 72 with fail
             go_cut [] (fun wx => ∃ (e : Ev) (z : Eq), qs[k]? = some z ∧ z.may ∧ Fe wx z e ∧ Box wx (b510) (ecs e) ∧ Fy wx (rayAt qs r k) yk ∧ Box wx (b45) (ycs yk) ∧ Fz wx (b45) ∧ Fy wx r y ∧ Box wx (w.heap.size) (ycs y) ∧ Below w.heap.size w wx ∧ Bel w29 wx)
             case first =>
               by_cases hle : k < es.length
               · have h3 : (k : Int) < (es.length : Int) := by omega
                 have hlx : k < es.length := by exact hle
                 have h4 : (k : Int) < (es.length : Int) := by omega
                 obtain ⟨e, he⟩ : ∃ e, es[k]? = some e := ⟨_, List.getElem?_eq_getElem hlx⟩
                 obtain ⟨z, hz⟩ : ∃ z, zs[k]? = some z := ⟨_, List.getElem?_eq_getElem (by rw [HF1.out.1]; exact hlx)⟩
                 obtain ⟨ge, o, ha, hge, hat0⟩ := HS.out.2.2.2 k e he
                 have hat : AtB V501 ge (o + k * 9) [.int .u8 e.k, .bool e.P.n, .slice e.P.A e.P.xs.length e.P.c, .bool e.P.m, .slice e.P.B e.P.ds.length e.P.d, .bool e.Q.n, .slice e.Q.A e.Q.xs.length e.Q.c, .bool e.Q.m, .slice e.Q.B e.Q.ds.length e.Q.d] := hat0.on hge BW
                 have X := (HF1.out.2 k z e hz he).1.kp (Kept.of BW)
                 have HM := Lib.hid (HF1.out.2 k z e hz he).2
                 have hqz : qs[k]? = some z := by rw [HQS.out]; rw [List.getElem?_append_left (by rw [HF1.out.1]; exact hlx)]; exact hz
                 have HQZ := Lib.hid hqz
                 clear hat0 he hz hqz hlx
                 subst ha
                 go_upto_region 14 with fail
                 obtain ⟨c511, c512, c513, c514, c515, c516, c517, c518, c519⟩ := K504.c9
                 obtain ⟨c520, c521, c522, c523, c524, c525, c526, c527, c528⟩ := Z505.f9
                 obtain ⟨V529, hk531⟩ : ∃ V529, V529 = V501.setCells (b510) 0 [.int .u8 e.k, .bool e.P.n, .slice e.P.A e.P.xs.length e.P.c, .bool e.P.m, .slice e.P.B e.P.ds.length e.P.d, .bool e.Q.n, .slice e.Q.A e.Q.xs.length e.Q.c, .bool e.Q.m, .slice e.Q.B e.Q.ds.length e.Q.d] := ⟨_, rfl⟩
                 have e530 := hk531
                 simp only [World.setCells, Nat.zero_add, Nat.reduceAdd] at e530
                 have hk532 := Kept.overE hk531 K504 rfl (Nat.le_of_ble_eq_true rfl)
                 replace K9 := K9.awayE hk531 n506
                 replace K5 := K5.awayE hk531 n507
                 replace K504 := K504.overE hk531 rfl
                 replace Z9 := Z9.putE hk531
                 replace Z505 := Z505.putE hk531
                 replace LY := LY.kp hk532
                 replace Fy1 := Fy1.kp hk532
                 replace X := X.kp hk532
                 replace BW := Below.putE BW hk531 g508
                 replace BWX := BWX.putE hk531 gx509
                 clear hk531 hk532
                 go_wp2_with (first | (refine wpList_ldE (by rfl) (by rfl) (by rfl) hat (by rfl) ?_))
                 clear c511 c512 c513 c514 c515 c516 c517 c518 c519 c520 c521 c522 c523 c524 c525 c526 c527 c528
                 rw [← e530]
                 clear e530
                 go_meet
                 exact ⟨e, z, HQZ.out, HM.out, X, K504, LY, K9, Z9, Fy1, K5, BW, BWX⟩
               · obtain ⟨j, hj⟩ : ∃ j : Nat, j = k - es.length := ⟨_, rfl⟩
                 have hjk : (k : Int) - (es.length : Int) = (j : Int) := by omega
                 have h3 : (es.length : Int) ≤ (k : Int) := by omega
                 have hlx : j < ds.length := by have h1 := HGS.out; have h4 := congrArg List.length h1; rw [List.length_append] at h4; have := HLT.out; omega
                 have h4 : (j : Int) < (ds.length : Int) := by omega
                 obtain ⟨e, he⟩ : ∃ e, ds[j]? = some e := ⟨_, List.getElem?_eq_getElem hlx⟩
                 obtain ⟨z, hz⟩ : ∃ z, ys[j]? = some z := ⟨_, List.getElem?_eq_getElem (by rw [HF2.out.1]; exact hlx)⟩
                 obtain ⟨ge, o, ha, hge, hat0⟩ := HT.out.2.2.2 j e he
                 have hat : AtB V501 ge (o + j * 9) [.int .u8 e.k, .bool e.P.n, .slice e.P.A e.P.xs.length e.P.c, .bool e.P.m, .slice e.P.B e.P.ds.length e.P.d, .bool e.Q.n, .slice e.Q.A e.Q.xs.length e.Q.c, .bool e.Q.m, .slice e.Q.B e.Q.ds.length e.Q.d] := hat0.on hge BW
                 have X := (HF2.out.2 j z e hz he).1.kp (Kept.of BW)
                 have HM := Lib.hid (HF2.out.2 j z e hz he).2
                 have hqz : qs[k]? = some z := by rw [HQS.out]; rw [List.getElem?_append_right (by rw [HF1.out.1]; omega), HF1.out.1, ← hj]; exact hz
                 have HQZ := Lib.hid hqz
                 clear hat0 he hz hqz hlx hj
                 subst ha
                 go_upto_region 15 with fail
                 obtain ⟨c511, c512, c513, c514, c515, c516, c517, c518, c519⟩ := K504.c9
                 obtain ⟨c520, c521, c522, c523, c524, c525, c526, c527, c528⟩ := Z505.f9
                 obtain ⟨V529, hk531⟩ : ∃ V529, V529 = V501.setCells (b510) 0 [.int .u8 e.k, .bool e.P.n, .slice e.P.A e.P.xs.length e.P.c, .bool e.P.m, .slice e.P.B e.P.ds.length e.P.d, .bool e.Q.n, .slice e.Q.A e.Q.xs.length e.Q.c, .bool e.Q.m, .slice e.Q.B e.Q.ds.length e.Q.d] := ⟨_, rfl⟩
                 have e530 := hk531
                 simp only [World.setCells, Nat.zero_add, Nat.reduceAdd] at e530
                 have hk532 := Kept.overE hk531 K504 rfl (Nat.le_of_ble_eq_true rfl)
                 replace K9 := K9.awayE hk531 n506
                 replace K5 := K5.awayE hk531 n507
                 replace K504 := K504.overE hk531 rfl
                 replace Z9 := Z9.putE hk531
                 replace LY := LY.kp hk532
                 replace Fy1 := Fy1.kp hk532
                 replace X := X.kp hk532
                 replace BW := Below.putE BW hk531 g508
                 replace BWX := BWX.putE hk531 gx509
                 clear hk531 hk532
                 go_wp2_with (first | (refine wpList_ldE (by rfl) (by rfl) (by rfl) hat (by rfl) ?_))
                 clear c511 c512 c513 c514 c515 c516 c517 c518 c519 c520 c521 c522 c523 c524 c525 c526 c527 c528
                 rw [← e530]
                 clear e530
                 go_meet
                 exact ⟨e, z, HQZ.out, HM.out, X, K504, LY, K9, Z9, Fy1, K5, BW, BWX⟩
             case rest =>
               obtain ⟨e, z, hqz, hzm, X, K11, LY, K9, Z9, Fy1, K5, BW, BWX⟩ := hcut
               have HQZ := Lib.hid hqz
               have HM := Lib.hid hzm
               clear hqz hzm
               skip
               obtain ⟨c901, c902, c903, c904, c905, c906, c907, c908, c909⟩ := K11.c9
               go_wp2_with fail
               clear c901 c902 c903 c904 c905 c906 c907 c908 c909
               refine (b_OneE X HM.out).mono ?_
               rintro _ w910 ⟨m1, e1, rfl, h1, hb⟩
               replace K9 := K9.on hb
               replace K5 := K5.on hb
               replace K11 := K11.on hb
               replace Z9 := Z9.on hb
               replace LY := LY.kp (Kept.of hb)
               replace Fy1 := Fy1.kp (Kept.of hb)
               replace X := X.kp (Kept.of hb)
               replace BW := BW.trans (hb.mono BW.size)
               replace BWX := BWX.trans (hb.mono BWX.size)
               clear hb
               clear X K11
               rcases h1 with ⟨rfl, -, M1⟩ | ⟨rfl, -⟩
               · obtain ⟨V911, e912, hb913, K914, Z915, -⟩ := alloc_new w910 [.bool m1.A.n, .slice m1.A.A m1.A.xs.length m1.A.c, .bool m1.A.m, .slice m1.A.B m1.A.ds.length m1.A.d, .bool m1.B.n, .slice m1.B.A m1.B.xs.length m1.B.c, .bool m1.B.m, .slice m1.B.B m1.B.ds.length m1.B.d, .bool m1.C.n, .slice m1.C.A m1.C.xs.length m1.C.c, .bool m1.C.m, .slice m1.C.B m1.C.ds.length m1.C.d, .bool m1.D.n, .slice m1.D.A m1.D.xs.length m1.D.c, .bool m1.D.m, .slice m1.D.B m1.D.ds.length m1.D.d] 31
                 replace K914 : Box V911 (w910.heap.size) (mcs m1) := K914
                 have n916 : b45 ≠ w910.heap.size := Nat.ne_of_lt (K9.lt)
                 have n917 : w.heap.size ≠ w910.heap.size := Nat.ne_of_lt (K5.lt)
                 have g918 : w.heap.size ≤ w910.heap.size := BW.size
                 have gx919 := BWX.lew
                 replace K9 := K9.on hb913
                 replace K5 := K5.on hb913
                 replace Z9 := Z9.on hb913
                 replace LY := LY.kp (Kept.of hb913)
                 replace Fy1 := Fy1.kp (Kept.of hb913)
                 replace M1 := M1.kp (Kept.of hb913)
                 replace BW := BW.trans (hb913.mono BW.size)
                 replace BWX := BWX.trans (hb913.mono BWX.size)
                 clear hb913
                 go_upto_region 17 with (first | (refine wpList_stNew (by rfl) (by rfl) (by rfl) (by rfl) (by rfl) (by rfl) (by rfl) ?_))
                 (try simp only [p0, p1, p2, p3])
                 rw [← e912]
                 clear e912
                 generalize w910.heap.size = b920 at *
                 go_upto_region 19 with fail
                 obtain ⟨c921, c922, c923, c924, c925, c926, c927, c928⟩ := K9.c8
                 have c929 : Box V911 (b920) [.bool m1.A.n, .slice m1.A.A m1.A.xs.length m1.A.c, .bool m1.A.m, .slice m1.A.B m1.A.ds.length m1.A.d, .bool m1.B.n, .slice m1.B.A m1.B.xs.length m1.B.c, .bool m1.B.m, .slice m1.B.B m1.B.ds.length m1.B.d, .bool m1.C.n, .slice m1.C.A m1.C.xs.length m1.C.c, .bool m1.C.m, .slice m1.C.B m1.C.ds.length m1.C.d, .bool m1.D.n, .slice m1.D.A m1.D.xs.length m1.D.c, .bool m1.D.m, .slice m1.D.B m1.D.ds.length m1.D.d] := K914
                 go_wp2_with (first | (refine wpList_ldM (by rfl) (by rfl) (by rfl) c929 (by rfl) ?_))
                 clear c921 c922 c923 c924 c925 c926 c927 c928 c929
                 refine (y_Thr M1 LY z.det).mono ?_
                 rintro _ w930 ⟨f2, e2, rfl, h2, hb⟩
                 replace K9 := K9.on hb
                 replace K5 := K5.on hb
                 replace K914 := K914.on hb
                 replace Z9 := Z9.on hb
                 replace Z915 := Z915.on hb
                 replace LY := LY.kp (Kept.of hb)
                 replace Fy1 := Fy1.kp (Kept.of hb)
                 replace M1 := M1.kp (Kept.of hb)
                 replace BW := BW.trans (hb.mono BW.size)
                 replace BWX := BWX.trans (hb.mono BWX.size)
                 clear hb
                 have hf := (HRX.out k xk HLT.out HXK.out).fits'
                 rw [rayAt_succ HQZ.out] at hf
                 obtain ⟨rfl, Ln⟩ := h2.yes hf
                 replace Ln := fy_to Ln (rayAt_succ HQZ.out).symm
                 clear hf h2 M1 LY
                 have hA : AtC w930 gx (k * 8) (ycs xk) := (rowY_at HKX.out HXK.out).on BWX.b
                 have LX := (HRX.out k xk HLT.out HXK.out).kp (Kept.of BWX.b)
                 clear hA
                 obtain ⟨V931, e932, hb933, K934, Z935, -⟩ := alloc_new w930 [.bool f2.Y.n, .slice f2.Y.A f2.Y.xs.length f2.Y.c, .bool f2.Y.m, .slice f2.Y.B f2.Y.ds.length f2.Y.d, .bool f2.U.n, .slice f2.U.A f2.U.xs.length f2.U.c, .bool f2.U.m, .slice f2.U.B f2.U.ds.length f2.U.d] 40
                 replace K934 : Box V931 (w930.heap.size) (ycs f2) := K934
                 have n936 : b45 ≠ w930.heap.size := Nat.ne_of_lt (K9.lt)
                 have n937 : w.heap.size ≠ w930.heap.size := Nat.ne_of_lt (K5.lt)
                 have g938 : w.heap.size ≤ w930.heap.size := BW.size
                 have gx939 := BWX.lew
                 replace K9 := K9.on hb933
                 replace K5 := K5.on hb933
                 replace Z9 := Z9.on hb933
                 replace Fy1 := Fy1.kp (Kept.of hb933)
                 replace Ln := Ln.kp (Kept.of hb933)
                 replace LX := LX.kp (Kept.of hb933)
                 replace BW := BW.trans (hb933.mono BW.size)
                 replace BWX := BWX.trans (hb933.mono BWX.size)
                 clear hb933
                 go_wp2_with fail
                 rw [← e932]
                 clear e932
                 generalize w930.heap.size = b940 at *
                 have hA : AtC V931 gx (0 + k * 8) (ycs xk) := (Nat.zero_add (k * 8)).symm ▸ (rowY_at HKX.out HXK.out).on BWX.b
                 refine wp_region_noPanic ?_
                 have hb : Below V931.heap.size V931 V931.drew := (Below.refl _ _).drew
                 replace K9 := K9.on hb
                 replace K5 := K5.on hb
                 replace K934 := K934.on hb
                 replace hA := hA.on hb
                 replace Z9 := Z9.on hb
                 replace Fy1 := Fy1.kp (Kept.of hb)
                 replace Ln := Ln.kp (Kept.of hb)
                 replace LX := LX.kp (Kept.of hb)
                 replace BW := BW.trans (hb.mono BW.size)
                 replace BWX := BWX.trans (hb.mono BWX.size)
                 clear hb
                 refine wp_region_held_drew (S := (fun wx => Cs wx (b940) 0 [.bool f2.Y.n, .slice f2.Y.A f2.Y.xs.length f2.Y.c, .bool f2.Y.m, .slice f2.Y.B f2.Y.ds.length f2.Y.d, .bool f2.U.n, .slice f2.U.A f2.U.xs.length f2.U.c, .bool f2.U.m, .slice f2.U.B f2.U.ds.length f2.U.d] ∧ (AtC wx gx (0 + k * 8) [.bool xk.Y.n, .slice xk.Y.A xk.Y.xs.length xk.Y.c, .bool xk.Y.m, .slice xk.Y.B xk.Y.ds.length xk.Y.d, .bool xk.U.n, .slice xk.U.A xk.U.xs.length xk.U.c, .bool xk.U.m, .slice xk.U.B xk.U.ds.length xk.U.d]))) (by kernel_rfl) (by exact ⟨K934.cs, hA⟩) (fun hHeld => ?_)
                 generalize V931.drew = Vd941 at *
                 refine pT 0 ?_
                 (try simp only [p0, p1, p2, p3])
                 refine pT 1 ?_
                 (try simp only [p0, p1, p2, p3])
                 refine pT 2 ?_
                 (try simp only [p0, p1, p2, p3])
                 refine pT 3 ?_
                 (try simp only [p0, p1, p2, p3])
                 refine pT 4 ?_
                 (try simp only [p0, p1, p2, p3])
                 refine pT 5 ?_
                 (try simp only [p0, p1, p2, p3])
                 refine pT 6 ?_ (hy := fun wt hSw => ixY rfl rfl rfl HLT.out)
                 (try simp only [p0, p1, p2, p3])
                 refine pT 7 ?_ (hy := fun wt hSw => ldYC rfl rfl hSw.2 rfl)
                 (try simp only [p0, p1, p2, p3])
                 refine pR1 8 (fun K hK => ?_)
                 go_simp
                 (go_at_call 26; with_reducible refine (y_sameY Ln LX).mono ?_)
                 rintro _ w942 ⟨rfl, hb⟩
                 (try go_wp2_with fail)
                 replace K9 := K9.on hb
                 replace K5 := K5.on hb
                 replace K934 := K934.on hb
                 replace hA := hA.on hb
                 replace Z9 := Z9.on hb
                 replace Fy1 := Fy1.kp (Kept.of hb)
                 replace Ln := Ln.kp (Kept.of hb)
                 replace LX := LX.kp (Kept.of hb)
                 replace BW := BW.trans (hb.mono BW.size)
                 replace BWX := BWX.trans (hb.mono BWX.size)
                 clear hb
                 clear hHeld
                 refine hK.out _ _ (by exact ⟨K934.cs, hA⟩) (fun hHeld => ?_)
                 clear hK
                 (try simp only [p0, p1, p2, p3])
                 refine pT 9 ?_
                 (try simp only [p0, p1, p2, p3])
                 refine pT 10 ?_
                 (try simp only [p0, p1, p2, p3])
                 refine wpAnyH_done (by kernel_rfl) (NoPanic.normal ?_) _
                 clear hA
                 clear LX
                 obtain ⟨c943, c944, c945, c946, c947, c948, c949, c950⟩ := K9.c8
                 obtain ⟨c951, c952, c953, c954, c955, c956, c957, c958⟩ := Z9.f8
                 obtain ⟨c959, c960, c961, c962, c963, c964, c965, c966⟩ := K934.c8
                 obtain ⟨V967, hk969⟩ : ∃ V967, V967 = w942.setCells (b45) 0 [.bool f2.Y.n, .slice f2.Y.A f2.Y.xs.length f2.Y.c, .bool f2.Y.m, .slice f2.Y.B f2.Y.ds.length f2.Y.d, .bool f2.U.n, .slice f2.U.A f2.U.xs.length f2.U.c, .bool f2.U.m, .slice f2.U.B f2.U.ds.length f2.U.d] := ⟨_, rfl⟩
                 have e968 := hk969
                 simp only [World.setCells, Nat.zero_add, Nat.reduceAdd] at e968
                 have hk970 := Kept.overE hk969 K9 rfl (Nat.le_of_ble_eq_true rfl)
                 replace K9 := K9.overE hk969 rfl
                 replace K5 := K5.awayE hk969 N59.out
                 replace Z9 := Z9.putE hk969
                 replace Fy1 := Fy1.kp hk970
                 replace Ln := Ln.kp hk970
                 replace BW := Below.putE BW hk969 GW9.out
                 replace BWX := BWX.putE hk969 GX9
                 clear hk969 hk970
                 replace K9 : Box V967 (b45) (ycs f2) := K9
                 go_wp2_with fail
                 clear c943 c944 c945 c946 c947 c948 c949 c950 c951 c952 c953 c954 c955 c956 c957 c958 c959 c960 c961 c962 c963 c964 c965 c966
                 rw [← e968]
                 clear e968
                 go_roundw
                 case rel => exact ⟨k + 1, f2, by go_num, by omega, Ln, K9, Z9, Fy1, K5, BW, BWX⟩
                 case measure => simp [intOf]; omega
               · obtain ⟨V911, e912, hb913, K914, Z915, -⟩ := alloc_new w910 [.bool m1.A.n, .slice m1.A.A m1.A.xs.length m1.A.c, .bool m1.A.m, .slice m1.A.B m1.A.ds.length m1.A.d, .bool m1.B.n, .slice m1.B.A m1.B.xs.length m1.B.c, .bool m1.B.m, .slice m1.B.B m1.B.ds.length m1.B.d, .bool m1.C.n, .slice m1.C.A m1.C.xs.length m1.C.c, .bool m1.C.m, .slice m1.C.B m1.C.ds.length m1.C.d, .bool m1.D.n, .slice m1.D.A m1.D.xs.length m1.D.c, .bool m1.D.m, .slice m1.D.B m1.D.ds.length m1.D.d] 31
                 replace K914 : Box V911 (w910.heap.size) (mcs m1) := K914
                 have g916 : w.heap.size ≤ w910.heap.size := BW.size
                 replace BW := BW.trans (hb913.mono BW.size)
                 clear hb913
                 go_wp2_with (first | (refine wpList_stNew (by rfl) (by rfl) (by rfl) (by rfl) (by rfl) (by rfl) (by rfl) ?_))
                 (try simp only [p0, p1, p2, p3])
                 rw [← e912]
                 clear e912
                 generalize w910.heap.size = b917 at *
                 exact bodyPost_ret (v := .bool true) (by simp [results, Tryz.results5, go_sem]) rfl ⟨rfl, BW⟩
           · obtain rfl : k = gs.length := by omega
             clear LY
             go_upto_region 23 with fail
             go_upto_if 113 with fail
             go_cut [] (fun wx => ∃ (yn : Yv), Fy wx (rayAt qs r es.length) yn ∧ Box wx (b45) (ycs yn) ∧ Fy wx r y ∧ Box wx (w.heap.size) (ycs y) ∧ Below w.heap.size w wx ∧ Bel w29 wx)
             case first =>
               by_cases hle : 0 < es.length
               · have h3 : (0 : Int) < (es.length : Int) := by omega
                 obtain ⟨j, hj⟩ : ∃ j : Nat, es.length = j + 1 := ⟨es.length - 1, by omega⟩
                 have hjk : (es.length : Int) - 1 = (j : Int) := by omega
                 have hjg : j < gs.length := by have h1 := HGS.out; have h4 := congrArg List.length h1; rw [List.length_append] at h4; omega
                 have h4 : (j : Int) < (gs.length : Int) := by omega
                 obtain ⟨xj, hxj⟩ : ∃ xj, xs[j]? = some xj := ⟨_, List.getElem?_eq_getElem (by rw [HXL.out]; exact hjg)⟩
                 have hat : AtB wr gx (j * 8) [.bool xj.Y.n, .slice xj.Y.A xj.Y.xs.length xj.Y.c, .bool xj.Y.m, .slice xj.Y.B xj.Y.ds.length xj.Y.d, .bool xj.U.n, .slice xj.U.A xj.U.xs.length xj.U.c, .bool xj.U.m, .slice xj.U.B xj.U.ds.length xj.U.d] := ((rowY_at HKX.out hxj).on BWX.b).2
                 have LJ := (HRX.out j xj hjg hxj).kp (Kept.of BWX.b)
                 rw [← hj] at LJ
                 have HJ := Lib.hid hj
                 clear hj hxj hjg
                 go_upto_region 24 with fail
                 obtain ⟨c1501, c1502, c1503, c1504, c1505, c1506, c1507, c1508⟩ := K9.c8
                 obtain ⟨c1509, c1510, c1511, c1512, c1513, c1514, c1515, c1516⟩ := Z9.f8
                 obtain ⟨V1517, hk1519⟩ : ∃ V1517, V1517 = wr.setCells (b45) 0 [.bool xj.Y.n, .slice xj.Y.A xj.Y.xs.length xj.Y.c, .bool xj.Y.m, .slice xj.Y.B xj.Y.ds.length xj.Y.d, .bool xj.U.n, .slice xj.U.A xj.U.xs.length xj.U.c, .bool xj.U.m, .slice xj.U.B xj.U.ds.length xj.U.d] := ⟨_, rfl⟩
                 have e1518 := hk1519
                 simp only [World.setCells, Nat.zero_add, Nat.reduceAdd] at e1518
                 have hk1520 := Kept.overE hk1519 K9 rfl (Nat.le_of_ble_eq_true rfl)
                 replace K9 := K9.overE hk1519 rfl
                 replace K5 := K5.awayE hk1519 N59.out
                 replace Z9 := Z9.putE hk1519
                 replace Fy1 := Fy1.kp hk1520
                 replace LJ := LJ.kp hk1520
                 replace BW := Below.putE BW hk1519 GW9.out
                 replace BWX := BWX.putE hk1519 GX9
                 clear hk1519 hk1520
                 replace K9 : Box V1517 (b45) (ycs xj) := K9
                 go_wp2_with (first | (refine wpList_ldY (by rfl) (by rfl) (by rfl) hat (by rfl) ?_))
                 clear c1501 c1502 c1503 c1504 c1505 c1506 c1507 c1508 c1509 c1510 c1511 c1512 c1513 c1514 c1515 c1516
                 rw [← e1518]
                 clear e1518
                 go_meet
                 exact ⟨xj, LJ, K9, Fy1, K5, BW, BWX⟩
               · have h0 : es.length = 0 := by omega
                 have hz : (es.length : Int) = 0 := by omega
                 go_upto_region 25 with fail
                 obtain ⟨c1501, c1502, c1503, c1504, c1505, c1506, c1507, c1508⟩ := K9.c8
                 obtain ⟨c1509, c1510, c1511, c1512, c1513, c1514, c1515, c1516⟩ := Z9.f8
                 obtain ⟨c1517, c1518, c1519, c1520, c1521, c1522, c1523, c1524⟩ := K5.c8
                 obtain ⟨V1525, hk1527⟩ : ∃ V1525, V1525 = wr.setCells (b45) 0 [.bool y.Y.n, .slice y.Y.A y.Y.xs.length y.Y.c, .bool y.Y.m, .slice y.Y.B y.Y.ds.length y.Y.d, .bool y.U.n, .slice y.U.A y.U.xs.length y.U.c, .bool y.U.m, .slice y.U.B y.U.ds.length y.U.d] := ⟨_, rfl⟩
                 have e1526 := hk1527
                 simp only [World.setCells, Nat.zero_add, Nat.reduceAdd] at e1526
                 have hk1528 := Kept.overE hk1527 K9 rfl (Nat.le_of_ble_eq_true rfl)
                 replace K9 := K9.overE hk1527 rfl
                 replace K5 := K5.awayE hk1527 N59.out
                 replace Fy1 := Fy1.kp hk1528
                 replace BW := Below.putE BW hk1527 GW9.out
                 replace BWX := BWX.putE hk1527 GX9
                 clear hk1527 hk1528
                 replace K9 : Box V1525 (b45) (ycs y) := K9
                 go_wp2_with fail
                 clear c1501 c1502 c1503 c1504 c1505 c1506 c1507 c1508 c1509 c1510 c1511 c1512 c1513 c1514 c1515 c1516 c1517 c1518 c1519 c1520 c1521 c1522 c1523 c1524
                 rw [← e1526]
                 clear e1526
                 go_meet
                 exact ⟨y, (by rw [h0, rayAt_zero]; exact Fy1), K9, Fy1, K5, BW, BWX⟩
             case rest =>
               obtain ⟨yn, LN, K9, Fy1, K5, BW, BWX⟩ := hcut
               obtain ⟨c1901, c1902, c1903, c1904, c1905, c1906, c1907, c1908⟩ := K9.c8
               go_wp2_with fail
               clear c1901 c1902 c1903 c1904 c1905 c1906 c1907 c1908
               refine (b_Trace (HT.out.on BW) (HF2.out.kp (Kept.of BW)) (by have := HL.out; omega) LN).mono ?_
               rintro _ w1909 ⟨v2, e3, rfl, hT2, hb⟩
               replace K9 := K9.on hb
               replace K5 := K5.on hb
               replace LN := LN.kp (Kept.of hb)
               replace Fy1 := Fy1.kp (Kept.of hb)
               replace BW := BW.trans (hb.mono BW.size)
               replace BWX := BWX.trans (hb.mono BWX.size)
               clear hb
               have hel : es.length + ds.length = gs.length := by rw [← HGS.out, List.length_append]
               have hrq : ∀ i, rayAt ys (rayAt qs r es.length) i = rayAt qs r (es.length + i) := fun i => by rw [HQS.out, ← HF1.out.1, rayAt_app, rayAt_left]
               rcases hT2 with ⟨rfl, gv, vs, rfl, hvl, hRv, hKv⟩ | ⟨rfl, rfl, i, hi, hni⟩
               · have HEL := Lib.hid hel
                 have HRQ := Lib.hid hrq
                 have HVL := Lib.hid hvl
                 have HRV := Lib.hid hRv
                 have HKV := Lib.hid hKv
                 clear hel hrq hvl hRv hKv LN K9
                 have BWV : Bel w1909 w1909 := Below.refl _ _
                 have hb1 : (es.length : Int) ≤ (gs.length : Int) := by have := HEL.out; omega
                 go_upto_region 27 with fail
                 go_cut [137] (fun sv wx => sv = .bool false ∧ Fy wx r y ∧ Box wx (w.heap.size) (ycs y) ∧ Below w.heap.size w wx ∧ Bel w29 wx)
                 case first =>
                   by_cases hde : gs.length = es.length
                   · generalize gs.length = NN at *
                     generalize es.length = MM at *
                     subst hde
                     go_wp2_with fail
                     refine (b_samer0 (by have := HEL.out; omega)).mono ?_
                     rintro _ w1910 ⟨rfl, hb⟩
                     replace K5 := K5.on hb
                     replace Fy1 := Fy1.kp (Kept.of hb)
                     replace BW := BW.trans (hb.mono BW.size)
                     replace BWX := BWX.trans (hb.mono BWX.size)
                     replace BWV := BWV.trans (hb.mono BWV.size)
                     clear hb
                     go_wp2
                     go_meet
                     exact ⟨rfl, Fy1, K5, BW, BWX⟩
                   · go_wp2_with fail
                     refine (b_samer27 (by have := HEL.out; omega) (H27 HKV.out HVL.out HRV.out BWV.b HKX.out HXL.out HRX.out BWX.b HEL.out HRQ.out) (by omega)).mono ?_
                     rintro _ w1910 ⟨rfl, hb⟩
                     replace K5 := K5.on hb
                     replace Fy1 := Fy1.kp (Kept.of hb)
                     replace BW := BW.trans (hb.mono BW.size)
                     replace BWX := BWX.trans (hb.mono BWX.size)
                     replace BWV := BWV.trans (hb.mono BWV.size)
                     clear hb
                     go_wp2
                     go_meet
                     exact ⟨rfl, Fy1, K5, BW, BWX⟩
                 case rest =>
                   obtain ⟨rfl, Fy1, K5, BW, BWX⟩ := hcut
                   go_wp2_with fail
                   refine (b_joinL (HS.out.on BW) (HT.out.on BW) HL.out).mono ?_
                   rintro _ w2401 ⟨g4, a4, c4, hg4, rfl, S4, hb⟩
                   replace K5 := K5.on hb
                   replace Fy1 := Fy1.kp (Kept.of hb)
                   replace BW := BW.trans (hb.mono BW.size)
                   replace BWX := BWX.trans (hb.mono BWX.size)
                   clear hb
                   obtain rfl : gs = g4 := (hg4.out.trans HGS.out).symm
                   have F4 := (HF1.out.app HF2.out).kp (Kept.of BW)
                   rw [HGS.out, ← HQS.out] at F4
                   go_wp2_with fail
                   refine (b_Matrix S4 F4 HGL.out).mono ?_
                   rintro _ w2402 ⟨m4, e4, rfl, h4, hb⟩
                   replace K5 := K5.on hb
                   replace Fy1 := Fy1.kp (Kept.of hb)
                   replace BW := BW.trans (hb.mono BW.size)
                   replace BWX := BWX.trans (hb.mono BWX.size)
                   clear hb
                   clear S4 F4
                   rcases h4 with ⟨rfl, -, M4⟩ | ⟨rfl, -⟩
                   · by_cases hgz : 0 < gs.length
                     · have hz1 : ((gs.length : Int) == 0) = false := beq_eq_false_iff_ne.2 (by omega)
                       obtain ⟨j, hj⟩ : ∃ j : Nat, gs.length = j + 1 := ⟨gs.length - 1, by omega⟩
                       have HJ := Lib.hid hj
                       obtain ⟨xj, hxj⟩ : ∃ xj, xs[j]? = some xj := ⟨_, List.getElem?_eq_getElem (by rw [HXL.out]; omega)⟩
                       have HXJ := Lib.hid hxj
                       have hfj := (HRX.out j xj (by omega) hxj).fits'
                       have HFJ := Lib.hid hfj
                       clear hj hxj hfj
                       obtain ⟨V2403, e2404, hb2405, K2406, Z2407, -⟩ := alloc_new w2402 [.bool m4.A.n, .slice m4.A.A m4.A.xs.length m4.A.c, .bool m4.A.m, .slice m4.A.B m4.A.ds.length m4.A.d, .bool m4.B.n, .slice m4.B.A m4.B.xs.length m4.B.c, .bool m4.B.m, .slice m4.B.B m4.B.ds.length m4.B.d, .bool m4.C.n, .slice m4.C.A m4.C.xs.length m4.C.c, .bool m4.C.m, .slice m4.C.B m4.C.ds.length m4.C.d, .bool m4.D.n, .slice m4.D.A m4.D.xs.length m4.D.c, .bool m4.D.m, .slice m4.D.B m4.D.ds.length m4.D.d] 31
                       replace K2406 : Box V2403 (w2402.heap.size) (mcs m4) := K2406
                       have n2408 : w.heap.size ≠ w2402.heap.size := Nat.ne_of_lt (K5.lt)
                       have g2409 : w.heap.size ≤ w2402.heap.size := BW.size
                       replace K5 := K5.on hb2405
                       replace Fy1 := Fy1.kp (Kept.of hb2405)
                       replace M4 := M4.kp (Kept.of hb2405)
                       replace BW := BW.trans (hb2405.mono BW.size)
                       replace BWX := BWX.trans (hb2405.mono BWX.size)
                       clear hb2405
                       go_upto_region 30 with (first | (refine wpList_stNew (by rfl) (by rfl) (by rfl) (by rfl) (by rfl) (by rfl) (by rfl) ?_))
                       (try simp only [p0, p1, p2, p3])
                       rw [← e2404]
                       clear e2404
                       generalize w2402.heap.size = b2410 at *
                       go_upto_region 32 with fail
                       obtain ⟨c2411, c2412, c2413, c2414, c2415, c2416, c2417, c2418⟩ := K5.c8
                       have c2419 : Box V2403 (b2410) [.bool m4.A.n, .slice m4.A.A m4.A.xs.length m4.A.c, .bool m4.A.m, .slice m4.A.B m4.A.ds.length m4.A.d, .bool m4.B.n, .slice m4.B.A m4.B.xs.length m4.B.c, .bool m4.B.m, .slice m4.B.B m4.B.ds.length m4.B.d, .bool m4.C.n, .slice m4.C.A m4.C.xs.length m4.C.c, .bool m4.C.m, .slice m4.C.B m4.C.ds.length m4.C.d, .bool m4.D.n, .slice m4.D.A m4.D.xs.length m4.D.c, .bool m4.D.m, .slice m4.D.B m4.D.ds.length m4.D.d] := K2406
                       go_wp2_with (first | (refine wpList_ldM (by rfl) (by rfl) (by rfl) c2419 (by rfl) ?_))
                       clear c2411 c2412 c2413 c2414 c2415 c2416 c2417 c2418 c2419
                       refine (y_Thr M4 Fy1 (benchM_det _)).mono ?_
                       rintro _ w2420 ⟨f5, e5, rfl, h5, hb⟩
                       replace K5 := K5.on hb
                       replace K2406 := K2406.on hb
                       replace Z2407 := Z2407.on hb
                       replace Fy1 := Fy1.kp (Kept.of hb)
                       replace M4 := M4.kp (Kept.of hb)
                       replace BW := BW.trans (hb.mono BW.size)
                       replace BWX := BWX.trans (hb.mono BWX.size)
                       clear hb
                       have hql : qs.length = j + 1 := by rw [HQS.out, List.length_append, HF1.out.1, HF2.out.1, HEL.out]; exact HJ.out
                       have hra : rayAt qs r (j + 1) = (benchM qs).thr r := by rw [← hql]; exact rayAt_all
                       obtain ⟨rfl, L5⟩ := h5.yes (hra ▸ HFJ.out)
                       replace L5 := fy_to L5 hra.symm
                       clear hql hra h5 M4 Fy1
                       clear K5
                       have LX := (HRX.out j xj (by have := HJ.out; omega) HXJ.out).kp (Kept.of BWX.b)
                       obtain ⟨V2421, e2422, hb2423, K2424, Z2425, -⟩ := alloc_new w2420 [.bool f5.Y.n, .slice f5.Y.A f5.Y.xs.length f5.Y.c, .bool f5.Y.m, .slice f5.Y.B f5.Y.ds.length f5.Y.d, .bool f5.U.n, .slice f5.U.A f5.U.xs.length f5.U.c, .bool f5.U.m, .slice f5.U.B f5.U.ds.length f5.U.d] 40
                       replace K2424 : Box V2421 (w2420.heap.size) (ycs f5) := K2424
                       have g2426 : w.heap.size ≤ w2420.heap.size := BW.size
                       replace L5 := L5.kp (Kept.of hb2423)
                       replace LX := LX.kp (Kept.of hb2423)
                       replace BW := BW.trans (hb2423.mono BW.size)
                       replace BWX := BWX.trans (hb2423.mono BWX.size)
                       clear hb2423
                       go_wp2_with fail
                       rw [← e2422]
                       clear e2422
                       generalize w2420.heap.size = b2427 at *
                       have hA : AtC V2421 gx (0 + j * 8) (ycs xj) := (Nat.zero_add (j * 8)).symm ▸ (rowY_at HKX.out HXJ.out).on BWX.b
                       have hs1 : IntKind.i64.wrap ((gs.length : Int) - 1) = (j : Int) := by rw [wrap_small (by have := HGL.out; omega) (by have := HGL.out; omega)]; have := HJ.out; omega
                       have HS1 := Lib.hid hs1
                       have HJG := Lib.hid (show j < gs.length from by have := HJ.out; omega)
                       clear hs1
                       refine wp_region_noPanic ?_
                       have hb : Below V2421.heap.size V2421 V2421.drew := (Below.refl _ _).drew
                       replace K2424 := K2424.on hb
                       replace hA := hA.on hb
                       replace L5 := L5.kp (Kept.of hb)
                       replace LX := LX.kp (Kept.of hb)
                       replace BW := BW.trans (hb.mono BW.size)
                       replace BWX := BWX.trans (hb.mono BWX.size)
                       clear hb
                       refine wp_region_held_drew (S := (fun wx => Cs wx (b2427) 0 [.bool f5.Y.n, .slice f5.Y.A f5.Y.xs.length f5.Y.c, .bool f5.Y.m, .slice f5.Y.B f5.Y.ds.length f5.Y.d, .bool f5.U.n, .slice f5.U.A f5.U.xs.length f5.U.c, .bool f5.U.m, .slice f5.U.B f5.U.ds.length f5.U.d] ∧ (AtC wx gx (0 + j * 8) [.bool xj.Y.n, .slice xj.Y.A xj.Y.xs.length xj.Y.c, .bool xj.Y.m, .slice xj.Y.B xj.Y.ds.length xj.Y.d, .bool xj.U.n, .slice xj.U.A xj.U.xs.length xj.U.c, .bool xj.U.m, .slice xj.U.B xj.U.ds.length xj.U.d]))) (by kernel_rfl) (by exact ⟨K2424.cs, hA⟩) (fun hHeld => ?_)
                       generalize V2421.drew = Vd2428 at *
                       refine pT 0 ?_
                       (try simp only [p0, p1, p2, p3])
                       refine pT 1 ?_
                       (try simp only [p0, p1, p2, p3])
                       refine pT 2 ?_
                       (try simp only [p0, p1, p2, p3])
                       refine pT 3 ?_
                       (try simp only [p0, p1, p2, p3])
                       refine pT 4 ?_
                       (try simp only [p0, p1, p2, p3])
                       refine pT 5 ?_
                       (try simp only [p0, p1, p2, p3])
                       refine pT 6 ?_
                       (try simp only [p0, p1, p2, p3])
                       refine pT 7 ?_ (hy := fun wt hSw => subH rfl rfl rfl HS1.out)
                       (try simp only [p0, p1, p2, p3])
                       refine pT 8 ?_ (hy := fun wt hSw => ixY rfl rfl rfl HJG.out)
                       (try simp only [p0, p1, p2, p3])
                       refine pT 9 ?_ (hy := fun wt hSw => ldYC rfl rfl hSw.2 rfl)
                       (try simp only [p0, p1, p2, p3])
                       refine pR1 10 (fun K hK => ?_)
                       go_simp
                       (go_at_call 26; with_reducible refine (y_sameY L5 LX).mono ?_)
                       rintro _ w2429 ⟨rfl, hb⟩
                       (try go_wp2_with fail)
                       replace K2424 := K2424.on hb
                       replace hA := hA.on hb
                       replace BW := BW.trans (hb.mono BW.size)
                       replace BWX := BWX.trans (hb.mono BWX.size)
                       clear hb
                       clear hHeld
                       refine hK.out _ _ (by exact ⟨K2424.cs, hA⟩) (fun hHeld => ?_)
                       clear hK
                       (try simp only [p0, p1, p2, p3])
                       refine pT 11 ?_
                       (try simp only [p0, p1, p2, p3])
                       refine pT 12 ?_
                       (try simp only [p0, p1, p2, p3])
                       refine wpAnyH_done (by kernel_rfl) (NoPanic.normal ?_) _
                       go_wp2
                       exact bodyPost_ret (v := .bool true) (by simp [results, Tryz.results5, go_sem]) rfl ⟨rfl, BW⟩
                     · have hz0 : (gs.length : Int) = 0 := by omega
                       obtain ⟨V2403, e2404, hb2405, K2406, Z2407, -⟩ := alloc_new w2402 [.bool m4.A.n, .slice m4.A.A m4.A.xs.length m4.A.c, .bool m4.A.m, .slice m4.A.B m4.A.ds.length m4.A.d, .bool m4.B.n, .slice m4.B.A m4.B.xs.length m4.B.c, .bool m4.B.m, .slice m4.B.B m4.B.ds.length m4.B.d, .bool m4.C.n, .slice m4.C.A m4.C.xs.length m4.C.c, .bool m4.C.m, .slice m4.C.B m4.C.ds.length m4.C.d, .bool m4.D.n, .slice m4.D.A m4.D.xs.length m4.D.c, .bool m4.D.m, .slice m4.D.B m4.D.ds.length m4.D.d] 31
                       replace K2406 : Box V2403 (w2402.heap.size) (mcs m4) := K2406
                       have g2408 : w.heap.size ≤ w2402.heap.size := BW.size
                       replace BW := BW.trans (hb2405.mono BW.size)
                       clear hb2405
                       go_wp2_with (first | (refine wpList_stNew (by rfl) (by rfl) (by rfl) (by rfl) (by rfl) (by rfl) (by rfl) ?_))
                       (try simp only [p0, p1, p2, p3])
                       rw [← e2404]
                       clear e2404
                       generalize w2402.heap.size = b2409 at *
                       exact bodyPost_ret (v := .bool true) (by simp [results, Tryz.results5, go_sem]) rfl ⟨rfl, BW⟩
                   · obtain ⟨V2403, e2404, hb2405, K2406, Z2407, -⟩ := alloc_new w2402 [.bool m4.A.n, .slice m4.A.A m4.A.xs.length m4.A.c, .bool m4.A.m, .slice m4.A.B m4.A.ds.length m4.A.d, .bool m4.B.n, .slice m4.B.A m4.B.xs.length m4.B.c, .bool m4.B.m, .slice m4.B.B m4.B.ds.length m4.B.d, .bool m4.C.n, .slice m4.C.A m4.C.xs.length m4.C.c, .bool m4.C.m, .slice m4.C.B m4.C.ds.length m4.C.d, .bool m4.D.n, .slice m4.D.A m4.D.xs.length m4.D.c, .bool m4.D.m, .slice m4.D.B m4.D.ds.length m4.D.d] 31
                     replace K2406 : Box V2403 (w2402.heap.size) (mcs m4) := K2406
                     have g2408 : w.heap.size ≤ w2402.heap.size := BW.size
                     replace BW := BW.trans (hb2405.mono BW.size)
                     clear hb2405
                     go_wp2_with (first | (refine wpList_stNew (by rfl) (by rfl) (by rfl) (by rfl) (by rfl) (by rfl) (by rfl) ?_))
                     (try simp only [p0, p1, p2, p3])
                     rw [← e2404]
                     clear e2404
                     generalize w2402.heap.size = b2409 at *
                     exact bodyPost_ret (v := .bool true) (by simp [results, Tryz.results5, go_sem]) rfl ⟨rfl, BW⟩
               · exfalso
                 obtain ⟨xi, hxi⟩ : ∃ xi, xs[es.length + i]? = some xi := ⟨_, List.getElem?_eq_getElem (by rw [HXL.out]; omega)⟩
                 have h9 := (HRX.out _ xi (by omega) hxi).fits'
                 rw [hrq] at hni
                 exact hni h9
       · go_wp2_with fail
         exact bodyPost_ret (v := .bool true) (by simp [results, Tryz.results5, go_sem]) rfl ⟨rfl, BW⟩
     · refine wp_region_noPanic ?_
       have hb : Below w26.heap.size w26 w26.drew := (Below.refl _ _).drew
       replace K4 := K4.on hb
       replace Y := Y.kp (Kept.of hb)
       replace BW := BW.trans (hb.mono BW.size)
       clear hb
       refine wp_region_held_drew (S := (fun wx => Cs wx (w.heap.size) 0 [.bool y.Y.n, .slice y.Y.A y.Y.xs.length y.Y.c, .bool y.Y.m, .slice y.Y.B y.Y.ds.length y.Y.d, .bool y.U.n, .slice y.U.A y.U.xs.length y.U.c, .bool y.U.m, .slice y.U.B y.U.ds.length y.U.d])) (by kernel_rfl) (by exact K4.cs) (fun hHeld => ?_)
       generalize w26.drew = Vd27 at *
       refine pT 0 ?_
       (try simp only [p0, p1, p2, p3])
       refine pT 1 ?_
       (try simp only [p0, p1, p2, p3])
       refine pT 3 ?_
       (try simp only [p0, p1, p2, p3])
       refine pR1 2 (fun K hK => ?_)
       go_simp
       (go_at_call 11; with_reducible refine (b_joinL (HS.out.on BW) (HT.out.on BW) HL.out).mono ?_)
       rintro _ w28 ⟨gs, a3, c3, hgs, rfl, S3, hb⟩
       (try go_wp2_with fail)
       replace K4 := K4.on hb
       replace Y := Y.kp (Kept.of hb)
       replace BW := BW.trans (hb.mono BW.size)
       clear hb
       have HGS := Lib.hid hgs.out.symm
       have hgl : gs.length ≤ 4096 := by rw [hgs.out, List.length_append]; exact HL.out
       have HGL := Lib.hid hgl
       clear hgs hgl
       obtain ⟨qs, hqs⟩ : ∃ qs, qs = zs ++ ys := ⟨_, rfl⟩
       have F3 := (HF1.out.app HF2.out).kp (Kept.of BW)
       rw [HGS.out, ← hqs] at F3
       have HQS := Lib.hid hqs
       clear hqs
       clear hHeld
       refine hK.out _ _ (by exact K4.cs) (fun hHeld => ?_)
       clear hK
       (try simp only [p0, p1, p2, p3])
       refine pR1 4 (fun K hK => ?_)
       go_simp
       (go_at_call 24; with_reducible refine (b_TraceNo S3 F3 HGL.out Y hy).mono ?_)
       rintro _ w29 ⟨rfl, hb⟩
       (try go_wp2_with fail)
       replace K4 := K4.on hb
       replace BW := BW.trans (hb.mono BW.size)
       clear hb
       clear hHeld
       refine hK.out _ _ (by exact K4.cs) (fun hHeld => ?_)
       clear hK
       (try simp only [p0, p1, p2, p3])
       refine pT 5 ?_
       (try simp only [p0, p1, p2, p3])
       refine pT 6 ?_
       (try simp only [p0, p1, p2, p3])
       refine pT 7 ?_
       (try simp only [p0, p1, p2, p3])
       refine pT 8 ?_
       (try simp only [p0, p1, p2, p3])
       refine pT 9 ?_
       (try simp only [p0, p1, p2, p3])
       refine wpAnyH_done (by kernel_rfl) (NoPanic.normal ?_) _
       go_wp2_with fail
       exact bodyPost_ret (v := .bool true) (by simp [results, Tryz.results5, go_sem]) rfl ⟨rfl, BW⟩
 · go_wp2_with fail
   refine (b_alive).mono ?_
   rintro _ w9 ⟨rfl, hb⟩
   replace BW := BW.trans (hb.mono BW.size)
   clear hb
   go_wp2_with fail
   exact bodyPost_ret (v := .bool true) (by simp [results, Tryz.results5, go_sem]) rfl ⟨rfl, BW⟩
end Go.Proofs.YtjamfkafgfpobaaGreat
