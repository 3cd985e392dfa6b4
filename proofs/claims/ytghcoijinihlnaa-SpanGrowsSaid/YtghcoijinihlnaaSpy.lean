/-
  What is done to spans that have two others has what is done to these (SpanGrows): the walk where all four may be. Condition: floats of 64 bits.
-/
import Derived.Test.YtghcoijinihlnaaSpw
import Derived.Test.YtghcoijinihlnaaRgn
import Derived.Outline
import Derived.Deep.RegionHeld3
import Derived.Deep.DeepCutAuto
import Derived.RegionTactic
namespace Go.Proofs.Ytghcoijinihlnaa.Fl
open Go.RowKit Ieee

set_option maxRecDepth 100000 in
set_option maxHeartbeats 40000000 in
theorem grows_yes (al ah bl bh cl ch dl dh : Nat) (w : World) (lal : al < 18446744073709551616) (lah : ah < 18446744073709551616) (lbl : bl < 18446744073709551616) (lbh : bh < 18446744073709551616) (lcl : cl < 18446744073709551616) (lch : ch < 18446744073709551616) (ldl : dl < 18446744073709551616) (ldh : dh < 18446744073709551616) (hp : Spn al ah ∧ Spn cl ch) (hq : Spn bl bh ∧ Spn dl dh) :
    Calls Try.prog 3 #[spv al ah, spv bl bh, spv cl ch, spv dl dh] w fun e w' => e = .returned (.bool true) ∧ Below w.heap.size w w' := by
  have HJ1 := Lib.hid (fun W => join_any al ah cl ch W lal lah lcl lch)
  have HJ2 := Lib.hid (fun W => join_any bl bh dl dh W lbl lbh ldl ldh)
  have HV := Lib.hid (fun W => lives_any W)
  have hsf := @run_store_f Try.prog .f64
  have e1 : spE2 al ah cl ch = 0 := if_pos hp
  rw [e1] at HJ1
  have e2 : spE2 bl bh dl dh = 0 := if_pos hq
  rw [e2] at HJ2
  obtain ⟨⟨lxl, lxh⟩, hx, ⟨i1, i2⟩, j1, j2⟩ := join_has lal lah lcl lch hp
  obtain ⟨⟨lyl, lyh⟩, hy, ⟨i3, i4⟩, _, _⟩ := join_has lbl lbh ldl ldh hq
  generalize joinLo al ah cl ch = xl at *
  generalize joinHi al ah cl ch = xh at *
  generalize joinLo bl bh dl dh = yl at *
  generalize joinHi bl bh dl dh = yh at *
  clear e1 e2
  have HD1 := Lib.hid (fun op W (h : 0 ≤ op ∧ op < 4) => do_any op al ah bl bh W h lal lah lbl lbh)
  have HD2 := Lib.hid (fun op W (h : 0 ≤ op ∧ op < 4) => do_any op xl xh yl yh W h lxl lxh lyl lyh)
  have HW := Lib.hid (fun (op : Int) (l h l' h' : Nat) (er er' : Int) (e e' : Ending) (r : DoRes op al ah bl bh e) (r' : DoRes op xl xh yl yh e') (he : e = .returned (.tuple #[spv l h, .int .i64 er])) (he' : e' = .returned (.tuple #[spv l' h', .int .i64 er'])) =>
    show (l < 18446744073709551616 ∧ l' < 18446744073709551616) ∧ Wid l h l' h' er er' from ⟨⟨doRes_lt r he, doRes_lt r' he'⟩, do_wid lal lah lbl lbh lxl lxh lyl lyh hp.1 hq.1 hx hy i1 i2 i3 i4 r r' he he'⟩)
  have HQ1 := Lib.hid (fun W => spansq_ok al ah W lal lah hp.1)
  have HQ2 := Lib.hid (fun W => spansq_ok xl xh W lxl lxh hx)
  have HSW := Lib.hid (fun d1 u1 d2 u2 e1 v1 e2 v2 => @sq_wid al ah xl xh d1 u1 d2 u2 e1 v1 e2 v2 lal lah lxl lxh hp.1 hx i1 i2)
  have HSN := Lib.hid (fun d1 u1 d2 u2 => @sq_spn al ah d1 u1 d2 u2 lal lah hp.1)
  have HSX := Lib.hid (fun d1 u1 d2 u2 => @sq_spn xl xh d1 u1 d2 u2 lxl lxh hx)
  have HRT := Lib.hid (fun d1 u1 d2 u2 f1 g1 f2 g2 => @rt_has al ah d1 u1 d2 u2 f1 g1 f2 g2 lal lah hp.1)
  have HI1 : Hid (∀ W, Calls Try.prog 7 #[spv al ah, spv xl xh] W fun e w' => e = .returned (.bool true) ∧ Below W.heap.size W w') :=
    Lib.hid fun W => (in_any _ _ _ _ W lal lxl).mono fun e w' ⟨h, hb⟩ => ⟨h.trans (by rw [show spIn al ah xl xh = true from decide_eq_true ⟨hp.1, hx, i1, i2⟩]), hb⟩
  have HI2 : Hid (∀ W, Calls Try.prog 7 #[spv cl ch, spv xl xh] W fun e w' => e = .returned (.bool true) ∧ Below W.heap.size W w') :=
    Lib.hid fun W => (in_any _ _ _ _ W lcl lxl).mono fun e w' ⟨h, hb⟩ => ⟨h.trans (by rw [show spIn cl ch xl xh = true from decide_eq_true ⟨hp.2, hx, j1, j2⟩]), hb⟩
  have HA1 := Lib.hid (fun W => abs_any al W lal)
  have HA2 := Lib.hid (fun W => abs_any ah W lah)
  have HM1 := Lib.hid (fun W => mmin_any hp.1.1 hp.1.2.1 W)
  have HM2 := Lib.hid (fun W => mmax_any hp.1.1 hp.1.2.1 W)
  have o1 : (FloatKind.f64.format.order al 0 == some .lt || FloatKind.f64.format.order al 0 == some .eq) = decide (key al ≤ 0) := by
    rw [ord_le]; exact decide_eq_decide.2 (by rw [key_zero]; have := hp.1.1; have : mg 0 = 0 := (by decide); omega)
  have o2 : (FloatKind.f64.format.order ah 0 == some .gt || FloatKind.f64.format.order ah 0 == some .eq) = decide (0 ≤ key ah) := by
    rw [ord_gt, ord_eq, ← Bool.decide_or]; exact decide_eq_decide.2 (by rw [key_zero]; have := hp.1.2.1; have : mg 0 = 0 := (by decide); omega)
  have hsz : szLo al ah < 9218868437227405312 := by
    have := hp.1.1
    unfold szLo; split <;> omega
  have hN : szLo al ah = if (decide (key al ≤ 0) && decide (0 ≤ key ah)) = true then 0 else min (mg al) (mg ah) := by
    unfold szLo hasN; rw [Bool.decide_and]
  have HZ := Lib.hid (And.intro hsz (And.intro hN (show szHi al ah = max (mg al) (mg ah) from rfl)))
  clear hp hq hx hy i1 i2 j1 j2 i3 i4 lal lah lbl lbh lcl lch ldl ldh lxl lxh lyl lyh hsz hN
  go_enter Try.func3, Try.ntmps3
  go_wp2_with fail
  refine (HJ1.out _).mono ?_
  rintro e w1 ⟨rfl, hb⟩
  obtain ⟨hc, hf⟩ := bcell hb
  have hz0 : w.heap.size < w1.heap.size := by have := hb.size; (try simp at this); omega
  have hz1 : w.heap.size + 1 < w1.heap.size := by have := hb.size; (try simp at this); omega
  have hz2 : w.heap.size + 1 + 1 < w1.heap.size := by have := hb.size; (try simp at this); omega
  have hz3 : w.heap.size + 1 + 1 + 1 < w1.heap.size := by have := hb.size; (try simp at this); omega
  have g1 : Below w.heap.size w w1 := Below.trans (by (repeat (first | exact below_self _ _ | assumption | refine below_dn ?_ _ | refine Below.drew ?_ | refine Below.setCell ?_ (by (try simp) <;> (try omega)) _ | refine Below.alloc ?_ (by (try simp) <;> (try omega)) _))) (hb.mono (by (try simp) <;> (try omega)))
  clear hb HJ1
  go_wp2_with fail
  refine (HJ2.out _).mono ?_
  rintro e w2 ⟨rfl, hb⟩
  obtain ⟨hc2, hf2⟩ := bcell hb
  have hw0 : w.heap.size < w2.heap.size := by have := hb.size; (try simp at this); omega
  have hw1 : w.heap.size + 1 < w2.heap.size := by have := hb.size; (try simp at this); omega
  have hw2 : w.heap.size + 1 + 1 < w2.heap.size := by have := hb.size; (try simp at this); omega
  have hw3 : w.heap.size + 1 + 1 + 1 < w2.heap.size := by have := hb.size; (try simp at this); omega
  have hwx : w1.heap.size < w2.heap.size := by have := hb.size; (try simp at this); omega
  have g2 : Below w.heap.size w w2 := Below.trans (by (repeat (first | exact below_self _ _ | assumption | refine below_dn ?_ _ | refine Below.drew ?_ | refine Below.setCell ?_ (by (try simp) <;> (try omega)) _ | refine Below.alloc ?_ (by (try simp) <;> (try omega)) _))) (hb.mono (by (try simp) <;> (try omega)))
  clear hb HJ2
  go_wp2
  go_loopw [13] (fun iv wr => ∃ k : Nat, k ≤ 4 ∧ iv = .int .i64 k ∧ Gw w wr al ah bl bh cl ch xl xh yl yh w1.heap.size w2.heap.size) (fun iv _ => 4 - (intOf iv).toNat)
  case atStart => exact ⟨0, by omega, rfl, ⟨by (repeat (first | exact below_self _ _ | assumption | refine below_dn ?_ _ | refine Below.drew ?_ | refine Below.setCell ?_ (by (try simp) <;> (try omega)) _ | refine Below.alloc ?_ (by (try simp) <;> (try omega)) _)), by simp; omega, by simp; omega, by simp, by go_cell, by go_cell, by go_cell, by go_cell, by go_cell, by go_cell, by go_cell, by go_cell, by go_cell, by go_cell⟩⟩
  case round =>
    obtain ⟨k, hk, rfl, G⟩ := hrel
    clear hc hf hc2 hf2 g1 g2
    generalize w1.heap.size = gx at *
    generalize w2.heap.size = gy at *
    by_cases hlt : k < 4
    · have hki : (k : Int) < 4 := by omega
      have hk4 : (0 : Int) ≤ k ∧ (k : Int) < 4 := by omega
      have a0 := G.a0
      have a1 := G.a1
      have b0 := G.b0
      have b1 := G.b1
      go_wp2_with fail
      refine (HD1.out _ _ hk4).mono ?_
      rintro e w3 ⟨hr1, hb⟩
      obtain ⟨l1, h1, er1, he1⟩ := doRes_form hr1
      subst he1
      have HR1 := Lib.hid hr1
      clear hr1
      replace G := G.on hb
      clear hb a0 a1 b0 b1
      have x0 := G.x0
      have x1 := G.x1
      have y0 := G.y0
      have y1 := G.y1
      have lx := G.lx
      have ly := G.ly
      go_wp2_with fail
      refine (HD2.out _ _ hk4).mono ?_
      rintro e w4 ⟨hr2, hb⟩
      obtain ⟨l2, h2, er2, he2⟩ := doRes_form hr2
      have HX := HW.out _ l1 h1 l2 h2 er1 er2 _ _ HR1.out hr2 rfl he2
      subst he2
      clear hr2 HR1
      obtain ⟨hc4, hf4⟩ := bcell hb
      have hs4 : w3.heap.size < w4.heap.size := by have := hb.size; (try simp at this); omega
      have hbz : Below w3.heap.size w3 w4 := Below.trans (by (repeat (first | exact below_self _ _ | assumption | refine below_dn ?_ _ | refine Below.drew ?_ | refine Below.setCell ?_ (by (try simp) <;> (try omega)) _ | refine Below.alloc ?_ (by (try simp) <;> (try omega)) _))) (hb.mono (by (try simp) <;> (try omega)))
      replace G := G.on hbz
      clear hb hbz x0 x1 y0 y1 lx ly
      have p0 : w4.cell? ⟨w3.heap.size, 0, none⟩ = some (.float .f64 l1) := by go_cell
      have p1 : w4.cell? ⟨w3.heap.size, 1, none⟩ = some (.float .f64 h1) := by go_cell
      clear hc4 hf4
      by_cases hz : er2 = 0
      · obtain ⟨ez, hin⟩ := HX.2 hz
        subst hz
        subst ez
        have HIn : Hid (∀ W, Calls Try.prog 7 #[spv l1 h1, spv l2 h2] W fun e w' => e = .returned (.bool true) ∧ Below W.heap.size W w') :=
          Lib.hid fun W => (in_any _ _ _ _ W HX.1.1 HX.1.2).mono fun e w' ⟨h, hb⟩ => ⟨h.trans (by rw [hin]), hb⟩
        clear HX hin
        go_wp2_with fail
        refine (HIn.out _).mono ?_
        rintro e w5 ⟨rfl, hb⟩
        have hbz : Below w4.heap.size w4 w5 := Below.trans (by (repeat (first | exact below_self _ _ | assumption | refine below_dn ?_ _ | refine Below.drew ?_ | refine Below.setCell ?_ (by (try simp) <;> (try omega)) _ | refine Below.alloc ?_ (by (try simp) <;> (try omega)) _))) (hb.mono (by (try simp) <;> (try omega)))
        replace G := G.on hbz
        clear hb hbz
        go_wp2
        go_roundw
        case rel => exact ⟨k + 1, by omega, by go_num, G⟩
        case measure => simp [intOf]; omega
      · clear HX
        go_wp2
        go_roundw
        case rel => exact ⟨k + 1, by omega, by go_num, G.on (by (repeat (first | exact below_self _ _ | assumption | refine below_dn ?_ _ | refine Below.drew ?_ | refine Below.setCell ?_ (by (try simp) <;> (try omega)) _ | refine Below.alloc ?_ (by (try simp) <;> (try omega)) _)))⟩
        case measure => simp [intOf]; omega
    · obtain rfl : k = 4 := by omega
      clear hlt hk
      have hki : ¬ ((4 : Nat) : Int) < 4 := by omega
      have a0 := G.a0
      have a1 := G.a1
      go_wp2_with fail
      refine (HQ1.out _).mono ?_
      rintro e w3 ⟨d1, u1, d2, u2, r1, r2, F, he, hb⟩
      replace he : e = .returned (.tuple #[spv (sqLo al ah d1 u1 d2 u2) (sqHi al ah d1 u1 d2 u2), .int .i64 (sqE al ah d1 u1 d2 u2)]) := he
      subst he
      have hsn := HSN.out d1 u1 d2 u2 r1 r2 F
      have HR1 := Lib.hid (And.intro r1 (And.intro r2 F))
      clear r1 r2 F
      replace G := G.on hb
      clear hb a0 a1
      have x0 := G.x0
      have x1 := G.x1
      have lx := G.lx
      go_wp2_with fail
      refine (HQ2.out _).mono ?_
      rintro e w4 ⟨e1, v1, e2, v2, s1, s2, F2, he, hb⟩
      replace he : e = .returned (.tuple #[spv (sqLo xl xh e1 v1 e2 v2) (sqHi xl xh e1 v1 e2 v2), .int .i64 (sqE xl xh e1 v1 e2 v2)]) := he
      subst he
      have HX := HSW.out d1 u1 d2 u2 e1 v1 e2 v2 HR1.out.1 HR1.out.2.1 HR1.out.2.2 s1 s2
      have hsx := (HSX.out e1 v1 e2 v2 s1 s2 F2).1.1
      have hrt := fun f1 g1 f2 g2 t1 t2 F3 hz => HRT.out d1 u1 d2 u2 f1 g1 f2 g2 HR1.out.1 HR1.out.2.1 HR1.out.2.2 hz t1 t2 F3
      clear s1 s2 F2 HR1 HD1 HD2 HW HSW HSN HSX HRT HQ1 HQ2
      generalize sqLo al ah d1 u1 d2 u2 = pl at *
      generalize sqHi al ah d1 u1 d2 u2 = ph at *
      generalize sqE al ah d1 u1 d2 u2 = er1 at *
      generalize sqLo xl xh e1 v1 e2 v2 = ql at *
      generalize sqHi xl xh e1 v1 e2 v2 = qh at *
      generalize sqE xl xh e1 v1 e2 v2 = er2 at *
      have Zp := (Zr.newOf w3 pl ph 24).on hb
      have hbz : Below w3.heap.size w3 w4 := Below.trans (by (repeat (first | exact below_self _ _ | assumption | refine below_dn ?_ _ | refine Below.drew ?_ | refine Below.setCell ?_ (by (try simp) <;> (try omega)) _ | refine Below.alloc ?_ (by (try simp) <;> (try omega)) _))) (hb.mono (by (try simp) <;> (try omega)))
      replace G := G.on hbz
      clear hb hbz x0 x1 lx
      have HS := Lib.hid (fun W => spanrt_ok pl ph W hsn.1.1 hsn.1.2 hsn.2.1 hsn.2.2)
      go_upto_region 14 with fail
      have Zq := Zr.newOf w4 ql qh 24
      have hbq : Below w4.heap.size w4 (w4.alloc (.cells #[.float .f64 ql, .float .f64 qh] 24)) := Below.alloc (Below.refl _ _) (Nat.le_refl _) _
      replace G := G.on hbq
      replace Zp := Zp.on hbq
      clear hbq
      generalize w4.heap.size = gq at *
      generalize (w4.alloc (.cells #[.float .f64 ql, .float .f64 qh] 24)) = w5 at *
      generalize w3.heap.size = gp at *
      go_cut [95] (fun s95 wx => s95 = .bool false ∧ Zr wx gp [pl, ph] ∧ Gw w wx al ah bl bh cl ch xl xh yl yh gx gy)
      case first =>
        as_aux_lemma =>
          by_cases hz : er2 = 0
          · obtain ⟨ez, hin⟩ := HX hz
            subst hz
            subst ez
            have HIn : Hid (∀ W, Calls Try.prog 7 #[spv pl ph, spv ql qh] W fun e w' => e = .returned (.bool true) ∧ Below W.heap.size W w') :=
              Lib.hid fun W => (in_any _ _ _ _ W hsn.1.1 hsx).mono fun e w' ⟨h, hb⟩ => ⟨h.trans (by rw [hin]), hb⟩
            clear HX hin hsn hsx hrt
            have p0 := Zp.at_ 0 _ rfl
            have p1 := Zp.at_ 1 _ rfl
            have q0 := Zq.at_ 0 _ rfl
            have q1 := Zq.at_ 1 _ rfl
            go_wp2_with fail
            refine (HIn.out _).mono ?_
            rintro e w6 ⟨rfl, hb⟩
            replace G := G.on hb
            replace Zp := Zp.on hb
            clear hb p0 p1 q0 q1
            go_wp2
            go_meet
            exact ⟨rfl, Zp, G⟩
          · have hzb : (er2 == 0) = false := beq_false_of_ne hz
            clear HX hsn hsx hrt
            go_wp2
            go_meet
            exact ⟨rfl, Zp, G⟩
      case rest =>
        as_aux_lemma =>
          clear HX hsx hsn Zp Zq G
          obtain ⟨rfl, Zp, G⟩ := hcut
          have p0 := Zp.at_ 0 _ rfl
          have p1 := Zp.at_ 1 _ rfl
          go_wp2_with fail
          refine (HS.out _).mono ?_
          rintro e w6 ⟨f1, g1, f2, g2, t1, t2, F3, rfl, hb⟩
          have HRX := Lib.hid (hrt f1 g1 f2 g2 t1 t2 F3)
          have hrl : leaLo f1 g1 [(f2, g2)] < 18446744073709551616 := rt_lt F3
          replace G := G.on hb
          clear hb t1 t2 F3 hrt p0 p1 Zp
          generalize leaLo f1 g1 [(f2, g2)] = rl at *
          generalize leaHi f1 g1 [(f2, g2)] = rh at *
          generalize leaE f1 g1 [(f2, g2)] = er3 at *
          go_wp2
          have Z : Zr (w6.alloc (.cells #[.float .f64 rl, .float .f64 rh] 24)) w6.heap.size [rl, rh] := Zr.newOf w6 rl rh _
          replace G := G.on (Below.alloc (o := (.cells #[.float .f64 rl, .float .f64 rh] 24)) (Below.refl _ w6) (Nat.le_refl _))
          generalize w6.heap.size = gr at *
          generalize (w6.alloc (.cells #[.float .f64 rl, .float .f64 rh] 24)) = w7 at *
          go_cut [24] (fun s wx => ∃ gm : Nat, s = .pointer (some ⟨gm, 0, none⟩) ∧ gr < gm ∧ (w.heap.size + 1 + 1 + 1 < gm ∧ gx < gm ∧ gy < gm) ∧ Zr wx gm [min (mg al) (mg ah), max (mg al) (mg ah)] ∧ Zr wx gr [rl, rh] ∧ Gw w wx al ah bl bh cl ch xl xh yl yh gx gy)
          case first =>
            as_aux_lemma =>
              clear HI1 HI2 HV HZ HRX
              generalize min (mg al) (mg ah) = mn at *
              generalize max (mg al) (mg ah) = mx at *
              refine wp_region_noPanic ?_
              replace G := G.on (Below.drew (Below.refl _ _))
              replace Z := Z.on (Below.drew (Below.refl _ _))
              refine wp_region_held_drew (S := (fun wx => wx.cell? ⟨w.heap.size, 0, none⟩ = some (.float .f64 al) ∧ wx.cell? ⟨w.heap.size, 1, none⟩ = some (.float .f64 ah))) (by kernel_rfl) ⟨G.a0, G.a1⟩ (fun hHeld => ?_)
              generalize w7.drew = Vd at *
              refine pT 0 ?_
              (try simp only [p0, p1, p2, p3])
              refine pT 1 ?_
              (try simp only [p0, p1, p2, p3])
              refine pT 3 ?_
              (try simp only [p0, p1, p2, p3])
              refine pT 4 ?_
              (try simp only [p0, p1, p2, p3])
              refine pT 7 ?_
              (try simp only [p0, p1, p2, p3])
              refine pT 8 ?_
              (try simp only [p0, p1, p2, p3])
              refine pT 10 ?_
              (try simp only [p0, p1, p2, p3])
              refine pT 11 ?_
              (try simp only [p0, p1, p2, p3])
              refine pR2 2 15 (fun K hK => ?_) (fun K hK => ?_)
              · go_simp
                (go_at_call 11; with_reducible refine (HA1.out _).mono ?_)
                rintro _ wq0 ⟨rfl, rfl⟩
                (try go_wp2_with fail)
                refine hK.out _ _ ⟨G.a0, G.a1⟩ (fun hHeld => ?_)
                clear hK
                (try simp only [p0, p1, p2, p3])
                refine pR2 5 15 (fun K hK => ?_) (fun K hK => ?_)
                · go_simp
                  (go_at_call 11; with_reducible refine (HA2.out _).mono ?_)
                  rintro _ wq1 ⟨rfl, rfl⟩
                  (try go_wp2_with fail)
                  refine hK.out _ _ ⟨G.a0, G.a1⟩ (fun hHeld => ?_)
                  clear hK
                  (try simp only [p0, p1, p2, p3])
                  refine pR2 6 15 (fun K hK => ?_) (fun K hK => ?_)
                  · go_simp
                    (go_at_call 10; with_reducible refine (HM1.out _).mono ?_)
                    rintro _ wq2 ⟨rfl, rfl⟩
                    (try go_wp2_with fail)
                    refine hK.out _ _ ⟨G.a0, G.a1⟩ (fun hHeld => ?_)
                    clear hK
                    (try simp only [p0, p1, p2, p3])
                    refine pR2 9 15 (fun K hK => ?_) (fun K hK => ?_)
                    · go_simp
                      (go_at_call 11; with_reducible refine (HA1.out _).mono ?_)
                      rintro _ wq3 ⟨rfl, rfl⟩
                      (try go_wp2_with fail)
                      refine hK.out _ _ ⟨G.a0, G.a1⟩ (fun hHeld => ?_)
                      clear hK
                      (try simp only [p0, p1, p2, p3])
                      refine pR2 12 15 (fun K hK => ?_) (fun K hK => ?_)
                      · go_simp
                        (go_at_call 11; with_reducible refine (HA2.out _).mono ?_)
                        rintro _ wq4 ⟨rfl, rfl⟩
                        (try go_wp2_with fail)
                        refine hK.out _ _ ⟨G.a0, G.a1⟩ (fun hHeld => ?_)
                        clear hK
                        (try simp only [p0, p1, p2, p3])
                        refine pR2 13 15 (fun K hK => ?_) (fun K hK => ?_)
                        · go_simp
                          (go_at_call 12; with_reducible refine (HM2.out _).mono ?_)
                          rintro _ wq5 ⟨rfl, rfl⟩
                          (try go_wp2_with fail)
                          refine hK.out _ _ ⟨G.a0, G.a1⟩ (fun hHeld => ?_)
                          clear hK
                          (try simp only [p0, p1, p2, p3])
                          refine pT 14 ?_
                          (try simp only [p0, p1, p2, p3])
                          refine pR1 15 (fun K hK => ?_)
                          go_simp
                          have Zm := Zr.new2 wq5 24
                          have hgm := And.intro G.l3 (And.intro G.lx G.ly)
                          have hgr := Z.lt
                          have hbz : Below wq5.heap.size wq5 (wq5.alloc (.cells #[.float .f64 0, .float .f64 0] 24)) := Below.alloc (Below.refl _ _) (Nat.le_refl _) _
                          replace G := G.on hbz
                          replace Z := Z.on hbz
                          clear hbz
                          generalize wq5.heap.size = gm at *
                          generalize (wq5.alloc (.cells #[.float .f64 0, .float .f64 0] 24)) = wz6 at *
                          refine hK.out _ _ ⟨G.a0, G.a1⟩ (fun hHeld => ?_)
                          clear hK
                          (try simp only [p0, p1, p2, p3])
                          have x0 := Zm.at_ 0 0 rfl
                          have x1 := Zm.at_ 1 0 rfl
                          have y0 := Zm.f 0
                          have y1 := Zm.f 1
                          refine pR1 16 (fun K hK => ?_)
                          go_simp
                          replace G := G.far hgm (.float .f64 mn) (.float .f64 mx)
                          replace Z := Z.far (Nat.ne_of_lt hgr) (.float .f64 mn) (.float .f64 mx)
                          replace Zm := Zm.put2 mn mx
                          clear x0 x1 y0 y1
                          generalize ((wz6.setCell ⟨gm, 0, none⟩ (.float .f64 mn)).setCell ⟨gm, 1, none⟩ (.float .f64 mx)) = Wt at *
                          refine hK.out _ _ ⟨G.a0, G.a1⟩ (fun hHeld => ?_)
                          clear hK
                          (try simp only [p0, p1, p2, p3])
                          refine wpAnyH_done (by kernel_rfl) (NoPanic.normal ?_) _
                          go_wp2
                          go_meet
                          exact ⟨_, rfl, hgr, hgm, Zm, Z, G⟩
                        · go_simp
                          have Zm := Zr.new2 wq4 24
                          have hgm := And.intro G.l3 (And.intro G.lx G.ly)
                          have hgr := Z.lt
                          have hbz : Below wq4.heap.size wq4 (wq4.alloc (.cells #[.float .f64 0, .float .f64 0] 24)) := Below.alloc (Below.refl _ _) (Nat.le_refl _) _
                          replace G := G.on hbz
                          replace Z := Z.on hbz
                          clear hbz
                          generalize wq4.heap.size = gm at *
                          generalize (wq4.alloc (.cells #[.float .f64 0, .float .f64 0] 24)) = wz5 at *
                          refine hK.out _ _ ⟨G.a0, G.a1⟩ (fun hHeld => ?_)
                          clear hK
                          (try simp only [p0, p1, p2, p3])
                          refine pR1 13 (fun K hK => ?_)
                          go_simp
                          (go_at_call 12; with_reducible refine (HM2.out _).mono ?_)
                          rintro _ wq5a ⟨rfl, rfl⟩
                          (try go_wp2_with fail)
                          refine hK.out _ _ ⟨G.a0, G.a1⟩ (fun hHeld => ?_)
                          clear hK
                          (try simp only [p0, p1, p2, p3])
                          refine pT 14 ?_
                          (try simp only [p0, p1, p2, p3])
                          have x0 := Zm.at_ 0 0 rfl
                          have x1 := Zm.at_ 1 0 rfl
                          have y0 := Zm.f 0
                          have y1 := Zm.f 1
                          refine pR1 16 (fun K hK => ?_)
                          go_simp
                          replace G := G.far hgm (.float .f64 mn) (.float .f64 mx)
                          replace Z := Z.far (Nat.ne_of_lt hgr) (.float .f64 mn) (.float .f64 mx)
                          replace Zm := Zm.put2 mn mx
                          clear x0 x1 y0 y1
                          generalize ((wq5a.setCell ⟨gm, 0, none⟩ (.float .f64 mn)).setCell ⟨gm, 1, none⟩ (.float .f64 mx)) = Wt at *
                          refine hK.out _ _ ⟨G.a0, G.a1⟩ (fun hHeld => ?_)
                          clear hK
                          (try simp only [p0, p1, p2, p3])
                          refine wpAnyH_done (by kernel_rfl) (NoPanic.normal ?_) _
                          go_wp2
                          go_meet
                          exact ⟨_, rfl, hgr, hgm, Zm, Z, G⟩
                      · go_simp
                        have Zm := Zr.new2 wq3 24
                        have hgm := And.intro G.l3 (And.intro G.lx G.ly)
                        have hgr := Z.lt
                        have hbz : Below wq3.heap.size wq3 (wq3.alloc (.cells #[.float .f64 0, .float .f64 0] 24)) := Below.alloc (Below.refl _ _) (Nat.le_refl _) _
                        replace G := G.on hbz
                        replace Z := Z.on hbz
                        clear hbz
                        generalize wq3.heap.size = gm at *
                        generalize (wq3.alloc (.cells #[.float .f64 0, .float .f64 0] 24)) = wz4 at *
                        refine hK.out _ _ ⟨G.a0, G.a1⟩ (fun hHeld => ?_)
                        clear hK
                        (try simp only [p0, p1, p2, p3])
                        refine pR1 12 (fun K hK => ?_)
                        go_simp
                        (go_at_call 11; with_reducible refine (HA2.out _).mono ?_)
                        rintro _ wq4a ⟨rfl, rfl⟩
                        (try go_wp2_with fail)
                        refine hK.out _ _ ⟨G.a0, G.a1⟩ (fun hHeld => ?_)
                        clear hK
                        (try simp only [p0, p1, p2, p3])
                        refine pR1 13 (fun K hK => ?_)
                        go_simp
                        (go_at_call 12; with_reducible refine (HM2.out _).mono ?_)
                        rintro _ wq5a ⟨rfl, rfl⟩
                        (try go_wp2_with fail)
                        refine hK.out _ _ ⟨G.a0, G.a1⟩ (fun hHeld => ?_)
                        clear hK
                        (try simp only [p0, p1, p2, p3])
                        refine pT 14 ?_
                        (try simp only [p0, p1, p2, p3])
                        have x0 := Zm.at_ 0 0 rfl
                        have x1 := Zm.at_ 1 0 rfl
                        have y0 := Zm.f 0
                        have y1 := Zm.f 1
                        refine pR1 16 (fun K hK => ?_)
                        go_simp
                        replace G := G.far hgm (.float .f64 mn) (.float .f64 mx)
                        replace Z := Z.far (Nat.ne_of_lt hgr) (.float .f64 mn) (.float .f64 mx)
                        replace Zm := Zm.put2 mn mx
                        clear x0 x1 y0 y1
                        generalize ((wq5a.setCell ⟨gm, 0, none⟩ (.float .f64 mn)).setCell ⟨gm, 1, none⟩ (.float .f64 mx)) = Wt at *
                        refine hK.out _ _ ⟨G.a0, G.a1⟩ (fun hHeld => ?_)
                        clear hK
                        (try simp only [p0, p1, p2, p3])
                        refine wpAnyH_done (by kernel_rfl) (NoPanic.normal ?_) _
                        go_wp2
                        go_meet
                        exact ⟨_, rfl, hgr, hgm, Zm, Z, G⟩
                    · go_simp
                      have Zm := Zr.new2 wq2 24
                      have hgm := And.intro G.l3 (And.intro G.lx G.ly)
                      have hgr := Z.lt
                      have hbz : Below wq2.heap.size wq2 (wq2.alloc (.cells #[.float .f64 0, .float .f64 0] 24)) := Below.alloc (Below.refl _ _) (Nat.le_refl _) _
                      replace G := G.on hbz
                      replace Z := Z.on hbz
                      clear hbz
                      generalize wq2.heap.size = gm at *
                      generalize (wq2.alloc (.cells #[.float .f64 0, .float .f64 0] 24)) = wz3 at *
                      refine hK.out _ _ ⟨G.a0, G.a1⟩ (fun hHeld => ?_)
                      clear hK
                      (try simp only [p0, p1, p2, p3])
                      refine pR1 9 (fun K hK => ?_)
                      go_simp
                      (go_at_call 11; with_reducible refine (HA1.out _).mono ?_)
                      rintro _ wq3a ⟨rfl, rfl⟩
                      (try go_wp2_with fail)
                      refine hK.out _ _ ⟨G.a0, G.a1⟩ (fun hHeld => ?_)
                      clear hK
                      (try simp only [p0, p1, p2, p3])
                      refine pR1 12 (fun K hK => ?_)
                      go_simp
                      (go_at_call 11; with_reducible refine (HA2.out _).mono ?_)
                      rintro _ wq4a ⟨rfl, rfl⟩
                      (try go_wp2_with fail)
                      refine hK.out _ _ ⟨G.a0, G.a1⟩ (fun hHeld => ?_)
                      clear hK
                      (try simp only [p0, p1, p2, p3])
                      refine pR1 13 (fun K hK => ?_)
                      go_simp
                      (go_at_call 12; with_reducible refine (HM2.out _).mono ?_)
                      rintro _ wq5a ⟨rfl, rfl⟩
                      (try go_wp2_with fail)
                      refine hK.out _ _ ⟨G.a0, G.a1⟩ (fun hHeld => ?_)
                      clear hK
                      (try simp only [p0, p1, p2, p3])
                      refine pT 14 ?_
                      (try simp only [p0, p1, p2, p3])
                      have x0 := Zm.at_ 0 0 rfl
                      have x1 := Zm.at_ 1 0 rfl
                      have y0 := Zm.f 0
                      have y1 := Zm.f 1
                      refine pR1 16 (fun K hK => ?_)
                      go_simp
                      replace G := G.far hgm (.float .f64 mn) (.float .f64 mx)
                      replace Z := Z.far (Nat.ne_of_lt hgr) (.float .f64 mn) (.float .f64 mx)
                      replace Zm := Zm.put2 mn mx
                      clear x0 x1 y0 y1
                      generalize ((wq5a.setCell ⟨gm, 0, none⟩ (.float .f64 mn)).setCell ⟨gm, 1, none⟩ (.float .f64 mx)) = Wt at *
                      refine hK.out _ _ ⟨G.a0, G.a1⟩ (fun hHeld => ?_)
                      clear hK
                      (try simp only [p0, p1, p2, p3])
                      refine wpAnyH_done (by kernel_rfl) (NoPanic.normal ?_) _
                      go_wp2
                      go_meet
                      exact ⟨_, rfl, hgr, hgm, Zm, Z, G⟩
                  · go_simp
                    have Zm := Zr.new2 wq1 24
                    have hgm := And.intro G.l3 (And.intro G.lx G.ly)
                    have hgr := Z.lt
                    have hbz : Below wq1.heap.size wq1 (wq1.alloc (.cells #[.float .f64 0, .float .f64 0] 24)) := Below.alloc (Below.refl _ _) (Nat.le_refl _) _
                    replace G := G.on hbz
                    replace Z := Z.on hbz
                    clear hbz
                    generalize wq1.heap.size = gm at *
                    generalize (wq1.alloc (.cells #[.float .f64 0, .float .f64 0] 24)) = wz2 at *
                    refine hK.out _ _ ⟨G.a0, G.a1⟩ (fun hHeld => ?_)
                    clear hK
                    (try simp only [p0, p1, p2, p3])
                    refine pR1 6 (fun K hK => ?_)
                    go_simp
                    (go_at_call 10; with_reducible refine (HM1.out _).mono ?_)
                    rintro _ wq2a ⟨rfl, rfl⟩
                    (try go_wp2_with fail)
                    refine hK.out _ _ ⟨G.a0, G.a1⟩ (fun hHeld => ?_)
                    clear hK
                    (try simp only [p0, p1, p2, p3])
                    refine pR1 9 (fun K hK => ?_)
                    go_simp
                    (go_at_call 11; with_reducible refine (HA1.out _).mono ?_)
                    rintro _ wq3a ⟨rfl, rfl⟩
                    (try go_wp2_with fail)
                    refine hK.out _ _ ⟨G.a0, G.a1⟩ (fun hHeld => ?_)
                    clear hK
                    (try simp only [p0, p1, p2, p3])
                    refine pR1 12 (fun K hK => ?_)
                    go_simp
                    (go_at_call 11; with_reducible refine (HA2.out _).mono ?_)
                    rintro _ wq4a ⟨rfl, rfl⟩
                    (try go_wp2_with fail)
                    refine hK.out _ _ ⟨G.a0, G.a1⟩ (fun hHeld => ?_)
                    clear hK
                    (try simp only [p0, p1, p2, p3])
                    refine pR1 13 (fun K hK => ?_)
                    go_simp
                    (go_at_call 12; with_reducible refine (HM2.out _).mono ?_)
                    rintro _ wq5a ⟨rfl, rfl⟩
                    (try go_wp2_with fail)
                    refine hK.out _ _ ⟨G.a0, G.a1⟩ (fun hHeld => ?_)
                    clear hK
                    (try simp only [p0, p1, p2, p3])
                    refine pT 14 ?_
                    (try simp only [p0, p1, p2, p3])
                    have x0 := Zm.at_ 0 0 rfl
                    have x1 := Zm.at_ 1 0 rfl
                    have y0 := Zm.f 0
                    have y1 := Zm.f 1
                    refine pR1 16 (fun K hK => ?_)
                    go_simp
                    replace G := G.far hgm (.float .f64 mn) (.float .f64 mx)
                    replace Z := Z.far (Nat.ne_of_lt hgr) (.float .f64 mn) (.float .f64 mx)
                    replace Zm := Zm.put2 mn mx
                    clear x0 x1 y0 y1
                    generalize ((wq5a.setCell ⟨gm, 0, none⟩ (.float .f64 mn)).setCell ⟨gm, 1, none⟩ (.float .f64 mx)) = Wt at *
                    refine hK.out _ _ ⟨G.a0, G.a1⟩ (fun hHeld => ?_)
                    clear hK
                    (try simp only [p0, p1, p2, p3])
                    refine wpAnyH_done (by kernel_rfl) (NoPanic.normal ?_) _
                    go_wp2
                    go_meet
                    exact ⟨_, rfl, hgr, hgm, Zm, Z, G⟩
                · go_simp
                  have Zm := Zr.new2 wq0 24
                  have hgm := And.intro G.l3 (And.intro G.lx G.ly)
                  have hgr := Z.lt
                  have hbz : Below wq0.heap.size wq0 (wq0.alloc (.cells #[.float .f64 0, .float .f64 0] 24)) := Below.alloc (Below.refl _ _) (Nat.le_refl _) _
                  replace G := G.on hbz
                  replace Z := Z.on hbz
                  clear hbz
                  generalize wq0.heap.size = gm at *
                  generalize (wq0.alloc (.cells #[.float .f64 0, .float .f64 0] 24)) = wz1 at *
                  refine hK.out _ _ ⟨G.a0, G.a1⟩ (fun hHeld => ?_)
                  clear hK
                  (try simp only [p0, p1, p2, p3])
                  refine pR1 5 (fun K hK => ?_)
                  go_simp
                  (go_at_call 11; with_reducible refine (HA2.out _).mono ?_)
                  rintro _ wq1a ⟨rfl, rfl⟩
                  (try go_wp2_with fail)
                  refine hK.out _ _ ⟨G.a0, G.a1⟩ (fun hHeld => ?_)
                  clear hK
                  (try simp only [p0, p1, p2, p3])
                  refine pR1 6 (fun K hK => ?_)
                  go_simp
                  (go_at_call 10; with_reducible refine (HM1.out _).mono ?_)
                  rintro _ wq2a ⟨rfl, rfl⟩
                  (try go_wp2_with fail)
                  refine hK.out _ _ ⟨G.a0, G.a1⟩ (fun hHeld => ?_)
                  clear hK
                  (try simp only [p0, p1, p2, p3])
                  refine pR1 9 (fun K hK => ?_)
                  go_simp
                  (go_at_call 11; with_reducible refine (HA1.out _).mono ?_)
                  rintro _ wq3a ⟨rfl, rfl⟩
                  (try go_wp2_with fail)
                  refine hK.out _ _ ⟨G.a0, G.a1⟩ (fun hHeld => ?_)
                  clear hK
                  (try simp only [p0, p1, p2, p3])
                  refine pR1 12 (fun K hK => ?_)
                  go_simp
                  (go_at_call 11; with_reducible refine (HA2.out _).mono ?_)
                  rintro _ wq4a ⟨rfl, rfl⟩
                  (try go_wp2_with fail)
                  refine hK.out _ _ ⟨G.a0, G.a1⟩ (fun hHeld => ?_)
                  clear hK
                  (try simp only [p0, p1, p2, p3])
                  refine pR1 13 (fun K hK => ?_)
                  go_simp
                  (go_at_call 12; with_reducible refine (HM2.out _).mono ?_)
                  rintro _ wq5a ⟨rfl, rfl⟩
                  (try go_wp2_with fail)
                  refine hK.out _ _ ⟨G.a0, G.a1⟩ (fun hHeld => ?_)
                  clear hK
                  (try simp only [p0, p1, p2, p3])
                  refine pT 14 ?_
                  (try simp only [p0, p1, p2, p3])
                  have x0 := Zm.at_ 0 0 rfl
                  have x1 := Zm.at_ 1 0 rfl
                  have y0 := Zm.f 0
                  have y1 := Zm.f 1
                  refine pR1 16 (fun K hK => ?_)
                  go_simp
                  replace G := G.far hgm (.float .f64 mn) (.float .f64 mx)
                  replace Z := Z.far (Nat.ne_of_lt hgr) (.float .f64 mn) (.float .f64 mx)
                  replace Zm := Zm.put2 mn mx
                  clear x0 x1 y0 y1
                  generalize ((wq5a.setCell ⟨gm, 0, none⟩ (.float .f64 mn)).setCell ⟨gm, 1, none⟩ (.float .f64 mx)) = Wt at *
                  refine hK.out _ _ ⟨G.a0, G.a1⟩ (fun hHeld => ?_)
                  clear hK
                  (try simp only [p0, p1, p2, p3])
                  refine wpAnyH_done (by kernel_rfl) (NoPanic.normal ?_) _
                  go_wp2
                  go_meet
                  exact ⟨_, rfl, hgr, hgm, Zm, Z, G⟩
              · go_simp
                have Zm := Zr.new2 Vd 24
                have hgm := And.intro G.l3 (And.intro G.lx G.ly)
                have hgr := Z.lt
                have hbz : Below Vd.heap.size Vd (Vd.alloc (.cells #[.float .f64 0, .float .f64 0] 24)) := Below.alloc (Below.refl _ _) (Nat.le_refl _) _
                replace G := G.on hbz
                replace Z := Z.on hbz
                clear hbz
                generalize Vd.heap.size = gm at *
                generalize (Vd.alloc (.cells #[.float .f64 0, .float .f64 0] 24)) = wz0 at *
                refine hK.out _ _ ⟨G.a0, G.a1⟩ (fun hHeld => ?_)
                clear hK
                (try simp only [p0, p1, p2, p3])
                refine pR1 2 (fun K hK => ?_)
                go_simp
                (go_at_call 11; with_reducible refine (HA1.out _).mono ?_)
                rintro _ wq0a ⟨rfl, rfl⟩
                (try go_wp2_with fail)
                refine hK.out _ _ ⟨G.a0, G.a1⟩ (fun hHeld => ?_)
                clear hK
                (try simp only [p0, p1, p2, p3])
                refine pR1 5 (fun K hK => ?_)
                go_simp
                (go_at_call 11; with_reducible refine (HA2.out _).mono ?_)
                rintro _ wq1a ⟨rfl, rfl⟩
                (try go_wp2_with fail)
                refine hK.out _ _ ⟨G.a0, G.a1⟩ (fun hHeld => ?_)
                clear hK
                (try simp only [p0, p1, p2, p3])
                refine pR1 6 (fun K hK => ?_)
                go_simp
                (go_at_call 10; with_reducible refine (HM1.out _).mono ?_)
                rintro _ wq2a ⟨rfl, rfl⟩
                (try go_wp2_with fail)
                refine hK.out _ _ ⟨G.a0, G.a1⟩ (fun hHeld => ?_)
                clear hK
                (try simp only [p0, p1, p2, p3])
                refine pR1 9 (fun K hK => ?_)
                go_simp
                (go_at_call 11; with_reducible refine (HA1.out _).mono ?_)
                rintro _ wq3a ⟨rfl, rfl⟩
                (try go_wp2_with fail)
                refine hK.out _ _ ⟨G.a0, G.a1⟩ (fun hHeld => ?_)
                clear hK
                (try simp only [p0, p1, p2, p3])
                refine pR1 12 (fun K hK => ?_)
                go_simp
                (go_at_call 11; with_reducible refine (HA2.out _).mono ?_)
                rintro _ wq4a ⟨rfl, rfl⟩
                (try go_wp2_with fail)
                refine hK.out _ _ ⟨G.a0, G.a1⟩ (fun hHeld => ?_)
                clear hK
                (try simp only [p0, p1, p2, p3])
                refine pR1 13 (fun K hK => ?_)
                go_simp
                (go_at_call 12; with_reducible refine (HM2.out _).mono ?_)
                rintro _ wq5a ⟨rfl, rfl⟩
                (try go_wp2_with fail)
                refine hK.out _ _ ⟨G.a0, G.a1⟩ (fun hHeld => ?_)
                clear hK
                (try simp only [p0, p1, p2, p3])
                refine pT 14 ?_
                (try simp only [p0, p1, p2, p3])
                have x0 := Zm.at_ 0 0 rfl
                have x1 := Zm.at_ 1 0 rfl
                have y0 := Zm.f 0
                have y1 := Zm.f 1
                refine pR1 16 (fun K hK => ?_)
                go_simp
                replace G := G.far hgm (.float .f64 mn) (.float .f64 mx)
                replace Z := Z.far (Nat.ne_of_lt hgr) (.float .f64 mn) (.float .f64 mx)
                replace Zm := Zm.put2 mn mx
                clear x0 x1 y0 y1
                generalize ((wq5a.setCell ⟨gm, 0, none⟩ (.float .f64 mn)).setCell ⟨gm, 1, none⟩ (.float .f64 mx)) = Wt at *
                refine hK.out _ _ ⟨G.a0, G.a1⟩ (fun hHeld => ?_)
                clear hK
                (try simp only [p0, p1, p2, p3])
                refine wpAnyH_done (by kernel_rfl) (NoPanic.normal ?_) _
                go_wp2
                go_meet
                exact ⟨_, rfl, hgr, hgm, Zm, Z, G⟩
          case rest =>
            as_aux_lemma =>
              obtain ⟨gm, rfl, hgr, hgm, Zm, Z, G⟩ := hcut
              by_cases h1z : er1 = 0
              · subst h1z
                obtain ⟨rfl, hin⟩ := HRX.out (by first | rfl | trivial)
                have hz := HZ.out
                rw [hz.2.2] at hin
                have hz1 := hz.1
                have hz2 := hz.2.1
                clear hz HRX
                generalize szLo al ah = sl at *
                clear HZ
                generalize decide (key al ≤ 0) = b1 at *
                generalize decide (0 ≤ key ah) = b2 at *
                subst hz2
                have HIm := Lib.hid (fun W => (in_any (if (b1 && b2) = true then 0 else min (mg al) (mg ah)) (max (mg al) (mg ah)) rl rh W (Nat.lt_trans hz1 (by decide)) hrl).mono (R' := fun e w' => e = .returned (.bool true) ∧ Below W.heap.size W w') fun e w' ⟨h, hb⟩ => ⟨h.trans (by rw [hin]), hb⟩)
                clear hin hz1 hrl
                cases b1 <;> cases b2
                · as_aux_lemma =>
                    simp only [Bool.and_self, Bool.false_eq_true, if_false] at HIm
                    have a0 := G.a0
                    have a1 := G.a1
                    have x0 := G.x0
                    have x1 := G.x1
                    have m0 := Zm.at_ 0 _ rfl
                    have m1 := Zm.at_ 1 _ rfl
                    have m2 := Zm.f 0
                    have m3 := Zm.lt
                    go_wp2_with fail
                    refine (HI1.out _).mono ?_
                    rintro e w8 ⟨rfl, hb⟩
                    first | (replace G := (G.far1 hgm (.float .f64 0)).on hb; replace Z := (Z.far1 (Nat.ne_of_lt hgr) (.float .f64 0)).on hb; replace Zm := (Zm.put1 0).on hb) | (replace G := G.on hb; replace Z := Z.on hb; replace Zm := Zm.on hb)
                    clear hb a0 a1 x0 x1 m0 m1 m2 m3
                    have c0 := G.c0
                    have c1 := G.c1
                    have x0 := G.x0
                    have x1 := G.x1
                    go_wp2_with fail
                    refine (HI2.out _).mono ?_
                    rintro e w9 ⟨rfl, hb⟩
                    replace G := G.on hb
                    replace Z := Z.on hb
                    replace Zm := Zm.on hb
                    clear hb c0 c1 x0 x1
                    have m0 := Zm.at_ 0 _ rfl
                    have m1 := Zm.at_ 1 _ rfl
                    have r0 := Z.at_ 0 _ rfl
                    have r1 := Z.at_ 1 _ rfl
                    go_wp2_with fail
                    refine (HIm.out _).mono ?_
                    rintro e w10 ⟨rfl, hb⟩
                    replace G := G.on hb
                    clear hb m0 m1 r0 r1
                    go_wp2_with fail
                    refine (HV.out _).mono ?_
                    rintro e w11 ⟨rfl, hb⟩
                    replace G := G.on hb
                    clear hb
                    have g11 := G.below
                    go_wp2
                    go_ret
                    exact ⟨rfl, by (repeat (first | exact below_self _ _ | assumption | refine below_dn ?_ _ | refine Below.drew ?_ | refine Below.setCell ?_ (by (try simp) <;> (try omega)) _ | refine Below.alloc ?_ (by (try simp) <;> (try omega)) _))⟩
                · as_aux_lemma =>
                    simp only [Bool.and_true, Bool.false_eq_true, if_false] at HIm
                    have a0 := G.a0
                    have a1 := G.a1
                    have x0 := G.x0
                    have x1 := G.x1
                    have m0 := Zm.at_ 0 _ rfl
                    have m1 := Zm.at_ 1 _ rfl
                    have m2 := Zm.f 0
                    have m3 := Zm.lt
                    go_wp2_with fail
                    refine (HI1.out _).mono ?_
                    rintro e w8 ⟨rfl, hb⟩
                    first | (replace G := (G.far1 hgm (.float .f64 0)).on hb; replace Z := (Z.far1 (Nat.ne_of_lt hgr) (.float .f64 0)).on hb; replace Zm := (Zm.put1 0).on hb) | (replace G := G.on hb; replace Z := Z.on hb; replace Zm := Zm.on hb)
                    clear hb a0 a1 x0 x1 m0 m1 m2 m3
                    have c0 := G.c0
                    have c1 := G.c1
                    have x0 := G.x0
                    have x1 := G.x1
                    go_wp2_with fail
                    refine (HI2.out _).mono ?_
                    rintro e w9 ⟨rfl, hb⟩
                    replace G := G.on hb
                    replace Z := Z.on hb
                    replace Zm := Zm.on hb
                    clear hb c0 c1 x0 x1
                    have m0 := Zm.at_ 0 _ rfl
                    have m1 := Zm.at_ 1 _ rfl
                    have r0 := Z.at_ 0 _ rfl
                    have r1 := Z.at_ 1 _ rfl
                    go_wp2_with fail
                    refine (HIm.out _).mono ?_
                    rintro e w10 ⟨rfl, hb⟩
                    replace G := G.on hb
                    clear hb m0 m1 r0 r1
                    go_wp2_with fail
                    refine (HV.out _).mono ?_
                    rintro e w11 ⟨rfl, hb⟩
                    replace G := G.on hb
                    clear hb
                    have g11 := G.below
                    go_wp2
                    go_ret
                    exact ⟨rfl, by (repeat (first | exact below_self _ _ | assumption | refine below_dn ?_ _ | refine Below.drew ?_ | refine Below.setCell ?_ (by (try simp) <;> (try omega)) _ | refine Below.alloc ?_ (by (try simp) <;> (try omega)) _))⟩
                · as_aux_lemma =>
                    simp only [Bool.and_false, Bool.false_eq_true, if_false] at HIm
                    have a0 := G.a0
                    have a1 := G.a1
                    have x0 := G.x0
                    have x1 := G.x1
                    have m0 := Zm.at_ 0 _ rfl
                    have m1 := Zm.at_ 1 _ rfl
                    have m2 := Zm.f 0
                    have m3 := Zm.lt
                    go_wp2_with fail
                    refine (HI1.out _).mono ?_
                    rintro e w8 ⟨rfl, hb⟩
                    first | (replace G := (G.far1 hgm (.float .f64 0)).on hb; replace Z := (Z.far1 (Nat.ne_of_lt hgr) (.float .f64 0)).on hb; replace Zm := (Zm.put1 0).on hb) | (replace G := G.on hb; replace Z := Z.on hb; replace Zm := Zm.on hb)
                    clear hb a0 a1 x0 x1 m0 m1 m2 m3
                    have c0 := G.c0
                    have c1 := G.c1
                    have x0 := G.x0
                    have x1 := G.x1
                    go_wp2_with fail
                    refine (HI2.out _).mono ?_
                    rintro e w9 ⟨rfl, hb⟩
                    replace G := G.on hb
                    replace Z := Z.on hb
                    replace Zm := Zm.on hb
                    clear hb c0 c1 x0 x1
                    have m0 := Zm.at_ 0 _ rfl
                    have m1 := Zm.at_ 1 _ rfl
                    have r0 := Z.at_ 0 _ rfl
                    have r1 := Z.at_ 1 _ rfl
                    go_wp2_with fail
                    refine (HIm.out _).mono ?_
                    rintro e w10 ⟨rfl, hb⟩
                    replace G := G.on hb
                    clear hb m0 m1 r0 r1
                    go_wp2_with fail
                    refine (HV.out _).mono ?_
                    rintro e w11 ⟨rfl, hb⟩
                    replace G := G.on hb
                    clear hb
                    have g11 := G.below
                    go_wp2
                    go_ret
                    exact ⟨rfl, by (repeat (first | exact below_self _ _ | assumption | refine below_dn ?_ _ | refine Below.drew ?_ | refine Below.setCell ?_ (by (try simp) <;> (try omega)) _ | refine Below.alloc ?_ (by (try simp) <;> (try omega)) _))⟩
                · as_aux_lemma =>
                    simp only [Bool.and_self, if_true] at HIm
                    have a0 := G.a0
                    have a1 := G.a1
                    have x0 := G.x0
                    have x1 := G.x1
                    have m0 := Zm.at_ 0 _ rfl
                    have m1 := Zm.at_ 1 _ rfl
                    have m2 := Zm.f 0
                    have m3 := Zm.lt
                    go_wp2_with fail
                    refine (HI1.out _).mono ?_
                    rintro e w8 ⟨rfl, hb⟩
                    first | (replace G := (G.far1 hgm (.float .f64 0)).on hb; replace Z := (Z.far1 (Nat.ne_of_lt hgr) (.float .f64 0)).on hb; replace Zm := (Zm.put1 0).on hb) | (replace G := G.on hb; replace Z := Z.on hb; replace Zm := Zm.on hb)
                    clear hb a0 a1 x0 x1 m0 m1 m2 m3
                    have c0 := G.c0
                    have c1 := G.c1
                    have x0 := G.x0
                    have x1 := G.x1
                    go_wp2_with fail
                    refine (HI2.out _).mono ?_
                    rintro e w9 ⟨rfl, hb⟩
                    replace G := G.on hb
                    replace Z := Z.on hb
                    replace Zm := Zm.on hb
                    clear hb c0 c1 x0 x1
                    have m0 := Zm.at_ 0 _ rfl
                    have m1 := Zm.at_ 1 _ rfl
                    have r0 := Z.at_ 0 _ rfl
                    have r1 := Z.at_ 1 _ rfl
                    go_wp2_with fail
                    refine (HIm.out _).mono ?_
                    rintro e w10 ⟨rfl, hb⟩
                    replace G := G.on hb
                    clear hb m0 m1 r0 r1
                    go_wp2_with fail
                    refine (HV.out _).mono ?_
                    rintro e w11 ⟨rfl, hb⟩
                    replace G := G.on hb
                    clear hb
                    have g11 := G.below
                    go_wp2
                    go_ret
                    exact ⟨rfl, by (repeat (first | exact below_self _ _ | assumption | refine below_dn ?_ _ | refine Below.drew ?_ | refine Below.setCell ?_ (by (try simp) <;> (try omega)) _ | refine Below.alloc ?_ (by (try simp) <;> (try omega)) _))⟩
              · clear HRX HZ hrl
                generalize decide (key al ≤ 0) = b1 at *
                generalize decide (0 ≤ key ah) = b2 at *
                cases b1 <;> cases b2
                · as_aux_lemma =>
                    have a0 := G.a0
                    have a1 := G.a1
                    have x0 := G.x0
                    have x1 := G.x1
                    have m0 := Zm.at_ 0 _ rfl
                    have m1 := Zm.at_ 1 _ rfl
                    have m2 := Zm.f 0
                    have m3 := Zm.lt
                    go_wp2_with fail
                    refine (HI1.out _).mono ?_
                    rintro e w8 ⟨rfl, hb⟩
                    first | (replace G := (G.far1 hgm (.float .f64 0)).on hb; replace Z := (Z.far1 (Nat.ne_of_lt hgr) (.float .f64 0)).on hb; replace Zm := (Zm.put1 0).on hb) | (replace G := G.on hb; replace Z := Z.on hb; replace Zm := Zm.on hb)
                    clear hb a0 a1 x0 x1 m0 m1 m2 m3
                    have c0 := G.c0
                    have c1 := G.c1
                    have x0 := G.x0
                    have x1 := G.x1
                    go_wp2_with fail
                    refine (HI2.out _).mono ?_
                    rintro e w9 ⟨rfl, hb⟩
                    replace G := G.on hb
                    replace Z := Z.on hb
                    replace Zm := Zm.on hb
                    clear hb c0 c1 x0 x1
                    go_wp2_with fail
                    refine (HV.out _).mono ?_
                    rintro e w11 ⟨rfl, hb⟩
                    replace G := G.on hb
                    clear hb
                    have g11 := G.below
                    go_wp2
                    go_ret
                    exact ⟨rfl, by (repeat (first | exact below_self _ _ | assumption | refine below_dn ?_ _ | refine Below.drew ?_ | refine Below.setCell ?_ (by (try simp) <;> (try omega)) _ | refine Below.alloc ?_ (by (try simp) <;> (try omega)) _))⟩
                · as_aux_lemma =>
                    have a0 := G.a0
                    have a1 := G.a1
                    have x0 := G.x0
                    have x1 := G.x1
                    have m0 := Zm.at_ 0 _ rfl
                    have m1 := Zm.at_ 1 _ rfl
                    have m2 := Zm.f 0
                    have m3 := Zm.lt
                    go_wp2_with fail
                    refine (HI1.out _).mono ?_
                    rintro e w8 ⟨rfl, hb⟩
                    first | (replace G := (G.far1 hgm (.float .f64 0)).on hb; replace Z := (Z.far1 (Nat.ne_of_lt hgr) (.float .f64 0)).on hb; replace Zm := (Zm.put1 0).on hb) | (replace G := G.on hb; replace Z := Z.on hb; replace Zm := Zm.on hb)
                    clear hb a0 a1 x0 x1 m0 m1 m2 m3
                    have c0 := G.c0
                    have c1 := G.c1
                    have x0 := G.x0
                    have x1 := G.x1
                    go_wp2_with fail
                    refine (HI2.out _).mono ?_
                    rintro e w9 ⟨rfl, hb⟩
                    replace G := G.on hb
                    replace Z := Z.on hb
                    replace Zm := Zm.on hb
                    clear hb c0 c1 x0 x1
                    go_wp2_with fail
                    refine (HV.out _).mono ?_
                    rintro e w11 ⟨rfl, hb⟩
                    replace G := G.on hb
                    clear hb
                    have g11 := G.below
                    go_wp2
                    go_ret
                    exact ⟨rfl, by (repeat (first | exact below_self _ _ | assumption | refine below_dn ?_ _ | refine Below.drew ?_ | refine Below.setCell ?_ (by (try simp) <;> (try omega)) _ | refine Below.alloc ?_ (by (try simp) <;> (try omega)) _))⟩
                · as_aux_lemma =>
                    have a0 := G.a0
                    have a1 := G.a1
                    have x0 := G.x0
                    have x1 := G.x1
                    have m0 := Zm.at_ 0 _ rfl
                    have m1 := Zm.at_ 1 _ rfl
                    have m2 := Zm.f 0
                    have m3 := Zm.lt
                    go_wp2_with fail
                    refine (HI1.out _).mono ?_
                    rintro e w8 ⟨rfl, hb⟩
                    first | (replace G := (G.far1 hgm (.float .f64 0)).on hb; replace Z := (Z.far1 (Nat.ne_of_lt hgr) (.float .f64 0)).on hb; replace Zm := (Zm.put1 0).on hb) | (replace G := G.on hb; replace Z := Z.on hb; replace Zm := Zm.on hb)
                    clear hb a0 a1 x0 x1 m0 m1 m2 m3
                    have c0 := G.c0
                    have c1 := G.c1
                    have x0 := G.x0
                    have x1 := G.x1
                    go_wp2_with fail
                    refine (HI2.out _).mono ?_
                    rintro e w9 ⟨rfl, hb⟩
                    replace G := G.on hb
                    replace Z := Z.on hb
                    replace Zm := Zm.on hb
                    clear hb c0 c1 x0 x1
                    go_wp2_with fail
                    refine (HV.out _).mono ?_
                    rintro e w11 ⟨rfl, hb⟩
                    replace G := G.on hb
                    clear hb
                    have g11 := G.below
                    go_wp2
                    go_ret
                    exact ⟨rfl, by (repeat (first | exact below_self _ _ | assumption | refine below_dn ?_ _ | refine Below.drew ?_ | refine Below.setCell ?_ (by (try simp) <;> (try omega)) _ | refine Below.alloc ?_ (by (try simp) <;> (try omega)) _))⟩
                · as_aux_lemma =>
                    have a0 := G.a0
                    have a1 := G.a1
                    have x0 := G.x0
                    have x1 := G.x1
                    have m0 := Zm.at_ 0 _ rfl
                    have m1 := Zm.at_ 1 _ rfl
                    have m2 := Zm.f 0
                    have m3 := Zm.lt
                    go_wp2_with fail
                    refine (HI1.out _).mono ?_
                    rintro e w8 ⟨rfl, hb⟩
                    first | (replace G := (G.far1 hgm (.float .f64 0)).on hb; replace Z := (Z.far1 (Nat.ne_of_lt hgr) (.float .f64 0)).on hb; replace Zm := (Zm.put1 0).on hb) | (replace G := G.on hb; replace Z := Z.on hb; replace Zm := Zm.on hb)
                    clear hb a0 a1 x0 x1 m0 m1 m2 m3
                    have c0 := G.c0
                    have c1 := G.c1
                    have x0 := G.x0
                    have x1 := G.x1
                    go_wp2_with fail
                    refine (HI2.out _).mono ?_
                    rintro e w9 ⟨rfl, hb⟩
                    replace G := G.on hb
                    replace Z := Z.on hb
                    replace Zm := Zm.on hb
                    clear hb c0 c1 x0 x1
                    go_wp2_with fail
                    refine (HV.out _).mono ?_
                    rintro e w11 ⟨rfl, hb⟩
                    replace G := G.on hb
                    clear hb
                    have g11 := G.below
                    go_wp2
                    go_ret
                    exact ⟨rfl, by (repeat (first | exact below_self _ _ | assumption | refine below_dn ?_ _ | refine Below.drew ?_ | refine Below.setCell ?_ (by (try simp) <;> (try omega)) _ | refine Below.alloc ?_ (by (try simp) <;> (try omega)) _))⟩
end Go.Proofs.Ytghcoijinihlnaa.Fl
