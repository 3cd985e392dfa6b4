/-
  For every fraction that is handed in, may it be or not, and every float: a fraction lies between the floats that round tells of it, which are beside one another; of what a float is worth they are that float; what is beside what is beside a float is that float (RoundNear). No conditions.
-/
import Derived.Test.YtghcoijinihlnaaGreatFnc
import Derived.Test.YtghcoijinihlnaaGreatFbt
import Derived.Deep.RegionHeld3
import Derived.Deep.DeepCutAuto
import Derived.BigRegion
import Derived.Test.YtghcoijinihlnaaGreatRop
namespace Go.Proofs.YtghcoijinihlnaaGreat
open Go.RowKit Nb

open Fl Ieee
theorem f_cost {f : Fv} {w : World} : Calls Tryz.prog 7 #[fv f] w (fun e w' => (∃ k : Int, e = .returned (.int .i64 k)) ∧ Below w.heap.size w w') := fcost_any _ _ _ _ _ _ _ _ _
set_option maxHeartbeats 2000000 in
theorem beyond_one {g l : Nat} {k1 : Int} {w : World} (K : Box w g [.int .i64 k1]) :
  Calls Tryz.prog 6 #[.slice (some ⟨g, 0, none⟩) 1 l] w fun e w' => (∃ b : Bool, e = .returned (.bool b)) ∧ Below w.heap.size w w' := by
 have c0 := K.c 0 _ rfl
 clear K
 go_enter Tryz.func6, Tryz.ntmps6
 go_wp2
 refine wp_loop_rounds 2 ?_
 rw [rounds_succ]
 go_wp2
 all_goals try (go_ret; exact ⟨⟨_, rfl⟩, Below.refl _ _⟩)
 all_goals rw [rounds_succ]
 all_goals go_wp2
 all_goals (go_ret; exact ⟨⟨_, rfl⟩, Below.refl _ _⟩)
theorem nextf_fin {v : Nat} (hv : v < 18446744073709551616) (hf : mg v < 9218868437227405312) (b : Bool) : nextf v b < 18446744073709551616 ∧ mg (nextf v b) ≤ 9218868437227405312 ∧ key (nextf v b) = key v + (if b then 1 else -1) ∧
    nextf (nextf v b) (!b) < 18446744073709551616 ∧ mg (nextf (nextf v b) (!b)) ≤ 9218868437227405312 ∧ key (nextf (nextf v b) (!b)) = key v := by
  have hw := word_of v hv
  have wl : ∀ (s : Bool) (k : Nat), k < 9223372036854775808 → double.word s k < 18446744073709551616 := fun s k h => by unfold Format.word; rw [d_sw]; split <;> omega
  obtain ⟨s, hs⟩ : ∃ s, ng v = s := ⟨_, rfl⟩
  obtain ⟨r, hr⟩ : ∃ r, mg v = r := ⟨_, rfl⟩
  rw [hs, hr] at hw
  rw [hr] at hf
  rw [← hw]
  clear hw hs hr hv
  have hk := key_word s r (by omega)
  by_cases h : s = !b
  · subst h
    have n := nextf_word (!b) r hf
    rw [Bool.not_not] at n
    rw [n.1]
    have k1 := key_word (!b) (r + 1) (by omega)
    have m1 := (word_mg (!b) (r + 1) (by omega)).1
    have m0 := (word_mg (!b) r (by omega)).1
    rw [n.2]
    refine ⟨wl _ _ (by omega), by omega, ?_, wl _ _ (by omega), by omega, rfl⟩
    rw [k1, hk]
    cases b <;> simp <;> omega
  · have h2 : s = b := by cases s <;> cases b <;> simp_all
    subst h2
    rcases r with _ | r
    · have n := nextf_word (!s) 0 (by decide)
      have e : nextf (double.word s 0) s = double.word (!s) 1 := by
        unfold nextf
        rw [(word_mg s 0 (by decide)).1, if_neg (by decide), if_neg (by simp), if_pos rfl]
        cases s
        · exact word_one'.symm
        · exact word_one.symm
      rw [e]
      have k1 := key_word (!s) 1 (by decide)
      have k0 := key_word (!s) 0 (by decide)
      have m1 := (word_mg (!s) 1 (by decide)).1
      have m0 := (word_mg (!s) 0 (by decide)).1
      rw [show (1 : Nat) = 0 + 1 from rfl, n.2]
      refine ⟨wl _ _ (by decide), by rw [m1]; decide, ?_, wl _ _ (by decide), by rw [m0]; decide, ?_⟩
      · rw [k1, hk]; cases s <;> simp
      · rw [k0, hk]; cases s <;> simp
    · have n := nextf_word s r (by omega)
      rw [n.2, n.1]
      have k1 := key_word s r (by omega)
      have m1 := (word_mg s r (by omega)).1
      have m0 := (word_mg s (r + 1) (by omega)).1
      refine ⟨wl _ _ (by omega), by omega, ?_, wl _ _ (by omega), by omega, rfl⟩
      rw [k1, hk]
      cases s <;> simp <;> omega
theorem bt_self {s : Nat} (hf : mg s < 9218868437227405312) : Bt (fl s) s s := by
  have h := exact_dn (D := 1) (N := sval s * ((1 : Nat) : Int)) (by decide) hf rfl
  rw [fl_un s 1 (by decide)]
  exact bt_of (by decide) h.1 h.2
theorem bes_d {d u o : Nat} (h : BesOk d u o) : BesOk d u d := by
  rcases h with ⟨a, b, _⟩ | ⟨a, b, _, _, g⟩
  · exact .inl ⟨a, b, a⟩
  · exact .inr ⟨a, b, a, .inl rfl, g⟩
theorem RfIs.facts {q : Rat} {d u : Nat} (h : RfIs q d u) : Bt q d u ∧ BesOk d u d ∧ d < 18446744073709551616 ∧ u < 18446744073709551616 := by
  rcases h with ⟨hz, rfl, rfl⟩ | ⟨_, hs, o, l, ho, hm, rfl, rfl⟩
  · have hq : q = 0 := Rat.num_eq_zero.1 hz
    have e : fl 0 = 0 := fl_zero (by decide)
    refine ⟨by rw [hq, ← e]; exact bt_self (by decide), bes_same (.inl ⟨by decide, rfl⟩), by decide, by decide⟩
  · have := lohi_lt l ho hm
    exact ⟨hs.bt, bes_d (bes_about l ho hm), this.1, this.2⟩
theorem RfIs.own {v d u : Nat} (h : RfIs (fl v) d u) (hf : mg v < 9218868437227405312) : key d = key v ∧ key u = key v ∧ mg d < 9218868437227405312 ∧ mg u < 9218868437227405312 ∧ (mg v = 0 → d = 0) := by
  rcases h with ⟨hz, rfl, rfl⟩ | ⟨hz, hs, _⟩
  · have e := (cmpQ_fl (fl v) v).1.1 ((cmpQ_zero _ _).2 rfl)
    rw [hz, Int.zero_mul] at e
    have hD := (fl v).den_pos
    have h0 : sval v = 0 := by
      rcases Int.mul_eq_zero.1 e with g | g
      · exact g
      · omega
    have k : key v = key 0 := sval_key.1 (h0.trans (by decide +kernel))
    exact ⟨k.symm, k.symm, by decide, by decide, fun _ => rfl⟩
  · have o := hs.own hf
    exact ⟨o.1, o.2.1, o.2.2.1, o.2.2.2, fun e => absurd (by rw [fl_zero e]; rfl) hz⟩
theorem worth1_no {a p : Nat} {W : World} (K : Box W p [.float .f64 a]) (ha : a < 18446744073709551616) (hn : 9218868437227405312 ≤ mg a) :
    Calls Tryz.prog 12 #[.slice (some ⟨p, 0, none⟩) 1 1] W (fun e w' => e = .returned (.tuple #[.slice none 0 0, .bool false]) ∧ Below W.heap.size W w') := by
  refine (worth_any [a] ⟨p, 0, none⟩ W K.lt (fun j x h => K.at_ j _ (by
    match j, h with
    | 0, h => cases h; rfl
    | j + 1, h => simp at h)) (fun x hx => by simp at hx; rcases hx with rfl; omega) (by simp)).mono ?_
  rintro _ w' ⟨⟨_, rfl⟩ | ⟨v, rfl, fs, hfl, hfin, hff, hrow⟩, hb2⟩
  · exact ⟨rfl, hb2⟩
  · have := hfin 0 a (by simp) rfl
    omega
theorem sub_none {s : Nat} (h : 9218868437227405312 ≤ mg s) : double.sub s s = none := by
  unfold Format.sub
  rcases Nat.lt_or_eq_of_le h with k | k
  · rw [read_nan s k]; rfl
  · rw [read_inf s k.symm]
    cases ng s <;> rfl
set_option maxHeartbeats 8000000 in
set_option maxRecDepth 100000 in
theorem near_fin {f : Fv} {v : Nat} {w : World} (X : Fx w f) (hv : v < 18446744073709551616 ∧ mg v < 9218868437227405312) :
    Calls Tryz.prog 3 #[fv f, .float .f64 v] w (fun e w' => e = .returned (.bool true) ∧ Below w.heap.size w w') := by
  have HV := Lib.hid hv
  clear hv
  have BW : Below w.heap.size w w := Below.refl _ _
  obtain ⟨V1, e2, hb3, K4, -, -⟩ := alloc_new w [.bool f.n, .slice f.A f.xs.length f.c, .bool f.m, .slice f.B f.ds.length f.d] 26
  replace X := X.kp (Kept.of hb3)
  replace BW := BW.trans (hb3.mono BW.size)
  clear hb3
  go_enter Tryz.func3, Tryz.ntmps3
  go_wp2_with fail
  rw [← e2]
  clear e2
  refine (alive_any _).mono ?_
  rintro _ w5 ⟨rfl, hb⟩
  replace K4 := K4.on hb
  replace X := X.kp (Kept.of hb)
  replace BW := BW.trans (hb.mono BW.size)
  clear hb
  obtain ⟨c6, c7, c8, c9⟩ := K4.c4
  go_wp2_with fail
  clear c6 c7 c8 c9
  refine (f_cost).mono ?_
  rintro _ w10 ⟨⟨k, rfl⟩, hb⟩
  replace K4 := K4.on hb
  replace X := X.kp (Kept.of hb)
  replace BW := BW.trans (hb.mono BW.size)
  clear hb
  obtain ⟨V11, e12, hb13, K14, -, -⟩ := alloc_new w10 [.int .i64 k] 3
  replace K4 := K4.on hb13
  replace X := X.kp (Kept.of hb13)
  replace BW := BW.trans (hb13.mono BW.size)
  clear hb13
  go_wp2_with fail
  rw [← e12]
  clear e12
  generalize w10.heap.size = b15 at *
  refine (beyond_one K14).mono ?_
  rintro _ w16 ⟨⟨bb, rfl⟩, hb⟩
  replace K4 := K4.on hb
  replace X := X.kp (Kept.of hb)
  replace BW := BW.trans (hb.mono BW.size)
  clear hb
  cases bb with
  | true =>
    go_wp2_with fail
    refine (alive_any _).mono ?_
    rintro _ w17 ⟨rfl, hb⟩
    replace K4 := K4.on hb
    replace X := X.kp (Kept.of hb)
    replace BW := BW.trans (hb.mono BW.size)
    clear hb
    go_wp2_with fail
    exact bodyPost_ret (v := .bool true) (by simp [results, Tryz.results3, go_sem]) rfl ⟨rfl, BW⟩
  | false =>
    obtain ⟨c17, c18, c19, c20⟩ := K4.c4
    go_wp2_with fail
    clear c17 c18 c19 c20
    refine (r_check X).mono ?_
    rintro _ w21 ⟨rfl, hb⟩
    replace K4 := K4.on hb
    replace X := X.kp (Kept.of hb)
    replace BW := BW.trans (hb.mono BW.size)
    clear hb
    go_upto_if 26 with fail
    go_cut [4] (fun s4 wx => s4 = .bool false ∧ Below w.heap.size w wx)
    case first =>
      by_cases hok : okv f
      · rw [chkv_ok hok]
        obtain ⟨q, L⟩ : ∃ q, Ff w21 q f := okv.ff hok X
        obtain ⟨c22, c23, c24, c25⟩ := K4.c4
        go_wp2_with fail
        clear c22 c23 c24 c25
        refine (rfrac_any L).mono ?_
        rintro _ w26 ⟨d, u, rfl, hR, hb⟩
        replace K4 := K4.on hb
        replace L := L.kp (Kept.of hb)
        replace BW := BW.trans (hb.mono BW.size)
        clear hb
        obtain ⟨hB, hS, hd, hu⟩ := hR.facts
        have HF := Lib.hid (And.intro hB (And.intro hS (And.intro hd hu)))
        clear hB hS hd hu hR
        obtain ⟨c27, c28, c29, c30⟩ := K4.c4
        go_wp2_with fail
        clear c27 c28 c29 c30
        refine (between_any L HF.out.2.2.1 HF.out.2.2.2 HF.out.1).mono ?_
        rintro _ w31 ⟨rfl, hb⟩
        replace BW := BW.trans (hb.mono BW.size)
        clear hb
        go_wp2_with fail
        refine (beside_any d u d _ HF.out.2.1 HF.out.2.2.1 HF.out.2.2.2).mono ?_
        rintro _ w_ ⟨rfl, rfl⟩
        go_wp2
        go_meet
        exact ⟨rfl, BW⟩
      · rw [chkv_bad hok]
        go_wp2
        go_meet
        exact ⟨rfl, BW⟩
    case rest =>
      as_aux_lemma =>
        clear BW X
        obtain ⟨rfl, BW⟩ := hcut
        obtain ⟨V22, e23, hb24, K25, -, -⟩ := alloc_new wc [.float .f64 v] 27
        replace BW := BW.trans (hb24.mono BW.size)
        clear hb24
        go_wp2_with fail
        rw [← e23]
        clear e23
        generalize wc.heap.size = b26 at *
        refine (worth1 K25 HV.out).mono ?_
        rintro _ w27 ⟨g, cap, f0, rfl, L0, KR, hb⟩
        replace BW := BW.trans (hb.mono BW.size)
        clear hb
        obtain ⟨c28, c29, c30, c31⟩ := KR.c4
        go_wp2_with fail
        clear c28 c29 c30 c31
        refine (rfrac_any L0).mono ?_
        rintro _ w32 ⟨d, u, rfl, hR, hb⟩
        replace BW := BW.trans (hb.mono BW.size)
        clear hb
        have hd := hR.facts.2.2.1
        obtain ⟨k1, k2, m1, m2, hz⟩ := hR.own HV.out.2
        have o1 : (FloatKind.f64.format.order d v == some .eq) = true := by rw [ord_eq]; exact decide_eq_true ⟨by omega, by have := HV.out.2; omega, k1⟩
        have o2 : (FloatKind.f64.format.order u v == some .eq) = true := by rw [ord_eq]; exact decide_eq_true ⟨by omega, by have := HV.out.2; omega, k2⟩
        have o3 : (FloatKind.f64.format.order d v != some .eq) = false := by rw [bne, o1]; rfl
        have o4 : (FloatKind.f64.format.order u v != some .eq) = false := by rw [bne, o2]; rfl
        have o5 := eq_zero v
        clear o1 o2 hR k1 k2 m1 m2
        by_cases h0 : mg v = 0
        · as_aux_lemma =>
            rw [decide_eq_true h0] at o5
            obtain rfl := hz h0
            clear hz
            go_wp2_with fail
            refine (signbit_any 0 _ (by decide)).mono ?_
            rintro _ w_ ⟨rfl, rfl⟩
            rw [show ng 0 = false from by decide]
            clear o3 o4 o5
            obtain ⟨a1, a2, a3, a4, a5, a6⟩ := nextf_fin HV.out.1 HV.out.2 true
            obtain ⟨b1, b2, b3, b4, b5, b6⟩ := nextf_fin HV.out.1 HV.out.2 false
            rw [Bool.not_true] at a4 a5 a6
            rw [Bool.not_false] at b4 b5 b6
            simp only [if_true] at a3
            simp only [Bool.false_eq_true, if_false] at b3
            have H1 := Lib.hid (fun W => next_any v true W HV.out.1)
            have H2 := Lib.hid (fun W => next_any v false W HV.out.1)
            have H3 := Lib.hid (fun W => next_any (nextf v true) false W a1)
            have H4 := Lib.hid (fun W => next_any (nextf v false) true W b1)
            obtain ⟨un, hun⟩ : ∃ x, nextf v true = x := ⟨_, rfl⟩
            obtain ⟨dn, hdn⟩ : ∃ x, nextf v false = x := ⟨_, rfl⟩
            rw [hun] at a1 a2 a3 a4 a5 a6 H1 H3
            rw [hdn] at b1 b2 b3 b4 b5 b6 H2 H4
            obtain ⟨bu, hbu⟩ : ∃ x, nextf un false = x := ⟨_, rfl⟩
            obtain ⟨bd, hbd⟩ : ∃ x, nextf dn true = x := ⟨_, rfl⟩
            rw [hbu] at a4 a5 a6 H3
            rw [hbd] at b4 b5 b6 H4
            have hvm : mg v ≤ 9218868437227405312 := by have := HV.out.2; omega
            have o1 : (FloatKind.f64.format.order dn v == some .lt) = true := by rw [ord_lt]; exact decide_eq_true ⟨b2, hvm, by omega⟩
            have o2 : (FloatKind.f64.format.order v un == some .lt) = true := by rw [ord_lt]; exact decide_eq_true ⟨hvm, a2, by omega⟩
            have o3 : (FloatKind.f64.format.order bu v == some .eq) = true := by rw [ord_eq]; exact decide_eq_true ⟨a5, hvm, a6⟩
            have o4 : (FloatKind.f64.format.order bd v == some .eq) = true := by rw [ord_eq]; exact decide_eq_true ⟨b5, hvm, b6⟩
            clear a1 a2 a3 a4 a5 a6 b1 b2 b3 b4 b5 b6 hun hdn hbu hbd hvm
            go_wp2_with fail
            refine (H1.out _).mono ?_
            rintro _ w_ ⟨rfl, rfl⟩
            go_wp2_with fail
            refine (H2.out _).mono ?_
            rintro _ w_ ⟨rfl, rfl⟩
            go_wp2_with fail
            refine (H3.out _).mono ?_
            rintro _ w_ ⟨rfl, rfl⟩
            go_wp2_with fail
            refine (H4.out _).mono ?_
            rintro _ w_ ⟨rfl, rfl⟩
            go_wp2
            exact bodyPost_ret (v := .bool true) (by simp [results, Tryz.results3, go_sem]) rfl ⟨rfl, BW⟩
        · as_aux_lemma =>
            rw [decide_eq_false h0] at o5
            clear hz hd
            go_upto_region 13 with fail
            clear o3 o4 o5
            obtain ⟨a1, a2, a3, a4, a5, a6⟩ := nextf_fin HV.out.1 HV.out.2 true
            obtain ⟨b1, b2, b3, b4, b5, b6⟩ := nextf_fin HV.out.1 HV.out.2 false
            rw [Bool.not_true] at a4 a5 a6
            rw [Bool.not_false] at b4 b5 b6
            simp only [if_true] at a3
            simp only [Bool.false_eq_true, if_false] at b3
            have H1 := Lib.hid (fun W => next_any v true W HV.out.1)
            have H2 := Lib.hid (fun W => next_any v false W HV.out.1)
            have H3 := Lib.hid (fun W => next_any (nextf v true) false W a1)
            have H4 := Lib.hid (fun W => next_any (nextf v false) true W b1)
            obtain ⟨un, hun⟩ : ∃ x, nextf v true = x := ⟨_, rfl⟩
            obtain ⟨dn, hdn⟩ : ∃ x, nextf v false = x := ⟨_, rfl⟩
            rw [hun] at a1 a2 a3 a4 a5 a6 H1 H3
            rw [hdn] at b1 b2 b3 b4 b5 b6 H2 H4
            obtain ⟨bu, hbu⟩ : ∃ x, nextf un false = x := ⟨_, rfl⟩
            obtain ⟨bd, hbd⟩ : ∃ x, nextf dn true = x := ⟨_, rfl⟩
            rw [hbu] at a4 a5 a6 H3
            rw [hbd] at b4 b5 b6 H4
            have hvm : mg v ≤ 9218868437227405312 := by have := HV.out.2; omega
            have o1 : (FloatKind.f64.format.order dn v == some .lt) = true := by rw [ord_lt]; exact decide_eq_true ⟨b2, hvm, by omega⟩
            have o2 : (FloatKind.f64.format.order v un == some .lt) = true := by rw [ord_lt]; exact decide_eq_true ⟨hvm, a2, by omega⟩
            have o3 : (FloatKind.f64.format.order bu v == some .eq) = true := by rw [ord_eq]; exact decide_eq_true ⟨a5, hvm, a6⟩
            have o4 : (FloatKind.f64.format.order bd v == some .eq) = true := by rw [ord_eq]; exact decide_eq_true ⟨b5, hvm, b6⟩
            clear a1 a2 a3 a4 a5 a6 b1 b2 b3 b4 b5 b6 hun hdn hbu hbd hvm
            go_wp2_with fail
            refine (H1.out _).mono ?_
            rintro _ w_ ⟨rfl, rfl⟩
            go_wp2_with fail
            refine (H2.out _).mono ?_
            rintro _ w_ ⟨rfl, rfl⟩
            go_wp2_with fail
            refine (H3.out _).mono ?_
            rintro _ w_ ⟨rfl, rfl⟩
            go_wp2_with fail
            refine (H4.out _).mono ?_
            rintro _ w_ ⟨rfl, rfl⟩
            go_wp2
            exact bodyPost_ret (v := .bool true) (by simp [results, Tryz.results3, go_sem]) rfl ⟨rfl, BW⟩
set_option maxHeartbeats 8000000 in
set_option maxRecDepth 100000 in
theorem near_no {f : Fv} {v : Nat} {w : World} (X : Fx w f) (hv : v < 18446744073709551616 ∧ 9218868437227405312 ≤ mg v) :
    Calls Tryz.prog 3 #[fv f, .float .f64 v] w (fun e w' => e = .returned (.bool true) ∧ Below w.heap.size w w') := by
  have HV := Lib.hid hv
  have HT : Hid (∀ W X : World, Calls Tryz.prog 13 #[.float .f64 (fop .sub v v W)] X fun x w' => x = .returned (.bool true) ∧ w' = X) := Lib.hid (fun W X => by
    have := isNaN_any (fop .sub v v W) X
    rwa [decide_eq_true (nan_all (op := .sub) (sub_none hv.2) W)] at this)
  clear hv
  have BW : Below w.heap.size w w := Below.refl _ _
  obtain ⟨V1, e2, hb3, K4, -, -⟩ := alloc_new w [.bool f.n, .slice f.A f.xs.length f.c, .bool f.m, .slice f.B f.ds.length f.d] 26
  replace X := X.kp (Kept.of hb3)
  replace BW := BW.trans (hb3.mono BW.size)
  clear hb3
  go_enter Tryz.func3, Tryz.ntmps3
  go_wp2_with fail
  rw [← e2]
  clear e2
  refine (alive_any _).mono ?_
  rintro _ w5 ⟨rfl, hb⟩
  replace K4 := K4.on hb
  replace X := X.kp (Kept.of hb)
  replace BW := BW.trans (hb.mono BW.size)
  clear hb
  obtain ⟨c6, c7, c8, c9⟩ := K4.c4
  go_wp2_with fail
  clear c6 c7 c8 c9
  refine (f_cost).mono ?_
  rintro _ w10 ⟨⟨k, rfl⟩, hb⟩
  replace K4 := K4.on hb
  replace X := X.kp (Kept.of hb)
  replace BW := BW.trans (hb.mono BW.size)
  clear hb
  obtain ⟨V11, e12, hb13, K14, -, -⟩ := alloc_new w10 [.int .i64 k] 3
  replace K4 := K4.on hb13
  replace X := X.kp (Kept.of hb13)
  replace BW := BW.trans (hb13.mono BW.size)
  clear hb13
  go_wp2_with fail
  rw [← e12]
  clear e12
  generalize w10.heap.size = b15 at *
  refine (beyond_one K14).mono ?_
  rintro _ w16 ⟨⟨bb, rfl⟩, hb⟩
  replace K4 := K4.on hb
  replace X := X.kp (Kept.of hb)
  replace BW := BW.trans (hb.mono BW.size)
  clear hb
  cases bb with
  | true =>
    go_wp2_with fail
    refine (alive_any _).mono ?_
    rintro _ w17 ⟨rfl, hb⟩
    replace K4 := K4.on hb
    replace X := X.kp (Kept.of hb)
    replace BW := BW.trans (hb.mono BW.size)
    clear hb
    go_wp2_with fail
    exact bodyPost_ret (v := .bool true) (by simp [results, Tryz.results3, go_sem]) rfl ⟨rfl, BW⟩
  | false =>
    obtain ⟨c17, c18, c19, c20⟩ := K4.c4
    go_wp2_with fail
    clear c17 c18 c19 c20
    refine (r_check X).mono ?_
    rintro _ w21 ⟨rfl, hb⟩
    replace K4 := K4.on hb
    replace X := X.kp (Kept.of hb)
    replace BW := BW.trans (hb.mono BW.size)
    clear hb
    go_upto_if 26 with fail
    go_cut [4] (fun s4 wx => s4 = .bool false ∧ Below w.heap.size w wx)
    case first =>
      by_cases hok : okv f
      · rw [chkv_ok hok]
        obtain ⟨q, L⟩ : ∃ q, Ff w21 q f := okv.ff hok X
        obtain ⟨c22, c23, c24, c25⟩ := K4.c4
        go_wp2_with fail
        clear c22 c23 c24 c25
        refine (rfrac_any L).mono ?_
        rintro _ w26 ⟨d, u, rfl, hR, hb⟩
        replace K4 := K4.on hb
        replace L := L.kp (Kept.of hb)
        replace BW := BW.trans (hb.mono BW.size)
        clear hb
        obtain ⟨hB, hS, hd, hu⟩ := hR.facts
        have HF := Lib.hid (And.intro hB (And.intro hS (And.intro hd hu)))
        clear hB hS hd hu hR
        obtain ⟨c27, c28, c29, c30⟩ := K4.c4
        go_wp2_with fail
        clear c27 c28 c29 c30
        refine (between_any L HF.out.2.2.1 HF.out.2.2.2 HF.out.1).mono ?_
        rintro _ w31 ⟨rfl, hb⟩
        replace BW := BW.trans (hb.mono BW.size)
        clear hb
        go_wp2_with fail
        refine (beside_any d u d _ HF.out.2.1 HF.out.2.2.1 HF.out.2.2.2).mono ?_
        rintro _ w_ ⟨rfl, rfl⟩
        go_wp2
        go_meet
        exact ⟨rfl, BW⟩
      · rw [chkv_bad hok]
        go_wp2
        go_meet
        exact ⟨rfl, BW⟩
    case rest =>
      as_aux_lemma =>
        clear BW X
        obtain ⟨rfl, BW⟩ := hcut
        obtain ⟨V22, e23, hb24, K25, -, -⟩ := alloc_new wc [.float .f64 v] 27
        replace BW := BW.trans (hb24.mono BW.size)
        clear hb24
        go_wp2_with fail
        rw [← e23]
        clear e23
        generalize wc.heap.size = b26 at *
        refine (worth1_no K25 HV.out.1 HV.out.2).mono ?_
        rintro _ w27 ⟨rfl, hb⟩
        replace BW := BW.trans (hb.mono BW.size)
        clear hb
        have hsub := fun t x y W => run_sub (P := Tryz.prog) t x y W
        have BD : Hid (∀ n : Nat, Below w.heap.size w (w27.drewN n)) := Lib.hid (fun n => below_dn BW n)
        clear BW
        go_wp2_with fail
        refine (HT.out _ _).mono ?_
        rintro _ w_ ⟨rfl, rfl⟩
        go_wp2
        go_ret
        exact ⟨rfl, BD.out _⟩
theorem near_walk {f : Fv} {v : Nat} {w : World} (X : Fx w f) (hv : v < 18446744073709551616) : Calls Tryz.prog 3 #[fv f, .float .f64 v] w (fun e w' => e = .returned (.bool true) ∧ Below w.heap.size w w') := by
  rcases Nat.lt_or_ge (mg v) 9218868437227405312 with h | h
  · exact near_fin X ⟨hv, h⟩
  · exact near_no X ⟨hv, h⟩
end Go.Proofs.YtghcoijinihlnaaGreat

namespace Go.Proofs.YtghcoijinihlnaaGreat.roundNear
open Go.ChangeShapes Go.WideShapes Go.ChangeAt Go.RowKit Nb Fl
set_option linter.unusedVariables false

theorem wfl {b : Nat} (h : (Lit.float .f64 b).wf = true) : b < 18446744073709551616 := by simpa [Lit.wf] using h
set_option maxRecDepth 100000 in
theorem lifted (os : Os) (started : os.Started) (H : Type) (enc : TypeId × Value → H) :
    ReturnsInHanded {} Tryz.checked os 3 .any (Rows.roundNearSpec.pre6 enc Tryz.prog Tryz.f3 Rows.roundNearRow.domain false) (Rows.roundNearSpec.post enc Tryz.prog Tryz.f3 false true false false) := by
  refine returnsInHanded_of_change_sized (C := Tryz.checked) own started (by kernel_rfl) Tryz.func3
    (ChangeSpec.witness6 (enc := enc) (C := Tryz.checked) false ⟨#[], #[.agg #[.bool false, .slice none 0 0, .bool false, .slice none 0 0], .float .f64 0], []⟩ 8 (by kernel_rfl) (by kernel_rfl) (by kernel_rfl) (by kernel_rfl)) ?_
  intro W base args ds gs before hval0 hW _ hsz0 _
  have hsz : (DataW.weightsEach Tryz.prog (Tryz.f3.params.toList ++ Rows.roundNearSpec.plain.varTypes Tryz.prog) (ds ++ gs)).all (· ≤ reachBytes) = true := hsz0
  clear hsz0
  have hval : ∀ (j : Nat) t v, Tryz.f3.params[j]? = some t → args[j]? = some v → Value.okWide Tryz.prog W .any base t v := hval0
  have hW' := hW
  obtain ⟨p, q, hA0, hV, rfl, _, _⟩ := hW
  have hA : DataW.TrodAll enc Tryz.prog W 0 (fun _ => true) true Tryz.f3.params.toList args.toList ds p := hA0
  rw [Tryz.params3] at hA hval hsz
  obtain ⟨v0, v1, d0, d1, p0, p1, rfl, rfl, rfl, h0, h1⟩ := trodAll_two hA
  obtain ⟨rfl, rfl⟩ := trodVars_none hV
  clear hA0
  simp only [List.append_nil] at hW'
  have hlt0 : ∀ x ∈ p0, x.block < W.heap.size := fun x hx => by simpa using hW'.lt x (by simp [hx])
  have hw0 : ∀ n ∈ d0.weights Tryz.prog 26, n ≤ reachBytes := fun n hn => by
    have := List.all_eq_true.1 hsz _ (DataW.weights_mem_each (j := 0) rfl rfl n hn)
    simpa using this
  have k0 := h0
  obtain ⟨f0, rfl, r0⟩ := open_fv (hval 0 26 v0 rfl rfl) h0 hlt0 hw0
  obtain ⟨a1, rfl, rfl, rfl, k1⟩ := open_float Tryz.underlying27 (hval 1 27 v1 rfl rfl) h1
  refine (near_walk r0 (wfl k1)).mono fun e W' ⟨he, hg⟩ => ?_
  subst he
  refine ⟨_, rfl, _, _, _, [], p0 ++ ([]), [], hW', ?_, ?_, rfl, hg.frame _, fun h => by cases h⟩
  · exact trodAll_cons_mk (shut_bool Tryz.underlying4 _) trodAll_mk0
  · exact trodAll_mk2 (Below.trod laidOut (by kernel_rfl) (of_decide_eq_true (by kernel_rfl)) k0 hg hlt0) (shut_float Tryz.underlying27 k1)

theorem over : Rows.roundNearRow.holds Tryz.pinned (OpenSpec.ofChange Rows.roundNearSpec) :=
  OpenClaim.holds_of_wide 3 Tryz.f3 rfl rfl rfl rfl rfl rfl rfl ⟨rfl, rfl, rfl, rfl, rfl⟩ rfl rfl rfl rfl rfl (by kernel_rfl) Tryz.func3 (by kernel_rfl)
    (of_decide_eq_true (by kernel_rfl)) (by unfold Func.isWrapper; first | (rw [if_pos (by decide +kernel)]; kernel_rfl) | (rw [if_neg (by decide +kernel)]; exact ⟨rfl, rfl⟩))
    (fun os started H enc _ => lifted os started H enc)

theorem proved : Rows.RoundNearSaid := over
end Go.Proofs.YtghcoijinihlnaaGreat.roundNear
