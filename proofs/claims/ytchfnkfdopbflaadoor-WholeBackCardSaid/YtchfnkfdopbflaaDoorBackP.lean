/-
  For every two numbers and every text that are handed in, may the numbers be or not: a number's text is read back as that number, and a text that is read as a number is that number's text (WholeBack). No conditions but what the row lists.
-/
import Derived.Test.YtchfnkfdopbflaaDoorBk0
import Derived.Test.YtchfnkfdopbflaaDoorDu
import Derived.Test.YtchfnkfdopbflaaDoorRow
import Derived.Test.YtchfnkfdopbflaaDoorTie
import Derived.Test.YtchfnkfdopbflaaDoorCards
import Derived.ChangeMaps5
namespace Go.Proofs.YtchfnkfdopbflaaDoor
open Go.RowKit Nb
set_option linter.unusedSimpArgs false

set_option maxHeartbeats 4000000 in
set_option maxRecDepth 20000 in
theorem back_walk (n1 n2 : Bool) (A B : Option Addr) (xs ys : List Nat) (c d : Nat) (s : ByteArray) (w : World) (hr : Sl .u32 w w.heap.size A xs) (hs : Sl .u32 w w.heap.size B ys) (hx : Dig W32 xs) (hy : Dig W32 ys) (hsz : s.size ≤ 9223372036854775807) (htab : Tab w) :
    Calls Tryd.prog 10 #[big n1 A xs.length c, big n2 B ys.length d, .string s] w fun e w' => e = .returned (.bool true) ∧ Below w.heap.size w w' := by
  obtain ⟨W, hW, hbW, hzW, R1, R2⟩ := raw_two (n1 := n1) (n2 := n2) (c := c) (d := d) hr hs
  have HT := Lib.hid htab
  have HW := Lib.hid hW
  obtain ⟨b1, hb1⟩ := is_bool (Ok n1 xs)
  obtain ⟨b2, hb2⟩ := is_bool (Ok n2 ys)
  have H1 := Lib.hid hb1
  have H2 := Lib.hid hb2
  clear htab hW hb1 hb2 hr hs
  go_enter Tryd.func10, Tryd.ntmps10
  go_wp2_with fail
  rw [← HW.out]
  refine (alive_any W (tab_below HT.out hbW)).mono ?_
  rintro e1 w1 ⟨rfl, q1⟩
  have R1 := R1.on q1
  have R2 := R2.on q1
  have B1 := hbW.trans (q1.mono hbW.size)
  clear q1 hbW hzW HW
  have a0 := R1.c0
  have a1 := R1.c1
  have a2 := R2.c0
  have a3 := R2.c1
  go_wp2_with fail
  have hal : Below w1.heap.size w1 (w1.alloc (.cells #[.bool n1, .slice A xs.length c, .bool n2, .slice B ys.length d] 24)) := by go_grown
  have S1 := (R1.on hal).sl
  have S2 := (R2.on hal).sl
  refine (may_2 w1.heap.size 2 n1 A xs.length c b1 n2 B ys.length d b2 _ (kind_of n1 A xs _ _ S1 b1 H1.out) (kind_of n2 B ys _ _ S2 b2 H2.out) (by go_cell) (by go_cell) (by go_cell) (by go_cell)).mono ?_
  rintro e2 w2 ⟨rfl, q2⟩
  have q2 := Below.trans hal (q2.mono hal.size)
  have R1 := R1.on q2
  have R2 := R2.on q2
  have B2 := B1.trans (q2.mono B1.size)
  clear a0 a1 a2 a3 hal S1 S2 q2 B1
  by_cases ho : (b1 && b2) = true
  · have ho2 : b1 = true ∧ b2 = true := by simpa [Bool.and_eq_true] using ho
    have o1 := H1.out.1 ho2.1
    have o2 := H2.out.1 ho2.2
    have KX := R1.held hx o1
    have KY := R2.held hy o2
    rw [ho]
    clear ho ho2 H1 H2 R1 R2
    have HO := Lib.hid (And.intro o1 o2)
    clear o1 o2
    obtain ⟨bb, hbb⟩ := is_bool (1048576 < s.size)
    have HBB := Lib.hid hbb
    clear hbb
    have hal : Below w2.heap.size w2 (w2.alloc (.cells #[.int .i64 (s.size : Nat)] 3)) := (Below.refl _ _).alloc (Nat.le_refl _) _
    have cb : (w2.alloc (.cells #[.int .i64 (s.size : Nat)] 3)).cell? ⟨w2.heap.size, 0, none⟩ = some (.int .i64 (s.size : Nat)) := by go_cell
    go_wp2_with fail
    refine (beyond_1 w2.heap.size 1 s.size bb _ cb hsz HBB.out).mono ?_
    rintro e3 w3 ⟨rfl, rfl⟩
    have KX := KX.on hal
    have KY := KY.on hal
    have B3 := B2.trans (hal.mono B2.size)
    clear cb hal B2
    cases bb
    · obtain ⟨z1, hz1⟩ : ∃ z1 : ByteArray, (⟨(txt n1 (val W32 xs)).toArray⟩ : ByteArray) = z1 := ⟨_, rfl⟩
      obtain ⟨z2, hz2⟩ : ∃ z2 : ByteArray, (⟨(txt n2 (val W32 ys)).toArray⟩ : ByteArray) = z2 := ⟨_, rfl⟩
      have el1 : z1.data.toList = txt n1 (val W32 xs) := by rw [← hz1]
      have el2 : z2.data.toList = txt n2 (val W32 ys) := by rw [← hz2]
      obtain ⟨q, hq⟩ : ∃ q, decide (n1 = n2 ∧ xs = ys) = q := ⟨_, rfl⟩
      have hzq : (z1.toList == z2.toList) = q := by
        rw [ByteArray.toList_eq, ByteArray.toList_eq, el1, el2, ← hq]
        by_cases h : n1 = n2 ∧ xs = ys
        · obtain ⟨rfl, rfl⟩ := h; simp
        · rw [decide_eq_false h]
          refine beq_false_of_ne fun e => h ?_
          exact (sv_inj HO.out.1 HO.out.2 hx hy (txt_inj (lm_pos HO.out.1) (lm_pos HO.out.2) e))
      have HZ := Lib.hid (And.intro (And.intro hz1 hz2) (And.intro el1 el2))
      have HQ := Lib.hid (And.intro hq hzq)
      have BF := B3
      clear B3 hz1 hz2 el1 el2 hq hzq
      generalize (w2.alloc (.cells #[.int .i64 (s.size : Nat)] 3)) = W3 at *
      have T1 := wtext_any n1 A xs c W3 KX.lm (tab_below HT.out BF)
      rw [HZ.out.1.1] at T1
      have HT1 := Lib.hid T1
      clear T1
      have a0 := KX.c0
      have a1 := KX.c1
      have a2 := KY.c0
      have a3 := KY.c1
      go_wp2_with fail
      refine (HT1.out).mono ?_
      rintro e4 w4 ⟨rfl, b4⟩
      have KX := KX.on b4
      have KY := KY.on b4
      have BF := BF.trans (b4.mono BF.size)
      clear b4 HT1 a0 a1 a2 a3
      have T2 := wtext_any n2 B ys d w4 KY.lm (tab_below HT.out BF)
      rw [HZ.out.1.2] at T2
      have HT2 := Lib.hid T2
      clear T2
      have a0 := KX.c0
      have a1 := KX.c1
      have a2 := KY.c0
      have a3 := KY.c1
      go_wp2_with fail
      refine (HT2.out).mono ?_
      rintro e5 w5 ⟨rfl, b5⟩
      have KX := KX.on b5
      have KY := KY.on b5
      have BF := BF.trans (b5.mono BF.size)
      clear b5 HT2 a0 a1 a2 a3
      have hl1 : (txt n1 (val W32 xs)).length ≤ 65536 := txt_len hx HO.out.1.len
      have hzl : z1.size ≤ maxLen := by
        have h5 : z1.data.toList.length = z1.size := by simp
        rw [HZ.out.2.1] at h5
        unfold maxLen; omega
      have P1 := Lib.hid (wparse_any z1 w5 hzl)
      have HL1 := Lib.hid hl1
      clear hl1 hzl
      go_wp2_with fail
      refine (P1.out).mono ?_
      rintro e6 w6 ⟨nb, Vb, lb, kb, er, rfl, mb, sb, b6⟩
      obtain ⟨rfl, hvb⟩ : er = 0 ∧ sv nb (val W32 lb) = sv n1 (val W32 xs) := by
        have hn := txt_num (lm_pos HO.out.1)
        rcases sb with ⟨h, _, _, _, hv⟩ | ⟨_, _, _, h⟩
        · rw [HZ.out.2.1, hn.2] at hv; exact ⟨h, hv⟩
        · refine absurd ⟨by rw [HZ.out.2.1]; exact HL1.out, by rw [HZ.out.2.1]; exact hn.1, ?_⟩ h
          rw [HZ.out.2.1, hn.2]; exact fits_lm hx HO.out.1
      have HVB := Lib.hid hvb
      clear hvb sb P1
      have bb : Below w5.heap.size w5 (w6.alloc (.cells #[.bool nb, .slice Vb lb.length kb] 24)) := b6.alloc b6.size _
      have KX := KX.on bb
      have KY := KY.on bb
      have KB : Held (w6.alloc (.cells #[.bool nb, .slice Vb lb.length kb] 24)) w6.heap.size nb Vb lb kb := Held.fresh mb
      have BF := BF.trans (bb.mono BF.size)
      clear bb b6 mb
      have a0 := KB.c0
      have a1 := KB.c1
      have a2 := KX.c0
      have a3 := KX.c1
      have a4 := KY.c0
      have a5 := KY.c1
      go_wp2_with fail
      generalize (w6.alloc (.cells #[.bool nb, .slice Vb lb.length kb] 24)) = W7 at *
      clear a0 a1 a2 a3 a4 a5
      refine (same_lm W7 KB.lm KX.lm HVB.out).mono ?_
      rintro e7 w7 ⟨rfl, b7⟩
      have KX := KX.on b7
      have KY := KY.on b7
      have KB := KB.on b7
      have BF := BF.trans (b7.mono BF.size)
      clear b7
      have S2 := same_any n1 n2 A B xs ys c d w7 KX.lm.sl KY.lm.sl KX.lm.sz KY.lm.sz
      rw [HQ.out.1] at S2
      have HS2 := Lib.hid S2
      clear S2
      have hzq := HQ.out.2
      have a0 := KX.c0
      have a1 := KX.c1
      have a2 := KY.c0
      have a3 := KY.c1
      go_wp2_with fail
      refine (HS2.out).mono ?_
      rintro e8 w8 ⟨rfl, b8⟩
      have KX := KX.on b8
      have KY := KY.on b8
      have KB := KB.on b8
      have BF := BF.trans (b8.mono BF.size)
      clear b8 HS2 a0 a1 a2 a3
      have P2 := Lib.hid (wparse_any s w8 (by unfold maxLen; omega))
      go_wp2_with fail
      clear hzq
      refine (P2.out).mono ?_
      rintro e9 w9 ⟨nz, Vz, lz, kz, er, rfl, mz, sz, b9⟩
      clear P2
      have bb : Below w8.heap.size w8 (w9.alloc (.cells #[.bool nz, .slice Vz lz.length kz] 24)) := b9.alloc b9.size _
      have KX := KX.on bb
      have KY := KY.on bb
      have KB := KB.on bb
      have KZ : Held (w9.alloc (.cells #[.bool nz, .slice Vz lz.length kz] 24)) w9.heap.size nz Vz lz kz := Held.fresh mz
      have BF := BF.trans (bb.mono BF.size)
      clear bb b9 mz
      rcases sz with ⟨rfl, hsl, hnum, hf, hv⟩ | ⟨her, rfl, rfl, _⟩
      · have HV := Lib.hid (And.intro hnum (And.intro hv hsl))
        clear hnum hv hsl hf
        obtain ⟨z3, hz3⟩ : ∃ z3 : ByteArray, (⟨(txt nz (val W32 lz)).toArray⟩ : ByteArray) = z3 := ⟨_, rfl⟩
        have h3 : (z3.toList == s.toList) = true := by
          rw [ByteArray.toList_eq, ByteArray.toList_eq, ← hz3]
          have := txt_back HV.out.1 HV.out.2.1 (lm_pos KZ.lm.ok)
          show ((txt nz (val W32 lz)) == s.data.toList) = true
          rw [this]; simp
        have T3 := wtext_any nz Vz lz kz _ KZ.lm (tab_below HT.out BF)
        rw [hz3] at T3
        have HT3 := Lib.hid T3
        clear T3 hz3
        have a0 := KZ.c0
        have a1 := KZ.c1
        go_wp2_with fail
        refine (HT3.out).mono ?_
        rintro e10 w10 ⟨rfl, b10⟩
        have KZ := KZ.on b10
        have BF := BF.trans (b10.mono BF.size)
        clear b10 HT3 a0 a1
        have a0 := KZ.c0
        have a1 := KZ.c1
        have hal : Below w10.heap.size w10 (w10.alloc (.cells #[.bool nz, .slice Vz lz.length kz] 24)) := by go_grown
        go_wp2_with fail
        refine (may_1 w10.heap.size 1 nz Vz lz.length kz true _ (kind_of nz Vz lz _ _ (KZ.on hal).lm.sl true (ok_yes KZ.lm.ok)) (by go_cell) (by go_cell)).mono ?_
        rintro e11 w11 ⟨rfl, q11⟩
        have q11 := hal.trans (q11.mono hal.size)
        go_wp2
        go_ret
        exact ⟨rfl, BF.trans (q11.mono BF.size)⟩
      · have SZ : ∀ W : World, Below (w9.alloc (.cells #[.bool false, .slice Vz ([] : List Nat).length kz] 24)).heap.size (w9.alloc (.cells #[.bool false, .slice Vz ([] : List Nat).length kz] 24)) W → Calls Tryd.prog 25 #[big false Vz ([] : List Nat).length kz, big false none ([] : List Nat).length 0] W fun e w' => e = .returned (.bool true) ∧ Below W.heap.size W w' := fun W h => same_lm W (KZ.on h).lm ⟨Sl.none_, Dig.nil _, ok_zero⟩ rfl
        have HSZ := Lib.hid SZ
        clear SZ
        simp only [List.length_nil] at HSZ
        have a0 := KZ.c0
        have a1 := KZ.c1
        simp only [List.length_nil] at a0 a1
        rcases her with rfl | rfl
        all_goals
          go_wp2_with fail
          refine (HSZ.out _ (Below.refl _ _)).mono ?_
          rintro e10 w10 ⟨rfl, b10⟩
          go_wp2
          go_ret
          exact ⟨rfl, BF.trans (b10.mono BF.size)⟩
    · go_wp2_with fail
      refine (alive_any _ (tab_below HT.out B3)).mono ?_
      rintro e3 w3 ⟨rfl, q3⟩
      go_wp2
      go_ret
      exact ⟨rfl, B3.trans (q3.mono B3.size)⟩
  · rw [Bool.not_eq_true] at ho
    rw [ho]
    clear ho H1 H2 R1 R2
    go_wp2_with fail
    refine (alive_any w2 (tab_below HT.out B2)).mono ?_
    rintro e3 w3 ⟨rfl, q3⟩
    go_wp2
    go_ret
    exact ⟨rfl, B2.trans (q3.mono B2.size)⟩
end Go.Proofs.YtchfnkfdopbflaaDoor
namespace Go.Proofs.YtchfnkfdopbflaaDoor.wholeBack
open Go.ChangeShapes Go.WideShapes Go.ChangeAt Go.RowKit Nb
open Go.ChangeMaps (open_string shut_string)
set_option linter.unusedVariables false

set_option maxRecDepth 100000 in
theorem lifted (os : Os) (started : os.Started) (H : Type) (enc : TypeId × Value → H) :
    ReturnsInHanded {} Tryd.checked os 10 .any (fun w args => (Rows.wholeBackSpec.pre enc Tryd.prog Tryd.f10 [] false w args ∧ laidMetH Tryd.prog laidL w) ∧ sizedMet enc Tryd.prog Tryd.f10 (OpenSpec.ofChange Rows.wholeBackSpec) false w args)
      (Rows.wholeBackSpec.post enc Tryd.prog Tryd.f10 false true false false) := by
  refine returnsInHanded_of_change_and (C := Tryd.checked) (X := fun w _ => laidMetH Tryd.prog laidL w) (fun _ _ _ hh h => h.of_heap hh) own started (by kernel_rfl) Tryd.func10
    (ChangeSpec.witness_shaped (enc := enc) (C := Tryd.checked) (os := os) (X := fun w _ => laidMetH Tryd.prog laidL w) false (World.doorLaid Tryd.prog 400 os) #[.agg #[.bool false, .slice none 0 0], .agg #[.bool false, .slice none 0 0], .string ⟨#[]⟩] 8 rfl (World.shaped_of_RefB (by kernel_rfl) (by kernel_rfl)) (by kernel_rfl) (by kernel_rfl) (by kernel_rfl) (door_met os _)) ?_
  intro W base args ds gs before hval0 hW _ hsz0 hL _
  have hsz : (DataW.weightsEach Tryd.prog (Tryd.f10.params.toList ++ Rows.wholeBackSpec.plain.varTypes Tryd.prog) (ds ++ gs)).all (· ≤ reachBytes) = true := hsz0
  clear hsz0
  have hval : ∀ (j : Nat) t v, Tryd.f10.params[j]? = some t → args[j]? = some v → Value.okWide Tryd.prog W .any base t v := hval0
  have hW' := hW
  obtain ⟨p, q, hA0, hV, rfl, _, _⟩ := hW
  have hA : DataW.TrodAll enc Tryd.prog W 0 (fun _ => true) true Tryd.f10.params.toList args.toList ds p := hA0
  rw [Tryd.params10] at hA hval hsz
  obtain ⟨v0, v1, v2, d0, d1, d2, p0, p1, p2, rfl, rfl, rfl, h0, h1, h2⟩ := trodAll_three hA
  obtain ⟨rfl, rfl⟩ := trodVars_none hV
  clear hA0
  simp only [List.append_nil] at hW'
  have hlt0 : ∀ x ∈ p0, x.block < W.heap.size := fun x hx => by simpa using hW'.lt x (by simp [hx])
  have hlt1 : ∀ x ∈ p1, x.block < W.heap.size := fun x hx => by simpa using hW'.lt x (by simp [hx])
  have hw0 : ∀ n ∈ d0.weights Tryd.prog 24, n ≤ reachBytes := fun n hn => by
    have := List.all_eq_true.1 hsz _ (DataW.weights_mem_each (j := 0) rfl rfl n hn)
    simpa using this
  have hw1 : ∀ n ∈ d1.weights Tryd.prog 24, n ≤ reachBytes := fun n hn => by
    have := List.all_eq_true.1 hsz _ (DataW.weights_mem_each (j := 1) rfl rfl n hn)
    simpa using this
  have k0 := h0
  have k1 := h1
  obtain ⟨n1, A, xs, c, rfl, hr, hx, hNA, hl⟩ := open_bigint (hval 0 24 v0 rfl rfl) h0 hlt0 hw0
  obtain ⟨n2, B, ys, d, rfl, hs, hy, hNB, hk⟩ := open_bigint (hval 1 24 v1 rfl rfl) h1 hlt1 hw1
  obtain ⟨s, rfl, rfl, rfl, hs0⟩ := open_string Tryd.underlying9 (hval 2 9 v2 rfl rfl) h2
  have hs1 : s.size ≤ 9223372036854775807 := by
    have h3 := hs0
    unfold maxLen at h3
    omega
  refine (back_walk n1 n2 A B xs ys c d s W hr hs hx hy hs1 (tab_of_laid hL)).mono fun e W' ⟨he, hg⟩ => ?_
  subst he
  refine ⟨_, rfl, _, _, _, [], p0 ++ (p1 ++ []), [], hW', ?_, ?_, rfl, hg.frame _, fun h => by cases h⟩
  · exact trodAll_cons_mk (shut_bool Tryd.underlying4 _) trodAll_mk0
  · exact trodAll_mk3 (Below.trod laidOut (by kernel_rfl) (of_decide_eq_true (by kernel_rfl)) k0 hg hlt0) (Below.trod laidOut (by kernel_rfl) (of_decide_eq_true (by kernel_rfl)) k1 hg hlt1) (shut_string Tryd.underlying9 hs0)

theorem over : Rows.WholeBackSaid :=
  OpenClaim.holds_of_wide 10 Tryd.f10 rfl rfl rfl rfl rfl rfl rfl ⟨rfl, rfl, rfl, rfl, rfl⟩ rfl rfl rfl rfl rfl (by kernel_rfl) Tryd.func10 (by kernel_rfl)
    (of_decide_eq_true (by kernel_rfl)) (by unfold Func.isWrapper; first | (rw [if_pos (by decide +kernel)]; kernel_rfl) | (rw [if_neg (by decide +kernel)]; exact ⟨rfl, rfl⟩))
    (fun os started H enc _ => lifted os started H enc)

theorem proved : Rows.WholeBackCardSaid :=
  Claim7.holds_tied_plain_at .later [] [.data, .data, .data] true Rows.wholeBackCard.stood.harness false
    over (fun _ h => by cases h) (by kernel_rfl) (fun _ h => by cases h) wholeBack_row_tie rfl ⟨rfl, rfl⟩ (by kernel_rfl) rfl
    (fun f fn hf hfn => by
      obtain rfl : f = 10 := Option.some.inj ((show Tryd.prog.funcNamed "polestar/polestarlaw01.WholeBack" = some 10 by kernel_rfl).symm.trans hf) |>.symm
      obtain rfl : fn = Tryd.f10 := (Option.some.inj (Tryd.func10.symm.trans hfn)).symm
      exact ⟨by kernel_rfl, fun j t ht => by
        rw [Tryd.params10] at ht
        have hm : t ∈ [24, 9] := by
          have h3 : t = 24 ∨ t = 9 := by simpa using Array.mem_of_getElem? ht
          simpa using h3
        have hall : ([24, 9].all fun u => !Tryd.prog.wantsStandIn u) = true := by kernel_rfl
        exact (show Tryd.prog.wantsStandIn t = false by simpa using List.all_eq_true.1 hall t hm)⟩)
    (by kernel_rfl)
end Go.Proofs.YtchfnkfdopbflaaDoor.wholeBack
