/-
  What the statement about the order returns: yes. No conditions but that the lists are lists of limbs, and that the table of powers lies where it lies.
-/
import Derived.Test.YtchfnkfdopbflaaDoorGate
import Derived.Deep.RegionHeld3
namespace Go.Proofs.YtchfnkfdopbflaaDoor
open Go.RowKit Nb

set_option maxHeartbeats 8000000 in
set_option maxRecDepth 20000 in
theorem order_walk (n1 n2 n3 : Bool) (A B C : Option Addr) (xs ys zs : List Nat) (c d e : Nat) (w : World) (hr : Sl .u32 w w.heap.size A xs) (hs : Sl .u32 w w.heap.size B ys) (ht : Sl .u32 w w.heap.size C zs) (hx : Dig W32 xs) (hy : Dig W32 ys) (hz : Dig W32 zs) (htab : Tab w) :
    Calls Tryd.prog 5 #[big n1 A xs.length c, big n2 B ys.length d, big n3 C zs.length e] w fun e w' => e = .returned (.bool true) ∧ Below w.heap.size w w' := by
  obtain ⟨W, hW, hbW, hzW, R1, R2, R3⟩ := raw_three (n1 := n1) (n2 := n2) (n3 := n3) (c := c) (d := d) (e := e) hr hs ht
  have HT := Lib.hid htab
  have HW := Lib.hid hW
  obtain ⟨b1, hb1⟩ := is_bool (Ok n1 xs)
  obtain ⟨b2, hb2⟩ := is_bool (Ok n2 ys)
  obtain ⟨b3, hb3⟩ := is_bool (Ok n3 zs)
  have H1 := Lib.hid hb1
  have H2 := Lib.hid hb2
  have H3 := Lib.hid hb3
  clear htab hW hb1 hb2 hb3 hr hs ht
  go_enter Tryd.func5, Tryd.ntmps5
  go_wp2_with fail
  rw [← HW.out]
  refine (alive_any W (tab_below HT.out hbW)).mono ?_
  rintro e1 w1 ⟨rfl, q1⟩
  have R1 := R1.on q1
  have R2 := R2.on q1
  have R3 := R3.on q1
  have B1 := hbW.trans (q1.mono hbW.size)
  clear q1 hbW hzW HW
  have a0 := R1.c0
  have a1 := R1.c1
  have a2 := R2.c0
  have a3 := R2.c1
  have a4 := R3.c0
  have a5 := R3.c1
  go_wp2_with fail
  have hal : Below w1.heap.size w1 (w1.alloc (.cells #[.bool n1, .slice A xs.length c, .bool n2, .slice B ys.length d, .bool n3, .slice C zs.length e] 24)) := by go_grown
  have S1 := (R1.on hal).sl
  have S2 := (R2.on hal).sl
  have S3 := (R3.on hal).sl
  refine (may_3 w1.heap.size 3 n1 A xs.length c b1 n2 B ys.length d b2 n3 C zs.length e b3 _ (kind_of n1 A xs _ _ S1 b1 H1.out) (kind_of n2 B ys _ _ S2 b2 H2.out) (kind_of n3 C zs _ _ S3 b3 H3.out) (by go_cell) (by go_cell) (by go_cell) (by go_cell) (by go_cell) (by go_cell)).mono ?_
  rintro e2 w2 ⟨rfl, q2⟩
  have q2 := Below.trans hal (q2.mono hal.size)
  have R1 := R1.on q2
  have R2 := R2.on q2
  have R3 := R3.on q2
  have B2 := B1.trans (q2.mono B1.size)
  clear a0 a1 a2 a3 a4 a5 hal S1 S2 S3 q2 B1
  by_cases ho : (b1 && b2 && b3) = true
  · have ho2 : b1 = true ∧ b2 = true ∧ b3 = true := by simpa [Bool.and_eq_true, and_assoc] using ho
    have T := Tri.mk B2 (R1.held hx (H1.out.1 ho2.1)) (R2.held hy (H2.out.1 ho2.2.1)) (R3.held hz (H3.out.1 ho2.2.2))
    rw [ho]
    clear ho ho2 H1 H2 H3 R1 R2 R3 B2
    have HS := Lib.hid T.all
    have hall := HS.out
    obtain ⟨X, hX⟩ : ∃ X : Int, sv n1 (val W32 xs) = X := ⟨_, rfl⟩
    obtain ⟨Y, hY⟩ : ∃ Y : Int, sv n2 (val W32 ys) = Y := ⟨_, rfl⟩
    obtain ⟨Z, hZ⟩ : ∃ Z : Int, sv n3 (val W32 zs) = Z := ⟨_, rfl⟩
    have CXY := Lib.hid (fun (V : World) (h : TriS w V w.heap.size (w.heap.size + 1) (w.heap.size + 1 + 1) n1 n2 n3 A B C xs ys zs c d e) => wcmp_lm V (Tri.x' h) (Tri.y' h) (cmpI X Y) (by rw [hX, hY]))
    have CYX := Lib.hid (fun (V : World) (h : TriS w V w.heap.size (w.heap.size + 1) (w.heap.size + 1 + 1) n1 n2 n3 A B C xs ys zs c d e) => wcmp_lm V (Tri.y' h) (Tri.x' h) (cmpI Y X) (by rw [hX, hY]))
    have CYZ := Lib.hid (fun (V : World) (h : TriS w V w.heap.size (w.heap.size + 1) (w.heap.size + 1 + 1) n1 n2 n3 A B C xs ys zs c d e) => wcmp_lm V (Tri.y' h) (Tri.z' h) (cmpI Y Z) (by rw [hZ, hY]))
    have CXZ := Lib.hid (fun (V : World) (h : TriS w V w.heap.size (w.heap.size + 1) (w.heap.size + 1 + 1) n1 n2 n3 A B C xs ys zs c d e) => wcmp_lm V (Tri.x' h) (Tri.z' h) (cmpI X Z) (by rw [hX, hZ]))
    have HX := Lib.hid (And.intro hX (And.intro hY hZ))
    clear hX hY hZ
    go_wp2_with fail
    go_cut [7, 8, 9] (fun s7 s8 s9 wx => s7 = .int .i64 (cmpI X Y) ∧ s8 = .int .i64 (cmpI Y Z) ∧ s9 = .int .i64 (cmpI X Z) ∧ TriS w wx w.heap.size (w.heap.size + 1) (w.heap.size + 1 + 1) n1 n2 n3 A B C xs ys zs c d e)
    case first =>
      have hall := HS.out
      go_region_held3 (fun wx => Tri w wx w.heap.size (w.heap.size + 1) (w.heap.size + 1 + 1) n1 n2 n3 A B C xs ys zs c d e ∧ wx.cell? ⟨w.heap.size, 0, none⟩ = some (.bool n1) ∧ wx.cell? ⟨w.heap.size, 1, none⟩ = some (.slice A xs.length c) ∧ wx.cell? ⟨w.heap.size + 1, 0, none⟩ = some (.bool n2) ∧ wx.cell? ⟨w.heap.size + 1, 1, none⟩ = some (.slice B ys.length d) ∧ wx.cell? ⟨w.heap.size + 1 + 1, 0, none⟩ = some (.bool n3) ∧ wx.cell? ⟨w.heap.size + 1 + 1, 1, none⟩ = some (.slice C zs.length e))
        (first | exact HS.out | exact Tri.keep HS.out ((Below.refl _ _).drew) | exact Tri.keep (by assumption) (by assumption) | exact Tri.keep (by assumption) ((Below.refl _ _).drew))
        (first
          | (go_at_call 27; (first | with_reducible refine (CXY.out _ (by assumption)).mono ?_ | with_reducible refine (CYZ.out _ (by assumption)).mono ?_ | with_reducible refine (CXZ.out _ (by assumption)).mono ?_); rintro e wc ⟨rfl, hb⟩))
      all_goals
        go_wp2_with fail
        go_meet
        exact ⟨rfl, rfl, rfl, by assumption⟩
    case rest =>
      obtain ⟨rfl, rfl, rfl, T1⟩ := hcut
      have HSame := Lib.hid (fun (V : World) (h : TriS w V w.heap.size (w.heap.size + 1) (w.heap.size + 1 + 1) n1 n2 n3 A B C xs ys zs c d e) => same_any n1 n2 A B xs ys c d V (Tri.x' h).sl (Tri.y' h).sl (Tri.x' h).sz (Tri.y' h).sz)
      have hsame : decide (n1 = n2 ∧ xs = ys) = decide (X = Y) := by
        rw [same_iff (Tri.x' T1).ok (Tri.y' T1).ok (Tri.x' T1).dig (Tri.y' T1).dig, HX.out.1, HX.out.2.1]
      have HT1 := Lib.hid T1
      rw [hsame] at HSame
      clear hsame hall HS T CXY CYZ CXZ T1
      go_upto_region 4 with fail
      go_cut [7, 8, 9, 65] (fun s7 s8 s9 s wx => s7 = .int .i64 (cmpI X Y) ∧ s = .bool false ∧ TriS w wx w.heap.size (w.heap.size + 1) (w.heap.size + 1 + 1) n1 n2 n3 A B C xs ys zs c d e)
      case first =>
        have T1 := HT1.out
        obtain ⟨_, a0, a1, a2, a3, a4, a5⟩ := T1
        have hbc : cmpI X Y ≤ 0 → cmpI Y Z ≤ 0 → ¬ 0 < cmpI X Z := by
          unfold cmpI
          intro h1 h2
          split at h1 <;> split at h2 <;> (repeat (first | omega | split)) 
        have hbb : ∀ b : Int, b = cmpI Y Z → (cmpI X Y ≤ 0 → b ≤ 0 → ¬ 0 < cmpI X Z) := fun b h => h ▸ hbc
        rcases Int.lt_trichotomy X Y with h | h | h
        · have e1 : cmpI X Y = -1 := cmpI_lt h
          have e2 : cmpI Y X = 1 := cmpI_gt h
          have e3 : decide (X = Y) = false := by simp; omega
          have D := CYX.out
          have SM := HSame.out
          rw [e2] at D
          rw [e3] at SM
          rw [e1] at hbc ⊢
          obtain ⟨b, hb⟩ : ∃ b : Int, cmpI Y Z = b := ⟨_, rfl⟩
          obtain ⟨cc, hcc⟩ : ∃ cc : Int, cmpI X Z = cc := ⟨_, rfl⟩
          rw [hb, hcc] at hbc ⊢
          have E1 := Lib.hid e1
          clear e1 e2 e3 hb hcc h hbb
          by_cases hb0 : b ≤ 0
          · have hc0 := hbc (by decide) hb0
            have hb1 : decide (b ≤ 0) = true := by simp [hb0]
            have hc1 : decide (0 < cc) = false := by simp; omega
            clear hbc
            go_wp2_with fail
            refine (D _ HT1.out).mono ?_
            rintro e4 w4 ⟨rfl, q4⟩
            have T4 := Tri.keep HT1.out q4
            obtain ⟨_, a0, a1, a2, a3, a4, a5⟩ := T4
            go_wp2_with fail
            refine (SM _ (Tri.keep HT1.out q4)).mono ?_
            rintro e5 w5 ⟨rfl, q5⟩
            have T5 := Tri.keep (Tri.keep HT1.out q4) q5
            go_wp2
            go_meet
            exact ⟨by rw [E1.out], rfl, T5⟩
          · have hb1 : decide (b ≤ 0) = false := by simp; omega
            clear hbc
            go_wp2_with fail
            refine (D _ HT1.out).mono ?_
            rintro e4 w4 ⟨rfl, q4⟩
            have T4 := Tri.keep HT1.out q4
            obtain ⟨_, a0, a1, a2, a3, a4, a5⟩ := T4
            go_wp2_with fail
            refine (SM _ (Tri.keep HT1.out q4)).mono ?_
            rintro e5 w5 ⟨rfl, q5⟩
            have T5 := Tri.keep (Tri.keep HT1.out q4) q5
            go_wp2
            go_meet
            exact ⟨by rw [E1.out], rfl, T5⟩
        · have e1 : cmpI X Y = 0 := cmpI_eq h
          have e2 : cmpI Y X = 0 := cmpI_eq h.symm
          have e3 : decide (X = Y) = true := by simp; omega
          have D := CYX.out
          have SM := HSame.out
          rw [e2] at D
          rw [e3] at SM
          rw [e1] at hbc ⊢
          obtain ⟨b, hb⟩ : ∃ b : Int, cmpI Y Z = b := ⟨_, rfl⟩
          obtain ⟨cc, hcc⟩ : ∃ cc : Int, cmpI X Z = cc := ⟨_, rfl⟩
          rw [hb, hcc] at hbc ⊢
          have E1 := Lib.hid e1
          clear e1 e2 e3 hb hcc h hbb
          by_cases hb0 : b ≤ 0
          · have hc0 := hbc (by decide) hb0
            have hb1 : decide (b ≤ 0) = true := by simp [hb0]
            have hc1 : decide (0 < cc) = false := by simp; omega
            clear hbc
            go_wp2_with fail
            refine (D _ HT1.out).mono ?_
            rintro e4 w4 ⟨rfl, q4⟩
            have T4 := Tri.keep HT1.out q4
            obtain ⟨_, a0, a1, a2, a3, a4, a5⟩ := T4
            go_wp2_with fail
            refine (SM _ (Tri.keep HT1.out q4)).mono ?_
            rintro e5 w5 ⟨rfl, q5⟩
            have T5 := Tri.keep (Tri.keep HT1.out q4) q5
            go_wp2
            go_meet
            exact ⟨by rw [E1.out], rfl, T5⟩
          · have hb1 : decide (b ≤ 0) = false := by simp; omega
            clear hbc
            go_wp2_with fail
            refine (D _ HT1.out).mono ?_
            rintro e4 w4 ⟨rfl, q4⟩
            have T4 := Tri.keep HT1.out q4
            obtain ⟨_, a0, a1, a2, a3, a4, a5⟩ := T4
            go_wp2_with fail
            refine (SM _ (Tri.keep HT1.out q4)).mono ?_
            rintro e5 w5 ⟨rfl, q5⟩
            have T5 := Tri.keep (Tri.keep HT1.out q4) q5
            go_wp2
            go_meet
            exact ⟨by rw [E1.out], rfl, T5⟩
        · have e1 : cmpI X Y = 1 := cmpI_gt h
          have e2 : cmpI Y X = -1 := cmpI_lt h
          have e3 : decide (X = Y) = false := by simp; omega
          have D := CYX.out
          have SM := HSame.out
          rw [e2] at D
          rw [e3] at SM
          rw [e1] at hbc ⊢
          obtain ⟨b, hb⟩ : ∃ b : Int, cmpI Y Z = b := ⟨_, rfl⟩
          obtain ⟨cc, hcc⟩ : ∃ cc : Int, cmpI X Z = cc := ⟨_, rfl⟩
          rw [hb, hcc] at hbc ⊢
          have E1 := Lib.hid e1
          clear e1 e2 e3 hb hcc h hbb
          clear hbc
          go_wp2_with fail
          refine (D _ HT1.out).mono ?_
          rintro e4 w4 ⟨rfl, q4⟩
          have T4 := Tri.keep HT1.out q4
          obtain ⟨_, a0, a1, a2, a3, a4, a5⟩ := T4
          go_wp2_with fail
          refine (SM _ (Tri.keep HT1.out q4)).mono ?_
          rintro e5 w5 ⟨rfl, q5⟩
          have T5 := Tri.keep (Tri.keep HT1.out q4) q5
          go_wp2
          go_meet
          exact ⟨by rw [E1.out], rfl, T5⟩
      case rest =>
        obtain ⟨rfl, rfl, T2⟩ := hcut
        have HT2 := Lib.hid T2
        have E := Lib.hid (And.intro (Tri.x' T2).ok (And.intro (Tri.y' T2).ok (And.intro (Tri.x' T2).dig (Tri.y' T2).dig)))
        have CS := Lib.hid (fun (V : World) (h : TriS w V w.heap.size (w.heap.size + 1) (w.heap.size + 1 + 1) n1 n2 n3 A B C xs ys zs c d e) => wsub_any n1 n2 A B xs ys c d V (Tri.x' h).sl (Tri.y' h).sl (Tri.x' h).dig (Tri.y' h).dig (Tri.x' h).sz (Tri.y' h).sz)
        have hre : sv n1 (val W32 xs) - sv n2 (val W32 ys) = X - Y := by rw [HX.out.1, HX.out.2.1]
        rw [hre] at CS
        obtain ⟨a, ha⟩ : ∃ a : Int, cmpI X Y = a := ⟨_, rfl⟩
        rw [ha]
        have HA := Lib.hid ha
        clear ha hre HT1 HSame CYX
        obtain ⟨_, a0, a1, a2, a3, a4, a5⟩ := T2
        go_wp2_with fail
        refine (CS.out _ HT2.out).mono ?_
        rintro e6 w6 ⟨n6, A6, l6, c6, er, rfl, m6, hs6, q6⟩
        obtain hs6 | ⟨h, _⟩ := hs6
        rotate_left
        · exact absurd ⟨E.out.1, E.out.2.1⟩ h
        have T6 := Tri.keep HT2.out q6
        have T7 := Tri.keep T6 (W' := w6.alloc (.cells #[.bool n6, .slice A6 l6.length c6] 24)) (by go_grown)
        have K6 := Held.fresh m6
        have HT7 := Lib.hid T7
        clear a0 a1 a2 a3 a4 a5 T6 HT2 CS
        go_upto_region 7 with fail
        go_cut [79] (fun s wx => s = .bool false ∧ TriS w wx w.heap.size (w.heap.size + 1) (w.heap.size + 1 + 1) n1 n2 n3 A B C xs ys zs c d e)
        case first =>
          have k0 := K6.c0
          have k1 := K6.c1
          obtain ⟨_, hsay⟩ := hs6
          rcases hsay with ⟨_, rfl, hv6⟩ | ⟨_, rfl, h5, h6⟩
          · have hsg : sgnV n6 l6 = a := by
              rw [sgn_cmp m6.ok m6.dig, hv6, ← HA.out]
              unfold cmpI
              rcases Int.lt_trichotomy X Y with h | h | h
              · rw [if_pos (by omega), if_pos h]
              · rw [if_neg (by omega), if_neg (by omega), if_neg (by omega), if_neg (by omega)]
              · rw [if_neg (by omega), if_pos (by omega), if_neg (by omega), if_pos h]
            have W6 := wsign_u n6 A6 l6 c6 (w6.alloc (.cells #[.bool n6, .slice A6 l6.length c6] 24)) K6.lm.sl K6.lm.dig K6.lm.sz
            rw [hsg] at W6
            have HW6 := Lib.hid W6
            clear hsg hv6 W6
            go_wp2_with fail
            refine (HW6.out).mono ?_
            rintro e7 w7 ⟨rfl, q7⟩
            go_wp2
            go_meet
            exact ⟨rfl, Tri.keep HT7.out q7⟩
          · clear h5 h6
            go_wp2
            go_meet
            exact ⟨rfl, HT7.out⟩
        case rest =>
          obtain ⟨rfl, T8⟩ := hcut
          have HT8 := Lib.hid T8
          clear hs6 K6 m6 HT7
          have S1 := Lib.hid (fun (V : World) (h : TriS w V w.heap.size (w.heap.size + 1) (w.heap.size + 1 + 1) n1 n2 n3 A B C xs ys zs c d e) => wsign_u n1 A xs c V (Tri.x' h).sl (Tri.x' h).dig (Tri.x' h).sz)
          have S2 := Lib.hid (fun (V : World) (h : TriS w V w.heap.size (w.heap.size + 1) (w.heap.size + 1 + 1) n1 n2 n3 A B C xs ys zs c d e) => wsign_u n2 B ys d V (Tri.y' h).sl (Tri.y' h).dig (Tri.y' h).sz)
          have S3 := Lib.hid (fun (V : World) (h : TriS w V w.heap.size (w.heap.size + 1) (w.heap.size + 1 + 1) n1 n2 n3 A B C xs ys zs c d e) => wbits_u n1 A xs c V (Tri.x' h).sl (Tri.x' h).dig (Tri.x' h).sz)
          have S4 := Lib.hid (fun (V : World) (h : TriS w V w.heap.size (w.heap.size + 1) (w.heap.size + 1 + 1) n1 n2 n3 A B C xs ys zs c d e) => wbits_u n2 B ys d V (Tri.y' h).sl (Tri.y' h).dig (Tri.y' h).sz)
          have hfin : ¬ sgnV n1 xs ≤ 0 → ¬ sgnV n2 ys ≤ 0 → ¬ bitsV n2 ys ≤ bitsV n1 xs → a = -1 := by
            rw [sgn_cmp E.out.1 E.out.2.2.1, sgn_cmp E.out.2.1 E.out.2.2.2, HX.out.1, HX.out.2.1]
            unfold bitsV
            rw [if_pos E.out.1, if_pos E.out.2.1, ← HA.out]
            intro h1 h2 h3
            have p1 : 0 < X := by unfold cmpI at h1; (repeat split at h1) <;> omega
            have p2 : 0 < Y := by unfold cmpI at h2; (repeat split at h2) <;> omega
            have a1 := sv_abs n1 (val W32 xs)
            have a2 := sv_abs n2 (val W32 ys)
            rw [HX.out.1] at a1
            rw [HX.out.2.1] at a2
            refine cmpI_lt ?_
            rcases Int.lt_or_le X Y with h | h
            · exact h
            · exfalso
              have hle : val W32 ys ≤ val W32 xs := by omega
              have hb1 : val W32 xs < 2 ^ bitLen (val W32 xs) := bitLen_le_iff.1 (Nat.le_refl _)
              have := (bitLen_le_iff (x := val W32 ys) (k := bitLen (val W32 xs))).2 (Nat.lt_of_le_of_lt hle hb1)
              omega
          obtain ⟨sx, hsx⟩ : ∃ v : Int, sgnV n1 xs = v := ⟨_, rfl⟩
          obtain ⟨sy, hsy⟩ : ∃ v : Int, sgnV n2 ys = v := ⟨_, rfl⟩
          obtain ⟨bx, hbx⟩ : ∃ v : Int, bitsV n1 xs = v := ⟨_, rfl⟩
          obtain ⟨bY, hby⟩ : ∃ v : Int, bitsV n2 ys = v := ⟨_, rfl⟩
          rw [hsx] at hfin S1
          rw [hsy] at hfin S2
          rw [hbx] at hfin S3
          rw [hby] at hfin S4
          clear hsx hsy hbx hby
          obtain ⟨_, a0, a1, a2, a3, a4, a5⟩ := T8
          have T8 := HT8.out
          by_cases g1 : sx ≤ 0
          · have g1b : decide (sx ≤ 0) = true := by simp [g1]
            clear hfin
            go_wp2_with fail
            refine wp_region_noPanic ?_
            refine wp_region_held_drew (S := (fun wx => Tri w wx w.heap.size (w.heap.size + 1) (w.heap.size + 1 + 1) n1 n2 n3 A B C xs ys zs c d e ∧ wx.cell? ⟨w.heap.size, 0, none⟩ = some (.bool n1) ∧ wx.cell? ⟨w.heap.size, 1, none⟩ = some (.slice A xs.length c) ∧ wx.cell? ⟨w.heap.size + 1, 0, none⟩ = some (.bool n2) ∧ wx.cell? ⟨w.heap.size + 1, 1, none⟩ = some (.slice B ys.length d) ∧ wx.cell? ⟨w.heap.size + 1 + 1, 0, none⟩ = some (.bool n3) ∧ wx.cell? ⟨w.heap.size + 1 + 1, 1, none⟩ = some (.slice C zs.length e))) (by kernel_rfl) (Tri.keep HT8.out ((Below.refl _ _).drew)) (fun hHeld => ?_)
            refine wpAnyH_take (i := 0) (v := ?_) (by (simp only [List.getElem?_toArray, List.getElem?_cons_succ, List.getElem?_cons_zero]; rfl)) (by kernel_rfl) (by kernel_rfl) (by kernel_rfl) (fun _ _ _ h => h) (Or.inl ⟨by rfl, ?_⟩) (by assumption) ?_
            rotate_left
            · intro wt hSw
              (try dsimp only at hSw)
              go_simp
              (try with_reducible rfl)
            (try simp only [Act.put, List.setIfInBounds_toArray, List.set_cons_zero, List.set_cons_succ])
            refine wpAnyH_ready (rs := [1]) (by kernel_rfl) (by simp) (AllReadyH.cons (by (simp only [List.getElem?_toArray, List.getElem?_cons_succ, List.getElem?_cons_zero]; rfl)) (fun K hK => ?_) AllReadyH.nil)
            go_simp
            (go_at_call 28; (with_reducible refine (S1.out _ (by assumption)).mono ?_); rintro e8 w8 ⟨rfl, hb⟩)
            (try go_wp2_with fail)
            refine hK.out _ _ (Tri.keep (by assumption) hb) (fun hHeld => ?_)
            clear hK
            (try simp only [Act.put, List.setIfInBounds_toArray, List.set_cons_zero, List.set_cons_succ])
            refine wpAnyH_take (i := 2) (v := ?_) (by (simp only [List.getElem?_toArray, List.getElem?_cons_succ, List.getElem?_cons_zero]; rfl)) (by kernel_rfl) (by kernel_rfl) (by kernel_rfl) (fun _ _ _ h => h) (Or.inl ⟨by rfl, ?_⟩) (by assumption) ?_
            rotate_left
            · intro wt hSw
              (try dsimp only at hSw)
              go_simp
              (try with_reducible rfl)
            (try simp only [Act.put, List.setIfInBounds_toArray, List.set_cons_zero, List.set_cons_succ])
            refine wpAnyH_take (i := 3) (v := ?_) (by (simp only [List.getElem?_toArray, List.getElem?_cons_succ, List.getElem?_cons_zero]; rfl)) (by kernel_rfl) (by kernel_rfl) (by kernel_rfl) (fun _ _ _ h => h) (Or.inl ⟨by rfl, ?_⟩) (by assumption) ?_
            rotate_left
            · intro wt hSw
              (try dsimp only at hSw)
              go_simp
              (try with_reducible rfl)
            (try simp only [Act.put, List.setIfInBounds_toArray, List.set_cons_zero, List.set_cons_succ])
            refine wpAnyH_take (i := 4) (v := undef) (by (simp only [List.getElem?_toArray, List.getElem?_cons_succ, List.getElem?_cons_zero]; rfl)) (by kernel_rfl) (by kernel_rfl) (by kernel_rfl) (fun _ _ _ h => h) (Or.inr ⟨by rfl, rfl⟩) (by assumption) ?_
            (try simp only [Act.put, List.setIfInBounds_toArray, List.set_cons_zero, List.set_cons_succ])
            refine wpAnyH_take (i := 5) (v := undef) (by (simp only [List.getElem?_toArray, List.getElem?_cons_succ, List.getElem?_cons_zero]; rfl)) (by kernel_rfl) (by kernel_rfl) (by kernel_rfl) (fun _ _ _ h => h) (Or.inr ⟨by rfl, rfl⟩) (by assumption) ?_
            (try simp only [Act.put, List.setIfInBounds_toArray, List.set_cons_zero, List.set_cons_succ])
            refine wpAnyH_take (i := 6) (v := undef) (by (simp only [List.getElem?_toArray, List.getElem?_cons_succ, List.getElem?_cons_zero]; rfl)) (by kernel_rfl) (by kernel_rfl) (by kernel_rfl) (fun _ _ _ h => h) (Or.inr ⟨by rfl, rfl⟩) (by assumption) ?_
            (try simp only [Act.put, List.setIfInBounds_toArray, List.set_cons_zero, List.set_cons_succ])
            refine wpAnyH_take (i := 7) (v := ?_) (by (simp only [List.getElem?_toArray, List.getElem?_cons_succ, List.getElem?_cons_zero]; rfl)) (by kernel_rfl) (by kernel_rfl) (by kernel_rfl) (fun _ _ _ h => h) (Or.inl ⟨by rfl, ?_⟩) (by assumption) ?_
            rotate_left
            · intro wt hSw
              (try dsimp only at hSw)
              go_simp
              (try with_reducible rfl)
            (try simp only [Act.put, List.setIfInBounds_toArray, List.set_cons_zero, List.set_cons_succ])
            refine wpAnyH_take (i := 8) (v := ?_) (by (simp only [List.getElem?_toArray, List.getElem?_cons_succ, List.getElem?_cons_zero]; rfl)) (by kernel_rfl) (by kernel_rfl) (by kernel_rfl) (fun _ _ _ h => h) (Or.inl ⟨by rfl, ?_⟩) (by assumption) ?_
            rotate_left
            · intro wt hSw
              (try dsimp only at hSw)
              go_simp
              (try with_reducible rfl)
            (try simp only [Act.put, List.setIfInBounds_toArray, List.set_cons_zero, List.set_cons_succ])
            refine wpAnyH_take (i := 9) (v := undef) (by (simp only [List.getElem?_toArray, List.getElem?_cons_succ, List.getElem?_cons_zero]; rfl)) (by kernel_rfl) (by kernel_rfl) (by kernel_rfl) (fun _ _ _ h => h) (Or.inr ⟨by rfl, rfl⟩) (by assumption) ?_
            (try simp only [Act.put, List.setIfInBounds_toArray, List.set_cons_zero, List.set_cons_succ])
            refine wpAnyH_take (i := 10) (v := undef) (by (simp only [List.getElem?_toArray, List.getElem?_cons_succ, List.getElem?_cons_zero]; rfl)) (by kernel_rfl) (by kernel_rfl) (by kernel_rfl) (fun _ _ _ h => h) (Or.inr ⟨by rfl, rfl⟩) (by assumption) ?_
            (try simp only [Act.put, List.setIfInBounds_toArray, List.set_cons_zero, List.set_cons_succ])
            refine wpAnyH_take (i := 11) (v := undef) (by (simp only [List.getElem?_toArray, List.getElem?_cons_succ, List.getElem?_cons_zero]; rfl)) (by kernel_rfl) (by kernel_rfl) (by kernel_rfl) (fun _ _ _ h => h) (Or.inr ⟨by rfl, rfl⟩) (by assumption) ?_
            (try simp only [Act.put, List.setIfInBounds_toArray, List.set_cons_zero, List.set_cons_succ])
            refine wpAnyH_take (i := 12) (v := undef) (by (simp only [List.getElem?_toArray, List.getElem?_cons_succ, List.getElem?_cons_zero]; rfl)) (by kernel_rfl) (by kernel_rfl) (by kernel_rfl) (fun _ _ _ h => h) (Or.inr ⟨by rfl, rfl⟩) (by assumption) ?_
            (try simp only [Act.put, List.setIfInBounds_toArray, List.set_cons_zero, List.set_cons_succ])
            refine wpAnyH_take (i := 13) (v := undef) (by (simp only [List.getElem?_toArray, List.getElem?_cons_succ, List.getElem?_cons_zero]; rfl)) (by kernel_rfl) (by kernel_rfl) (by kernel_rfl) (fun _ _ _ h => h) (Or.inr ⟨by rfl, rfl⟩) (by assumption) ?_
            (try simp only [Act.put, List.setIfInBounds_toArray, List.set_cons_zero, List.set_cons_succ])
            refine wpAnyH_take (i := 14) (v := ?_) (by (simp only [List.getElem?_toArray, List.getElem?_cons_succ, List.getElem?_cons_zero]; rfl)) (by kernel_rfl) (by kernel_rfl) (by kernel_rfl) (fun _ _ _ h => h) (Or.inl ⟨by rfl, ?_⟩) (by assumption) ?_
            rotate_left
            · intro wt hSw
              (try dsimp only at hSw)
              go_simp
              (try with_reducible rfl)
            (try simp only [Act.put, List.setIfInBounds_toArray, List.set_cons_zero, List.set_cons_succ])
            refine wpAnyH_take (i := 15) (v := ?_) (by (simp only [List.getElem?_toArray, List.getElem?_cons_succ, List.getElem?_cons_zero]; rfl)) (by kernel_rfl) (by kernel_rfl) (by kernel_rfl) (fun _ _ _ h => h) (Or.inl ⟨by rfl, ?_⟩) (by assumption) ?_
            rotate_left
            · intro wt hSw
              (try dsimp only at hSw)
              go_simp
              (try with_reducible rfl)
            (try simp only [Act.put, List.setIfInBounds_toArray, List.set_cons_zero, List.set_cons_succ])
            refine wpAnyH_take (i := 16) (v := undef) (by (simp only [List.getElem?_toArray, List.getElem?_cons_succ, List.getElem?_cons_zero]; rfl)) (by kernel_rfl) (by kernel_rfl) (by kernel_rfl) (fun _ _ _ h => h) (Or.inr ⟨by rfl, rfl⟩) (by assumption) ?_
            (try simp only [Act.put, List.setIfInBounds_toArray, List.set_cons_zero, List.set_cons_succ])
            refine wpAnyH_take (i := 17) (v := undef) (by (simp only [List.getElem?_toArray, List.getElem?_cons_succ, List.getElem?_cons_zero]; rfl)) (by kernel_rfl) (by kernel_rfl) (by kernel_rfl) (fun _ _ _ h => h) (Or.inr ⟨by rfl, rfl⟩) (by assumption) ?_
            (try simp only [Act.put, List.setIfInBounds_toArray, List.set_cons_zero, List.set_cons_succ])
            refine wpAnyH_take (i := 18) (v := ?_) (by (simp only [List.getElem?_toArray, List.getElem?_cons_succ, List.getElem?_cons_zero]; rfl)) (by kernel_rfl) (by kernel_rfl) (by kernel_rfl) (fun _ _ _ h => h) (Or.inl ⟨by rfl, ?_⟩) (by assumption) ?_
            rotate_left
            · intro wt hSw
              (try dsimp only at hSw)
              go_simp
              (try with_reducible rfl)
            (try simp only [Act.put, List.setIfInBounds_toArray, List.set_cons_zero, List.set_cons_succ])
            refine wpAnyH_take (i := 19) (v := ?_) (by (simp only [List.getElem?_toArray, List.getElem?_cons_succ, List.getElem?_cons_zero]; rfl)) (by kernel_rfl) (by kernel_rfl) (by kernel_rfl) (fun _ _ _ h => h) (Or.inl ⟨by rfl, ?_⟩) (by assumption) ?_
            rotate_left
            · intro wt hSw
              (try dsimp only at hSw)
              go_simp
              (try with_reducible rfl)
            (try simp only [Act.put, List.setIfInBounds_toArray, List.set_cons_zero, List.set_cons_succ])
            refine wpAnyH_done (by kernel_rfl) (NoPanic.normal ?_) _
            go_wp2
            go_ret
            exact ⟨rfl, Tri.below' (by assumption)⟩
          · have g1b : decide (sx ≤ 0) = false := by simp; omega
            by_cases g2 : sy ≤ 0
            · have g2b : decide (sy ≤ 0) = true := by simp [g2]
              clear hfin
              go_wp2_with fail
              refine wp_region_noPanic ?_
              refine wp_region_held_drew (S := (fun wx => Tri w wx w.heap.size (w.heap.size + 1) (w.heap.size + 1 + 1) n1 n2 n3 A B C xs ys zs c d e ∧ wx.cell? ⟨w.heap.size, 0, none⟩ = some (.bool n1) ∧ wx.cell? ⟨w.heap.size, 1, none⟩ = some (.slice A xs.length c) ∧ wx.cell? ⟨w.heap.size + 1, 0, none⟩ = some (.bool n2) ∧ wx.cell? ⟨w.heap.size + 1, 1, none⟩ = some (.slice B ys.length d) ∧ wx.cell? ⟨w.heap.size + 1 + 1, 0, none⟩ = some (.bool n3) ∧ wx.cell? ⟨w.heap.size + 1 + 1, 1, none⟩ = some (.slice C zs.length e))) (by kernel_rfl) (Tri.keep HT8.out ((Below.refl _ _).drew)) (fun hHeld => ?_)
              refine wpAnyH_take (i := 0) (v := ?_) (by (simp only [List.getElem?_toArray, List.getElem?_cons_succ, List.getElem?_cons_zero]; rfl)) (by kernel_rfl) (by kernel_rfl) (by kernel_rfl) (fun _ _ _ h => h) (Or.inl ⟨by rfl, ?_⟩) (by assumption) ?_
              rotate_left
              · intro wt hSw
                (try dsimp only at hSw)
                go_simp
                (try with_reducible rfl)
              (try simp only [Act.put, List.setIfInBounds_toArray, List.set_cons_zero, List.set_cons_succ])
              refine wpAnyH_ready (rs := [1]) (by kernel_rfl) (by simp) (AllReadyH.cons (by (simp only [List.getElem?_toArray, List.getElem?_cons_succ, List.getElem?_cons_zero]; rfl)) (fun K hK => ?_) AllReadyH.nil)
              go_simp
              (go_at_call 28; (with_reducible refine (S1.out _ (by assumption)).mono ?_); rintro e8 w8 ⟨rfl, hb⟩)
              (try go_wp2_with fail)
              refine hK.out _ _ (Tri.keep (by assumption) hb) (fun hHeld => ?_)
              clear hK
              (try simp only [Act.put, List.setIfInBounds_toArray, List.set_cons_zero, List.set_cons_succ])
              refine wpAnyH_take (i := 2) (v := ?_) (by (simp only [List.getElem?_toArray, List.getElem?_cons_succ, List.getElem?_cons_zero]; rfl)) (by kernel_rfl) (by kernel_rfl) (by kernel_rfl) (fun _ _ _ h => h) (Or.inl ⟨by rfl, ?_⟩) (by assumption) ?_
              rotate_left
              · intro wt hSw
                (try dsimp only at hSw)
                go_simp
                (try with_reducible rfl)
              (try simp only [Act.put, List.setIfInBounds_toArray, List.set_cons_zero, List.set_cons_succ])
              refine wpAnyH_take (i := 3) (v := ?_) (by (simp only [List.getElem?_toArray, List.getElem?_cons_succ, List.getElem?_cons_zero]; rfl)) (by kernel_rfl) (by kernel_rfl) (by kernel_rfl) (fun _ _ _ h => h) (Or.inl ⟨by rfl, ?_⟩) (by assumption) ?_
              rotate_left
              · intro wt hSw
                (try dsimp only at hSw)
                go_simp
                (try with_reducible rfl)
              (try simp only [Act.put, List.setIfInBounds_toArray, List.set_cons_zero, List.set_cons_succ])
              refine wpAnyH_take (i := 4) (v := ?_) (by (simp only [List.getElem?_toArray, List.getElem?_cons_succ, List.getElem?_cons_zero]; rfl)) (by kernel_rfl) (by kernel_rfl) (by kernel_rfl) (fun _ _ _ h => h) (Or.inl ⟨by rfl, ?_⟩) (by assumption) ?_
              rotate_left
              · intro wt hSw
                (try dsimp only at hSw)
                go_simp
                (try with_reducible rfl)
              (try simp only [Act.put, List.setIfInBounds_toArray, List.set_cons_zero, List.set_cons_succ])
              refine wpAnyH_ready (rs := [5]) (by kernel_rfl) (by simp) (AllReadyH.cons (by (simp only [List.getElem?_toArray, List.getElem?_cons_succ, List.getElem?_cons_zero]; rfl)) (fun K hK => ?_) AllReadyH.nil)
              go_simp
              (go_at_call 28; (with_reducible refine (S2.out _ (by assumption)).mono ?_); rintro e8 w8 ⟨rfl, hb⟩)
              (try go_wp2_with fail)
              refine hK.out _ _ (Tri.keep (by assumption) hb) (fun hHeld => ?_)
              clear hK
              (try simp only [Act.put, List.setIfInBounds_toArray, List.set_cons_zero, List.set_cons_succ])
              refine wpAnyH_take (i := 6) (v := ?_) (by (simp only [List.getElem?_toArray, List.getElem?_cons_succ, List.getElem?_cons_zero]; rfl)) (by kernel_rfl) (by kernel_rfl) (by kernel_rfl) (fun _ _ _ h => h) (Or.inl ⟨by rfl, ?_⟩) (by assumption) ?_
              rotate_left
              · intro wt hSw
                (try dsimp only at hSw)
                go_simp
                (try with_reducible rfl)
              (try simp only [Act.put, List.setIfInBounds_toArray, List.set_cons_zero, List.set_cons_succ])
              refine wpAnyH_take (i := 7) (v := ?_) (by (simp only [List.getElem?_toArray, List.getElem?_cons_succ, List.getElem?_cons_zero]; rfl)) (by kernel_rfl) (by kernel_rfl) (by kernel_rfl) (fun _ _ _ h => h) (Or.inl ⟨by rfl, ?_⟩) (by assumption) ?_
              rotate_left
              · intro wt hSw
                (try dsimp only at hSw)
                go_simp
                (try with_reducible rfl)
              (try simp only [Act.put, List.setIfInBounds_toArray, List.set_cons_zero, List.set_cons_succ])
              refine wpAnyH_take (i := 8) (v := ?_) (by (simp only [List.getElem?_toArray, List.getElem?_cons_succ, List.getElem?_cons_zero]; rfl)) (by kernel_rfl) (by kernel_rfl) (by kernel_rfl) (fun _ _ _ h => h) (Or.inl ⟨by rfl, ?_⟩) (by assumption) ?_
              rotate_left
              · intro wt hSw
                (try dsimp only at hSw)
                go_simp
                (try with_reducible rfl)
              (try simp only [Act.put, List.setIfInBounds_toArray, List.set_cons_zero, List.set_cons_succ])
              refine wpAnyH_take (i := 9) (v := undef) (by (simp only [List.getElem?_toArray, List.getElem?_cons_succ, List.getElem?_cons_zero]; rfl)) (by kernel_rfl) (by kernel_rfl) (by kernel_rfl) (fun _ _ _ h => h) (Or.inr ⟨by rfl, rfl⟩) (by assumption) ?_
              (try simp only [Act.put, List.setIfInBounds_toArray, List.set_cons_zero, List.set_cons_succ])
              refine wpAnyH_take (i := 10) (v := undef) (by (simp only [List.getElem?_toArray, List.getElem?_cons_succ, List.getElem?_cons_zero]; rfl)) (by kernel_rfl) (by kernel_rfl) (by kernel_rfl) (fun _ _ _ h => h) (Or.inr ⟨by rfl, rfl⟩) (by assumption) ?_
              (try simp only [Act.put, List.setIfInBounds_toArray, List.set_cons_zero, List.set_cons_succ])
              refine wpAnyH_take (i := 11) (v := undef) (by (simp only [List.getElem?_toArray, List.getElem?_cons_succ, List.getElem?_cons_zero]; rfl)) (by kernel_rfl) (by kernel_rfl) (by kernel_rfl) (fun _ _ _ h => h) (Or.inr ⟨by rfl, rfl⟩) (by assumption) ?_
              (try simp only [Act.put, List.setIfInBounds_toArray, List.set_cons_zero, List.set_cons_succ])
              refine wpAnyH_take (i := 12) (v := undef) (by (simp only [List.getElem?_toArray, List.getElem?_cons_succ, List.getElem?_cons_zero]; rfl)) (by kernel_rfl) (by kernel_rfl) (by kernel_rfl) (fun _ _ _ h => h) (Or.inr ⟨by rfl, rfl⟩) (by assumption) ?_
              (try simp only [Act.put, List.setIfInBounds_toArray, List.set_cons_zero, List.set_cons_succ])
              refine wpAnyH_take (i := 13) (v := undef) (by (simp only [List.getElem?_toArray, List.getElem?_cons_succ, List.getElem?_cons_zero]; rfl)) (by kernel_rfl) (by kernel_rfl) (by kernel_rfl) (fun _ _ _ h => h) (Or.inr ⟨by rfl, rfl⟩) (by assumption) ?_
              (try simp only [Act.put, List.setIfInBounds_toArray, List.set_cons_zero, List.set_cons_succ])
              refine wpAnyH_take (i := 14) (v := ?_) (by (simp only [List.getElem?_toArray, List.getElem?_cons_succ, List.getElem?_cons_zero]; rfl)) (by kernel_rfl) (by kernel_rfl) (by kernel_rfl) (fun _ _ _ h => h) (Or.inl ⟨by rfl, ?_⟩) (by assumption) ?_
              rotate_left
              · intro wt hSw
                (try dsimp only at hSw)
                go_simp
                (try with_reducible rfl)
              (try simp only [Act.put, List.setIfInBounds_toArray, List.set_cons_zero, List.set_cons_succ])
              refine wpAnyH_take (i := 15) (v := ?_) (by (simp only [List.getElem?_toArray, List.getElem?_cons_succ, List.getElem?_cons_zero]; rfl)) (by kernel_rfl) (by kernel_rfl) (by kernel_rfl) (fun _ _ _ h => h) (Or.inl ⟨by rfl, ?_⟩) (by assumption) ?_
              rotate_left
              · intro wt hSw
                (try dsimp only at hSw)
                go_simp
                (try with_reducible rfl)
              (try simp only [Act.put, List.setIfInBounds_toArray, List.set_cons_zero, List.set_cons_succ])
              refine wpAnyH_take (i := 16) (v := undef) (by (simp only [List.getElem?_toArray, List.getElem?_cons_succ, List.getElem?_cons_zero]; rfl)) (by kernel_rfl) (by kernel_rfl) (by kernel_rfl) (fun _ _ _ h => h) (Or.inr ⟨by rfl, rfl⟩) (by assumption) ?_
              (try simp only [Act.put, List.setIfInBounds_toArray, List.set_cons_zero, List.set_cons_succ])
              refine wpAnyH_take (i := 17) (v := undef) (by (simp only [List.getElem?_toArray, List.getElem?_cons_succ, List.getElem?_cons_zero]; rfl)) (by kernel_rfl) (by kernel_rfl) (by kernel_rfl) (fun _ _ _ h => h) (Or.inr ⟨by rfl, rfl⟩) (by assumption) ?_
              (try simp only [Act.put, List.setIfInBounds_toArray, List.set_cons_zero, List.set_cons_succ])
              refine wpAnyH_take (i := 18) (v := ?_) (by (simp only [List.getElem?_toArray, List.getElem?_cons_succ, List.getElem?_cons_zero]; rfl)) (by kernel_rfl) (by kernel_rfl) (by kernel_rfl) (fun _ _ _ h => h) (Or.inl ⟨by rfl, ?_⟩) (by assumption) ?_
              rotate_left
              · intro wt hSw
                (try dsimp only at hSw)
                go_simp
                (try with_reducible rfl)
              (try simp only [Act.put, List.setIfInBounds_toArray, List.set_cons_zero, List.set_cons_succ])
              refine wpAnyH_take (i := 19) (v := ?_) (by (simp only [List.getElem?_toArray, List.getElem?_cons_succ, List.getElem?_cons_zero]; rfl)) (by kernel_rfl) (by kernel_rfl) (by kernel_rfl) (fun _ _ _ h => h) (Or.inl ⟨by rfl, ?_⟩) (by assumption) ?_
              rotate_left
              · intro wt hSw
                (try dsimp only at hSw)
                go_simp
                (try with_reducible rfl)
              (try simp only [Act.put, List.setIfInBounds_toArray, List.set_cons_zero, List.set_cons_succ])
              refine wpAnyH_done (by kernel_rfl) (NoPanic.normal ?_) _
              go_wp2
              go_ret
              exact ⟨rfl, Tri.below' (by assumption)⟩
            · have g2b : decide (sy ≤ 0) = false := by simp; omega
              by_cases g3 : bY ≤ bx
              · have g3b : decide (bY ≤ bx) = true := by simp [g3]
                clear hfin
                go_wp2_with fail
                refine wp_region_noPanic ?_
                refine wp_region_held_drew (S := (fun wx => Tri w wx w.heap.size (w.heap.size + 1) (w.heap.size + 1 + 1) n1 n2 n3 A B C xs ys zs c d e ∧ wx.cell? ⟨w.heap.size, 0, none⟩ = some (.bool n1) ∧ wx.cell? ⟨w.heap.size, 1, none⟩ = some (.slice A xs.length c) ∧ wx.cell? ⟨w.heap.size + 1, 0, none⟩ = some (.bool n2) ∧ wx.cell? ⟨w.heap.size + 1, 1, none⟩ = some (.slice B ys.length d) ∧ wx.cell? ⟨w.heap.size + 1 + 1, 0, none⟩ = some (.bool n3) ∧ wx.cell? ⟨w.heap.size + 1 + 1, 1, none⟩ = some (.slice C zs.length e))) (by kernel_rfl) (Tri.keep HT8.out ((Below.refl _ _).drew)) (fun hHeld => ?_)
                refine wpAnyH_take (i := 0) (v := ?_) (by (simp only [List.getElem?_toArray, List.getElem?_cons_succ, List.getElem?_cons_zero]; rfl)) (by kernel_rfl) (by kernel_rfl) (by kernel_rfl) (fun _ _ _ h => h) (Or.inl ⟨by rfl, ?_⟩) (by assumption) ?_
                rotate_left
                · intro wt hSw
                  (try dsimp only at hSw)
                  go_simp
                  (try with_reducible rfl)
                (try simp only [Act.put, List.setIfInBounds_toArray, List.set_cons_zero, List.set_cons_succ])
                refine wpAnyH_ready (rs := [1]) (by kernel_rfl) (by simp) (AllReadyH.cons (by (simp only [List.getElem?_toArray, List.getElem?_cons_succ, List.getElem?_cons_zero]; rfl)) (fun K hK => ?_) AllReadyH.nil)
                go_simp
                (go_at_call 28; (with_reducible refine (S1.out _ (by assumption)).mono ?_); rintro e8 w8 ⟨rfl, hb⟩)
                (try go_wp2_with fail)
                refine hK.out _ _ (Tri.keep (by assumption) hb) (fun hHeld => ?_)
                clear hK
                (try simp only [Act.put, List.setIfInBounds_toArray, List.set_cons_zero, List.set_cons_succ])
                refine wpAnyH_take (i := 2) (v := ?_) (by (simp only [List.getElem?_toArray, List.getElem?_cons_succ, List.getElem?_cons_zero]; rfl)) (by kernel_rfl) (by kernel_rfl) (by kernel_rfl) (fun _ _ _ h => h) (Or.inl ⟨by rfl, ?_⟩) (by assumption) ?_
                rotate_left
                · intro wt hSw
                  (try dsimp only at hSw)
                  go_simp
                  (try with_reducible rfl)
                (try simp only [Act.put, List.setIfInBounds_toArray, List.set_cons_zero, List.set_cons_succ])
                refine wpAnyH_take (i := 3) (v := ?_) (by (simp only [List.getElem?_toArray, List.getElem?_cons_succ, List.getElem?_cons_zero]; rfl)) (by kernel_rfl) (by kernel_rfl) (by kernel_rfl) (fun _ _ _ h => h) (Or.inl ⟨by rfl, ?_⟩) (by assumption) ?_
                rotate_left
                · intro wt hSw
                  (try dsimp only at hSw)
                  go_simp
                  (try with_reducible rfl)
                (try simp only [Act.put, List.setIfInBounds_toArray, List.set_cons_zero, List.set_cons_succ])
                refine wpAnyH_take (i := 4) (v := ?_) (by (simp only [List.getElem?_toArray, List.getElem?_cons_succ, List.getElem?_cons_zero]; rfl)) (by kernel_rfl) (by kernel_rfl) (by kernel_rfl) (fun _ _ _ h => h) (Or.inl ⟨by rfl, ?_⟩) (by assumption) ?_
                rotate_left
                · intro wt hSw
                  (try dsimp only at hSw)
                  go_simp
                  (try with_reducible rfl)
                (try simp only [Act.put, List.setIfInBounds_toArray, List.set_cons_zero, List.set_cons_succ])
                refine wpAnyH_ready (rs := [5]) (by kernel_rfl) (by simp) (AllReadyH.cons (by (simp only [List.getElem?_toArray, List.getElem?_cons_succ, List.getElem?_cons_zero]; rfl)) (fun K hK => ?_) AllReadyH.nil)
                go_simp
                (go_at_call 28; (with_reducible refine (S2.out _ (by assumption)).mono ?_); rintro e8 w8 ⟨rfl, hb⟩)
                (try go_wp2_with fail)
                refine hK.out _ _ (Tri.keep (by assumption) hb) (fun hHeld => ?_)
                clear hK
                (try simp only [Act.put, List.setIfInBounds_toArray, List.set_cons_zero, List.set_cons_succ])
                refine wpAnyH_take (i := 6) (v := ?_) (by (simp only [List.getElem?_toArray, List.getElem?_cons_succ, List.getElem?_cons_zero]; rfl)) (by kernel_rfl) (by kernel_rfl) (by kernel_rfl) (fun _ _ _ h => h) (Or.inl ⟨by rfl, ?_⟩) (by assumption) ?_
                rotate_left
                · intro wt hSw
                  (try dsimp only at hSw)
                  go_simp
                  (try with_reducible rfl)
                (try simp only [Act.put, List.setIfInBounds_toArray, List.set_cons_zero, List.set_cons_succ])
                refine wpAnyH_take (i := 7) (v := ?_) (by (simp only [List.getElem?_toArray, List.getElem?_cons_succ, List.getElem?_cons_zero]; rfl)) (by kernel_rfl) (by kernel_rfl) (by kernel_rfl) (fun _ _ _ h => h) (Or.inl ⟨by rfl, ?_⟩) (by assumption) ?_
                rotate_left
                · intro wt hSw
                  (try dsimp only at hSw)
                  go_simp
                  (try with_reducible rfl)
                (try simp only [Act.put, List.setIfInBounds_toArray, List.set_cons_zero, List.set_cons_succ])
                refine wpAnyH_take (i := 8) (v := ?_) (by (simp only [List.getElem?_toArray, List.getElem?_cons_succ, List.getElem?_cons_zero]; rfl)) (by kernel_rfl) (by kernel_rfl) (by kernel_rfl) (fun _ _ _ h => h) (Or.inl ⟨by rfl, ?_⟩) (by assumption) ?_
                rotate_left
                · intro wt hSw
                  (try dsimp only at hSw)
                  go_simp
                  (try with_reducible rfl)
                (try simp only [Act.put, List.setIfInBounds_toArray, List.set_cons_zero, List.set_cons_succ])
                refine wpAnyH_take (i := 9) (v := ?_) (by (simp only [List.getElem?_toArray, List.getElem?_cons_succ, List.getElem?_cons_zero]; rfl)) (by kernel_rfl) (by kernel_rfl) (by kernel_rfl) (fun _ _ _ h => h) (Or.inl ⟨by rfl, ?_⟩) (by assumption) ?_
                rotate_left
                · intro wt hSw
                  (try dsimp only at hSw)
                  go_simp
                  (try with_reducible rfl)
                (try simp only [Act.put, List.setIfInBounds_toArray, List.set_cons_zero, List.set_cons_succ])
                refine wpAnyH_take (i := 11) (v := ?_) (by (simp only [List.getElem?_toArray, List.getElem?_cons_succ, List.getElem?_cons_zero]; rfl)) (by kernel_rfl) (by kernel_rfl) (by kernel_rfl) (fun _ _ _ h => h) (Or.inl ⟨by rfl, ?_⟩) (by assumption) ?_
                rotate_left
                · intro wt hSw
                  (try dsimp only at hSw)
                  go_simp
                  (try with_reducible rfl)
                (try simp only [Act.put, List.setIfInBounds_toArray, List.set_cons_zero, List.set_cons_succ])
                refine wpAnyH_ready (rs := [10]) (by kernel_rfl) (by simp) (AllReadyH.cons (by (simp only [List.getElem?_toArray, List.getElem?_cons_succ, List.getElem?_cons_zero]; rfl)) (fun K hK => ?_) AllReadyH.nil)
                go_simp
                (go_at_call 29; (with_reducible refine (S3.out _ (by assumption)).mono ?_); rintro e8 w8 ⟨rfl, hb⟩)
                (try go_wp2_with fail)
                refine hK.out _ _ (Tri.keep (by assumption) hb) (fun hHeld => ?_)
                clear hK
                (try simp only [Act.put, List.setIfInBounds_toArray, List.set_cons_zero, List.set_cons_succ])
                refine wpAnyH_ready (rs := [12]) (by kernel_rfl) (by simp) (AllReadyH.cons (by (simp only [List.getElem?_toArray, List.getElem?_cons_succ, List.getElem?_cons_zero]; rfl)) (fun K hK => ?_) AllReadyH.nil)
                go_simp
                (go_at_call 29; (with_reducible refine (S4.out _ (by assumption)).mono ?_); rintro e8 w8 ⟨rfl, hb⟩)
                (try go_wp2_with fail)
                refine hK.out _ _ (Tri.keep (by assumption) hb) (fun hHeld => ?_)
                clear hK
                (try simp only [Act.put, List.setIfInBounds_toArray, List.set_cons_zero, List.set_cons_succ])
                refine wpAnyH_take (i := 13) (v := ?_) (by (simp only [List.getElem?_toArray, List.getElem?_cons_succ, List.getElem?_cons_zero]; rfl)) (by kernel_rfl) (by kernel_rfl) (by kernel_rfl) (fun _ _ _ h => h) (Or.inl ⟨by rfl, ?_⟩) (by assumption) ?_
                rotate_left
                · intro wt hSw
                  (try dsimp only at hSw)
                  go_simp
                  (try with_reducible rfl)
                (try simp only [Act.put, List.setIfInBounds_toArray, List.set_cons_zero, List.set_cons_succ])
                refine wpAnyH_take (i := 14) (v := ?_) (by (simp only [List.getElem?_toArray, List.getElem?_cons_succ, List.getElem?_cons_zero]; rfl)) (by kernel_rfl) (by kernel_rfl) (by kernel_rfl) (fun _ _ _ h => h) (Or.inl ⟨by rfl, ?_⟩) (by assumption) ?_
                rotate_left
                · intro wt hSw
                  (try dsimp only at hSw)
                  go_simp
                  (try with_reducible rfl)
                (try simp only [Act.put, List.setIfInBounds_toArray, List.set_cons_zero, List.set_cons_succ])
                refine wpAnyH_take (i := 15) (v := ?_) (by (simp only [List.getElem?_toArray, List.getElem?_cons_succ, List.getElem?_cons_zero]; rfl)) (by kernel_rfl) (by kernel_rfl) (by kernel_rfl) (fun _ _ _ h => h) (Or.inl ⟨by rfl, ?_⟩) (by assumption) ?_
                rotate_left
                · intro wt hSw
                  (try dsimp only at hSw)
                  go_simp
                  (try with_reducible rfl)
                (try simp only [Act.put, List.setIfInBounds_toArray, List.set_cons_zero, List.set_cons_succ])
                refine wpAnyH_take (i := 16) (v := undef) (by (simp only [List.getElem?_toArray, List.getElem?_cons_succ, List.getElem?_cons_zero]; rfl)) (by kernel_rfl) (by kernel_rfl) (by kernel_rfl) (fun _ _ _ h => h) (Or.inr ⟨by rfl, rfl⟩) (by assumption) ?_
                (try simp only [Act.put, List.setIfInBounds_toArray, List.set_cons_zero, List.set_cons_succ])
                refine wpAnyH_take (i := 17) (v := undef) (by (simp only [List.getElem?_toArray, List.getElem?_cons_succ, List.getElem?_cons_zero]; rfl)) (by kernel_rfl) (by kernel_rfl) (by kernel_rfl) (fun _ _ _ h => h) (Or.inr ⟨by rfl, rfl⟩) (by assumption) ?_
                (try simp only [Act.put, List.setIfInBounds_toArray, List.set_cons_zero, List.set_cons_succ])
                refine wpAnyH_take (i := 18) (v := ?_) (by (simp only [List.getElem?_toArray, List.getElem?_cons_succ, List.getElem?_cons_zero]; rfl)) (by kernel_rfl) (by kernel_rfl) (by kernel_rfl) (fun _ _ _ h => h) (Or.inl ⟨by rfl, ?_⟩) (by assumption) ?_
                rotate_left
                · intro wt hSw
                  (try dsimp only at hSw)
                  go_simp
                  (try with_reducible rfl)
                (try simp only [Act.put, List.setIfInBounds_toArray, List.set_cons_zero, List.set_cons_succ])
                refine wpAnyH_take (i := 19) (v := ?_) (by (simp only [List.getElem?_toArray, List.getElem?_cons_succ, List.getElem?_cons_zero]; rfl)) (by kernel_rfl) (by kernel_rfl) (by kernel_rfl) (fun _ _ _ h => h) (Or.inl ⟨by rfl, ?_⟩) (by assumption) ?_
                rotate_left
                · intro wt hSw
                  (try dsimp only at hSw)
                  go_simp
                  (try with_reducible rfl)
                (try simp only [Act.put, List.setIfInBounds_toArray, List.set_cons_zero, List.set_cons_succ])
                refine wpAnyH_done (by kernel_rfl) (NoPanic.normal ?_) _
                go_wp2
                go_ret
                exact ⟨rfl, Tri.below' (by assumption)⟩
              · have g3b : decide (bY ≤ bx) = false := by simp; omega
                have g4 : a = -1 := hfin g1 g2 g3
                clear HA
                subst g4
                clear hfin
                go_wp2_with fail
                refine wp_region_noPanic ?_
                refine wp_region_held_drew (S := (fun wx => Tri w wx w.heap.size (w.heap.size + 1) (w.heap.size + 1 + 1) n1 n2 n3 A B C xs ys zs c d e ∧ wx.cell? ⟨w.heap.size, 0, none⟩ = some (.bool n1) ∧ wx.cell? ⟨w.heap.size, 1, none⟩ = some (.slice A xs.length c) ∧ wx.cell? ⟨w.heap.size + 1, 0, none⟩ = some (.bool n2) ∧ wx.cell? ⟨w.heap.size + 1, 1, none⟩ = some (.slice B ys.length d) ∧ wx.cell? ⟨w.heap.size + 1 + 1, 0, none⟩ = some (.bool n3) ∧ wx.cell? ⟨w.heap.size + 1 + 1, 1, none⟩ = some (.slice C zs.length e))) (by kernel_rfl) (Tri.keep HT8.out ((Below.refl _ _).drew)) (fun hHeld => ?_)
                refine wpAnyH_take (i := 0) (v := ?_) (by (simp only [List.getElem?_toArray, List.getElem?_cons_succ, List.getElem?_cons_zero]; rfl)) (by kernel_rfl) (by kernel_rfl) (by kernel_rfl) (fun _ _ _ h => h) (Or.inl ⟨by rfl, ?_⟩) (by assumption) ?_
                rotate_left
                · intro wt hSw
                  (try dsimp only at hSw)
                  go_simp
                  (try with_reducible rfl)
                (try simp only [Act.put, List.setIfInBounds_toArray, List.set_cons_zero, List.set_cons_succ])
                refine wpAnyH_ready (rs := [1]) (by kernel_rfl) (by simp) (AllReadyH.cons (by (simp only [List.getElem?_toArray, List.getElem?_cons_succ, List.getElem?_cons_zero]; rfl)) (fun K hK => ?_) AllReadyH.nil)
                go_simp
                (go_at_call 28; (with_reducible refine (S1.out _ (by assumption)).mono ?_); rintro e8 w8 ⟨rfl, hb⟩)
                (try go_wp2_with fail)
                refine hK.out _ _ (Tri.keep (by assumption) hb) (fun hHeld => ?_)
                clear hK
                (try simp only [Act.put, List.setIfInBounds_toArray, List.set_cons_zero, List.set_cons_succ])
                refine wpAnyH_take (i := 2) (v := ?_) (by (simp only [List.getElem?_toArray, List.getElem?_cons_succ, List.getElem?_cons_zero]; rfl)) (by kernel_rfl) (by kernel_rfl) (by kernel_rfl) (fun _ _ _ h => h) (Or.inl ⟨by rfl, ?_⟩) (by assumption) ?_
                rotate_left
                · intro wt hSw
                  (try dsimp only at hSw)
                  go_simp
                  (try with_reducible rfl)
                (try simp only [Act.put, List.setIfInBounds_toArray, List.set_cons_zero, List.set_cons_succ])
                refine wpAnyH_take (i := 3) (v := ?_) (by (simp only [List.getElem?_toArray, List.getElem?_cons_succ, List.getElem?_cons_zero]; rfl)) (by kernel_rfl) (by kernel_rfl) (by kernel_rfl) (fun _ _ _ h => h) (Or.inl ⟨by rfl, ?_⟩) (by assumption) ?_
                rotate_left
                · intro wt hSw
                  (try dsimp only at hSw)
                  go_simp
                  (try with_reducible rfl)
                (try simp only [Act.put, List.setIfInBounds_toArray, List.set_cons_zero, List.set_cons_succ])
                refine wpAnyH_take (i := 4) (v := ?_) (by (simp only [List.getElem?_toArray, List.getElem?_cons_succ, List.getElem?_cons_zero]; rfl)) (by kernel_rfl) (by kernel_rfl) (by kernel_rfl) (fun _ _ _ h => h) (Or.inl ⟨by rfl, ?_⟩) (by assumption) ?_
                rotate_left
                · intro wt hSw
                  (try dsimp only at hSw)
                  go_simp
                  (try with_reducible rfl)
                (try simp only [Act.put, List.setIfInBounds_toArray, List.set_cons_zero, List.set_cons_succ])
                refine wpAnyH_ready (rs := [5]) (by kernel_rfl) (by simp) (AllReadyH.cons (by (simp only [List.getElem?_toArray, List.getElem?_cons_succ, List.getElem?_cons_zero]; rfl)) (fun K hK => ?_) AllReadyH.nil)
                go_simp
                (go_at_call 28; (with_reducible refine (S2.out _ (by assumption)).mono ?_); rintro e8 w8 ⟨rfl, hb⟩)
                (try go_wp2_with fail)
                refine hK.out _ _ (Tri.keep (by assumption) hb) (fun hHeld => ?_)
                clear hK
                (try simp only [Act.put, List.setIfInBounds_toArray, List.set_cons_zero, List.set_cons_succ])
                refine wpAnyH_take (i := 6) (v := ?_) (by (simp only [List.getElem?_toArray, List.getElem?_cons_succ, List.getElem?_cons_zero]; rfl)) (by kernel_rfl) (by kernel_rfl) (by kernel_rfl) (fun _ _ _ h => h) (Or.inl ⟨by rfl, ?_⟩) (by assumption) ?_
                rotate_left
                · intro wt hSw
                  (try dsimp only at hSw)
                  go_simp
                  (try with_reducible rfl)
                (try simp only [Act.put, List.setIfInBounds_toArray, List.set_cons_zero, List.set_cons_succ])
                refine wpAnyH_take (i := 7) (v := ?_) (by (simp only [List.getElem?_toArray, List.getElem?_cons_succ, List.getElem?_cons_zero]; rfl)) (by kernel_rfl) (by kernel_rfl) (by kernel_rfl) (fun _ _ _ h => h) (Or.inl ⟨by rfl, ?_⟩) (by assumption) ?_
                rotate_left
                · intro wt hSw
                  (try dsimp only at hSw)
                  go_simp
                  (try with_reducible rfl)
                (try simp only [Act.put, List.setIfInBounds_toArray, List.set_cons_zero, List.set_cons_succ])
                refine wpAnyH_take (i := 8) (v := ?_) (by (simp only [List.getElem?_toArray, List.getElem?_cons_succ, List.getElem?_cons_zero]; rfl)) (by kernel_rfl) (by kernel_rfl) (by kernel_rfl) (fun _ _ _ h => h) (Or.inl ⟨by rfl, ?_⟩) (by assumption) ?_
                rotate_left
                · intro wt hSw
                  (try dsimp only at hSw)
                  go_simp
                  (try with_reducible rfl)
                (try simp only [Act.put, List.setIfInBounds_toArray, List.set_cons_zero, List.set_cons_succ])
                refine wpAnyH_take (i := 9) (v := ?_) (by (simp only [List.getElem?_toArray, List.getElem?_cons_succ, List.getElem?_cons_zero]; rfl)) (by kernel_rfl) (by kernel_rfl) (by kernel_rfl) (fun _ _ _ h => h) (Or.inl ⟨by rfl, ?_⟩) (by assumption) ?_
                rotate_left
                · intro wt hSw
                  (try dsimp only at hSw)
                  go_simp
                  (try with_reducible rfl)
                (try simp only [Act.put, List.setIfInBounds_toArray, List.set_cons_zero, List.set_cons_succ])
                refine wpAnyH_take (i := 11) (v := ?_) (by (simp only [List.getElem?_toArray, List.getElem?_cons_succ, List.getElem?_cons_zero]; rfl)) (by kernel_rfl) (by kernel_rfl) (by kernel_rfl) (fun _ _ _ h => h) (Or.inl ⟨by rfl, ?_⟩) (by assumption) ?_
                rotate_left
                · intro wt hSw
                  (try dsimp only at hSw)
                  go_simp
                  (try with_reducible rfl)
                (try simp only [Act.put, List.setIfInBounds_toArray, List.set_cons_zero, List.set_cons_succ])
                refine wpAnyH_ready (rs := [10]) (by kernel_rfl) (by simp) (AllReadyH.cons (by (simp only [List.getElem?_toArray, List.getElem?_cons_succ, List.getElem?_cons_zero]; rfl)) (fun K hK => ?_) AllReadyH.nil)
                go_simp
                (go_at_call 29; (with_reducible refine (S3.out _ (by assumption)).mono ?_); rintro e8 w8 ⟨rfl, hb⟩)
                (try go_wp2_with fail)
                refine hK.out _ _ (Tri.keep (by assumption) hb) (fun hHeld => ?_)
                clear hK
                (try simp only [Act.put, List.setIfInBounds_toArray, List.set_cons_zero, List.set_cons_succ])
                refine wpAnyH_ready (rs := [12]) (by kernel_rfl) (by simp) (AllReadyH.cons (by (simp only [List.getElem?_toArray, List.getElem?_cons_succ, List.getElem?_cons_zero]; rfl)) (fun K hK => ?_) AllReadyH.nil)
                go_simp
                (go_at_call 29; (with_reducible refine (S4.out _ (by assumption)).mono ?_); rintro e8 w8 ⟨rfl, hb⟩)
                (try go_wp2_with fail)
                refine hK.out _ _ (Tri.keep (by assumption) hb) (fun hHeld => ?_)
                clear hK
                (try simp only [Act.put, List.setIfInBounds_toArray, List.set_cons_zero, List.set_cons_succ])
                refine wpAnyH_take (i := 13) (v := ?_) (by (simp only [List.getElem?_toArray, List.getElem?_cons_succ, List.getElem?_cons_zero]; rfl)) (by kernel_rfl) (by kernel_rfl) (by kernel_rfl) (fun _ _ _ h => h) (Or.inl ⟨by rfl, ?_⟩) (by assumption) ?_
                rotate_left
                · intro wt hSw
                  (try dsimp only at hSw)
                  go_simp
                  (try with_reducible rfl)
                (try simp only [Act.put, List.setIfInBounds_toArray, List.set_cons_zero, List.set_cons_succ])
                refine wpAnyH_take (i := 14) (v := ?_) (by (simp only [List.getElem?_toArray, List.getElem?_cons_succ, List.getElem?_cons_zero]; rfl)) (by kernel_rfl) (by kernel_rfl) (by kernel_rfl) (fun _ _ _ h => h) (Or.inl ⟨by rfl, ?_⟩) (by assumption) ?_
                rotate_left
                · intro wt hSw
                  (try dsimp only at hSw)
                  go_simp
                  (try with_reducible rfl)
                (try simp only [Act.put, List.setIfInBounds_toArray, List.set_cons_zero, List.set_cons_succ])
                refine wpAnyH_take (i := 15) (v := ?_) (by (simp only [List.getElem?_toArray, List.getElem?_cons_succ, List.getElem?_cons_zero]; rfl)) (by kernel_rfl) (by kernel_rfl) (by kernel_rfl) (fun _ _ _ h => h) (Or.inl ⟨by rfl, ?_⟩) (by assumption) ?_
                rotate_left
                · intro wt hSw
                  (try dsimp only at hSw)
                  go_simp
                  (try with_reducible rfl)
                (try simp only [Act.put, List.setIfInBounds_toArray, List.set_cons_zero, List.set_cons_succ])
                refine wpAnyH_take (i := 16) (v := ?_) (by (simp only [List.getElem?_toArray, List.getElem?_cons_succ, List.getElem?_cons_zero]; rfl)) (by kernel_rfl) (by kernel_rfl) (by kernel_rfl) (fun _ _ _ h => h) (Or.inl ⟨by rfl, ?_⟩) (by assumption) ?_
                rotate_left
                · intro wt hSw
                  (try dsimp only at hSw)
                  go_simp
                  (try with_reducible rfl)
                (try simp only [Act.put, List.setIfInBounds_toArray, List.set_cons_zero, List.set_cons_succ])
                refine wpAnyH_take (i := 17) (v := ?_) (by (simp only [List.getElem?_toArray, List.getElem?_cons_succ, List.getElem?_cons_zero]; rfl)) (by kernel_rfl) (by kernel_rfl) (by kernel_rfl) (fun _ _ _ h => h) (Or.inl ⟨by rfl, ?_⟩) (by assumption) ?_
                rotate_left
                · intro wt hSw
                  (try dsimp only at hSw)
                  go_simp
                  (try with_reducible rfl)
                (try simp only [Act.put, List.setIfInBounds_toArray, List.set_cons_zero, List.set_cons_succ])
                refine wpAnyH_take (i := 18) (v := ?_) (by (simp only [List.getElem?_toArray, List.getElem?_cons_succ, List.getElem?_cons_zero]; rfl)) (by kernel_rfl) (by kernel_rfl) (by kernel_rfl) (fun _ _ _ h => h) (Or.inl ⟨by rfl, ?_⟩) (by assumption) ?_
                rotate_left
                · intro wt hSw
                  (try dsimp only at hSw)
                  go_simp
                  (try with_reducible rfl)
                (try simp only [Act.put, List.setIfInBounds_toArray, List.set_cons_zero, List.set_cons_succ])
                refine wpAnyH_take (i := 19) (v := ?_) (by (simp only [List.getElem?_toArray, List.getElem?_cons_succ, List.getElem?_cons_zero]; rfl)) (by kernel_rfl) (by kernel_rfl) (by kernel_rfl) (fun _ _ _ h => h) (Or.inl ⟨by rfl, ?_⟩) (by assumption) ?_
                rotate_left
                · intro wt hSw
                  (try dsimp only at hSw)
                  go_simp
                  (try with_reducible rfl)
                (try simp only [Act.put, List.setIfInBounds_toArray, List.set_cons_zero, List.set_cons_succ])
                refine wpAnyH_done (by kernel_rfl) (NoPanic.normal ?_) _
                go_wp2
                go_ret
                exact ⟨rfl, Tri.below' (by assumption)⟩
  · rw [Bool.not_eq_true] at ho
    rw [ho]
    clear ho H1 H2 H3 R1 R2 R3
    go_wp2_with fail
    refine (alive_any w2 (tab_below HT.out B2)).mono ?_
    rintro e3 w3 ⟨rfl, q3⟩
    go_wp2
    go_ret
    exact ⟨rfl, B2.trans (q3.mono B2.size)⟩
end Go.Proofs.YtchfnkfdopbflaaDoor
