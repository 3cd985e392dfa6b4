/-
  What the methods of large.Int return: lengths, signs, limbs; and large.Of. No conditions but that the lists are lists of words without noughts at the end.
-/
import Derived.Test.YtplgheabhekedaaGreatDoorFrom
import Derived.Test.YtplgheabhekedaaGreatDoorMid
import Derived.Test.YtplgheabhekedaaGreatDoorCmp
namespace Go.Proofs.YtplgheabhekedaaGreatDoor
open Go.RowKit Nb

set_option maxHeartbeats 400000 in
theorem bits_any (neg : Bool) (A : Option Addr) (ls : List Nat) (c : Nat) (w : World) (hr : Sl .u64 w w.heap.size A ls) (hd : Dig W64 ls) (hl : ls.length * 8 ≤ 140737488351232) :
    Calls Tryz.prog 168 #[big neg A ls.length c] w fun e w' => e = .returned (.int .i64 (lenL ls)) ∧ Below w.heap.size w w' := by
  have hx := length_any A ls c (w.alloc (.cells #[.bool neg, .slice A ls.length c] 85)) ((hr.alloc (Nat.le_refl _) _).more (by simp)) hd hl
  have HX := Lib.hid hx; clear hx
  go_enter Tryz.func168, Tryz.ntmps168
  go_wp2_with (go_at_call 186; refine (HX.out).mono ?_; rintro e w' ⟨rfl, rfl⟩)
  go_ret
  exact ⟨rfl, by go_grown⟩

theorem lenL_le {ls : List Nat} (hd : Dig W64 ls) : lenL ls ≤ 64 * ls.length := by
  rcases h : ls.length with _ | j
  · unfold lenL; rw [dif_pos h]; omega
  · rw [lenL_pos h]
    have := bitLen_le64 ls[j] (hd.get (by omega))
    omega

set_option maxHeartbeats 400000 in
theorem limbs_any (neg : Bool) (A : Option Addr) (ls : List Nat) (c : Nat) (w : World) (hr : Sl .u64 w w.heap.size A ls) (hd : Dig W64 ls) (hl : ls.length * 8 ≤ 140737488351232) :
    Calls Tryz.prog 151 #[big neg A ls.length c] w fun e w' => e = .returned (.int .i64 (limbsL ls)) ∧ Below w.heap.size w w' := by
  have hx := bits_any neg A ls c (w.alloc (.cells #[.bool neg, .slice A ls.length c] 85)) ((hr.alloc (Nat.le_refl _) _).more (by simp)) hd hl
  have HX := Lib.hid hx; clear hx
  have hb := lenL_le hd
  have hb2 : lenL ls ≤ 1125899906809856 := by omega
  clear hb
  go_enter Tryz.func151, Tryz.ntmps151
  go_wp2_with (go_at_call 168; refine (HX.out).mono ?_; rintro e w' ⟨rfl, hb1⟩)
  go_ret
  exact ⟨by simp [limbsL], (show Below w.heap.size w _ by go_grown).trans (hb1.mono (by go_size))⟩

/-- The sign of a number. -/
def sgn (neg : Bool) (ls : List Nat) : Int := if neg then -1 else if ls.length = 0 then 0 else 1

set_option maxHeartbeats 400000 in
theorem sign_any (neg : Bool) (A : Option Addr) (ls : List Nat) (c : Nat) (w : World) (hl : ls.length * 8 ≤ 140737488351232) :
    Calls Tryz.prog 106 #[big neg A ls.length c] w fun e w' => e = .returned (.int .i64 (sgn neg ls)) ∧ Below w.heap.size w w' := by
  rcases neg with _ | _
  · unfold sgn
    rcases hn : ls.length with _ | j
    · clear hn
      go_enter Tryz.func106, Tryz.ntmps106
      go_wp2
      go_ret
      exact ⟨rfl, by go_grown⟩
    · have hj : j + 1 ≤ 140737488351232 := by omega
      clear hn hl
      go_enter Tryz.func106, Tryz.ntmps106
      go_wp2
      go_ret
      exact ⟨by simp; omega, by go_grown⟩
  · go_enter Tryz.func106, Tryz.ntmps106
    go_wp2
    go_ret
    exact ⟨rfl, by go_grown⟩

set_option maxHeartbeats 400000 in
theorem int_any (neg : Bool) (A : Option Addr) (ws : List Nat) (c : Nat) (w : World) (hr : Sl .u64 w w.heap.size A ws) (hd : Dig W64 ws) (_hn : Norm ws) (hl : ws.length * 8 ≤ 140737488351232) :
    Calls Tryz.prog 112 #[big neg A ws.length c] w fun e w' => ∃ g, e = .returned (big neg (some ⟨g, 0, none⟩) (unpack ws).length (unpack ws).length) ∧
      Row .u32 w' g 171 (unpack ws) ∧ w.heap.size ≤ g ∧ Below w.heap.size w w' := by
  have hb := lenL_le hd
  have hul := unpack_length ws
  have hul2 : (unpack ws).length ≤ 35184372087808 := by rw [hul]; unfold limbsL; omega
  have hx := limbs_any neg A ws c ((w.alloc (.cells #[.bool neg, .slice A ws.length c] 85)).alloc (.cells #[.bool false, .slice none 0 0] 24)) (((hr.alloc (Nat.le_refl _) _).alloc (by go_size) _).more (by go_size)) hd hl
  rw [← hul] at hx
  have HX := Lib.hid hx; clear hx
  have HU := Lib.hid hul; clear hul hb
  have hz : List.replicate (unpack ws).length 0 = (unpack ws).take 0 ++ List.replicate ((unpack ws).length - 0) 0 := by simp
  have HZ := Lib.hid hz; clear hz
  go_enter Tryz.func112, Tryz.ntmps112
  go_wp2_with (first
    | (go_at_call 151; refine (HX.out).mono ?_; rintro e w0 ⟨rfl, hb0⟩
       have a0 : w0.cell? ⟨w.heap.size, 0, none⟩ = some (.bool neg) := by rw [hb0.cell (by go_size)]; go_cell
       have a1 : w0.cell? ⟨w.heap.size, 1, none⟩ = some (.slice A ws.length c) := by rw [hb0.cell (by go_size)]; go_cell
       have b0 : w0.cell? ⟨w.heap.size + 1, 0, none⟩ = some (.bool false) := by rw [hb0.cell (by go_size)]; go_cell
       have b1 : w0.cell? ⟨w.heap.size + 1, 1, none⟩ = some (.slice none 0 0) := by rw [hb0.cell (by go_size)]; go_cell
       have g0 : w0.frozen? ⟨w.heap.size + 1, 0, none⟩ = false := by rw [hb0.frozen (by go_size)]; simp
       have g1 : w0.frozen? ⟨w.heap.size + 1, 1, none⟩ = false := by rw [hb0.frozen (by go_size)]; simp
       have hbw0 : Below w.heap.size w w0 := by refine Below.trans ?_ (hb0.mono (by go_size)); go_grown
       have hsz : w.heap.size + 1 + 1 ≤ w0.heap.size := by have := hb0.size; simpa using this
       clear hb0)
    | (at_make; refine wpList_make_row _ rfl _ _ 22 rfl 171 .u32 4 Tryz.underlying22 info_u32 _ _ _ _ (unpack ws).length rfl rfl (by omega) (by omega) (by omega) (by unfold maxLen; omega) ?_
       intro w1 hrow hbel
       have c0 := (hbel.cell (p := ⟨w.heap.size, 0, none⟩) (by go_size)).trans a0
       have c1 := (hbel.cell (p := ⟨w.heap.size, 1, none⟩) (by go_size)).trans a1
       have d0 := (hbel.cell (p := ⟨w.heap.size + 1, 0, none⟩) (by go_size)).trans b0
       have d1 := (hbel.cell (p := ⟨w.heap.size + 1, 1, none⟩) (by go_size)).trans b1
       have f0 := (hbel.frozen (p := ⟨w.heap.size + 1, 0, none⟩) (by go_size)).trans g0
       have f1 := (hbel.frozen (p := ⟨w.heap.size + 1, 1, none⟩) (by go_size)).trans g1
       have hbw := hbw0.trans (hbel.mono hbw0.size)
       rw [HZ.out] at hrow))
  generalize hG : w0.heap.size = G at *
  have HG := Lib.hid hG; clear hG
  go_loopw [10] (fun iv wr => ∃ k : Nat, k ≤ (unpack ws).length ∧ iv = .int .i64 k ∧ Row .u32 wr G 171 ((unpack ws).take k ++ List.replicate ((unpack ws).length - k) 0) ∧ Below G w1 wr) (fun iv _ => (unpack ws).length - (intOf iv).toNat)
  case atStart => exact ⟨0, Nat.zero_le _, rfl, hrow, Below.refl _ _⟩
  case round =>
    obtain ⟨k, hk, rfl, hrow, hbr⟩ := hrel
    rw [← hbr.cell (by go_size)] at c0 c1 d0 d1
    rw [← hbr.frozen (by go_size)] at f0 f1
    by_cases hlt : k < (unpack ws).length
    · have hset := fill_set (unpack ws) hlt
      have hug := unpack_get ws hlt
      have hkw : k / 2 < ws.length := by
        have h1 := HU.out
        have h2 := lenL_le hd
        unfold limbsL at h1
        omega
      have hgd : ws.getD (k / 2) 0 = ws[k / 2] := by rw [List.getD_eq_getElem?_getD, List.getElem?_eq_getElem hkw]; rfl
      rw [hgd] at hug
      obtain ⟨ad, rfl, hb1, h1⟩ := (hr.below hbw).at_ hkw
      rw [← hbr.cell (by omega)] at h1
      have hfl := fill_len (unpack ws) (k := k) (by omega)
      have gf := hrow.frozen k
      have gc := hrow.cell (i := k) (by rw [hfl]; exact hlt)
      have hx : ws[k / 2] < 18446744073709551616 := hd.get hkw
      have hji : (k : Int) < ((unpack ws).length : Int) := by omega
      have hjw : (k : Int) / 2 < (ws.length : Int) := by omega
      generalize ((unpack ws).take k ++ List.replicate ((unpack ws).length - k) 0)[k]'(by rw [hfl]; exact hlt) = old at *
      generalize ws[k / 2] = x at *
      have HS := Lib.hid hset; clear hset hfl hgd
      have HX : (x : Int) ≤ 18446744073709551615 := by omega
      rcases Nat.mod_two_eq_zero_or_one k with he | he
      · have hm : (k : Int) % 2 = 0 := by omega
        rw [he] at hug
        have HUG := Lib.hid hug; clear hug he hx
        go_wp2
        go_roundw
        case rel =>
          refine ⟨k + 1, by omega, by go_num, ?_, hbr.setCell (by simp) _⟩
          rw [← HS.out]
          have h := hrow.set_ k (unpack ws)[k]
          rw [show (((unpack ws)[k] : Nat) : Int) = (x : Int) % 4294967296 by rw [HUG.out]; simp] at h
          exact h
        case measure => simp [intOf]; omega
      · have hm : (k : Int) % 2 = 1 := by omega
        rw [he] at hug
        have HUG := Lib.hid hug; clear hug he hx
        go_wp2
        go_roundw
        case rel =>
          refine ⟨k + 1, by omega, by go_num, ?_, hbr.setCell (by simp) _⟩
          rw [← HS.out]
          have h := hrow.set_ k (unpack ws)[k]
          rw [show (((unpack ws)[k] : Nat) : Int) = (x : Int) / 4294967296 by rw [HUG.out]; simp; omega] at h
          exact h
        case measure => simp [intOf]; omega
    · go_wp2
      have hkl : k = (unpack ws).length := by omega
      subst hkl
      rw [fill_end] at hrow
      refine bodyPost_ret (v := big neg (some ⟨G, 0, none⟩) (unpack ws).length (unpack ws).length) (by simp [results, Tryz.results112, go_sem, d0, d1]) rfl ?_
      refine ⟨G, rfl, (hrow.far (by simp; omega) _).far (by simp; omega) _, by omega, ?_⟩
      exact ((hbw.trans (hbr.mono (by omega))).setCell (by simp) _).setCell (by simp) _
end Go.Proofs.YtplgheabhekedaaGreatDoor
