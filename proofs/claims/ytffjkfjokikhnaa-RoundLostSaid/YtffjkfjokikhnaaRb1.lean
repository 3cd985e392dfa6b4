/-
  What the document's own sub returns. Condition: that it is not more that is taken.
-/
import Derived.Test.YtffjkfjokikhnaaRb0
namespace Go.Proofs.Ytffjkfjokikhnaa
open Go.RowKit Nb

theorem sub_step {k o o' x y d X Y : Nat} {zs : List Nat} (he : val W32 zs + Y = X + W32 ^ k * o) (hl : zs.length = k) (hd : d + (o + y) = x + W32 * o') : val W32 (zs ++ [d]) + (Y + W32 ^ k * y) = X + W32 ^ k * x + W32 ^ (k + 1) * o' := by
  rw [val_snoc, hl, Nat.pow_succ]
  have e : W32 ^ k * (d + (o + y)) = W32 ^ k * (x + W32 * o') := by rw [hd]
  rw [Nat.mul_add, Nat.mul_add, Nat.mul_add, ← Nat.mul_assoc] at e
  omega
theorem W32_i : ((W32 : Nat) : Int) = 4294967296 := rfl

/-- A list of limbs without noughts at its end. -/
def LimbsN (w : World) (V C : Nat) (v : Value) (w' : World) : Prop := ∃ (A : Option Addr) (zs : List Nat) (c : Nat), v = .slice A zs.length c ∧ Sl .u32 w' w'.heap.size A zs ∧ Dig W32 zs ∧ Norm zs ∧ val W32 zs = V ∧ zs.length ≤ c ∧ c ≤ maxLen ∧ zs.length ≤ C ∧ Below w.heap.size w w'

set_option maxHeartbeats 3200000 in
set_option maxRecDepth 20000 in
theorem rsub_any (A B : Option Addr) (xs ys : List Nat) (c d : Nat) (w : World) (hx : Sl .u32 w w.heap.size A xs) (hy : Sl .u32 w w.heap.size B ys) (dx : Dig W32 xs) (dy : Dig W32 ys)
    (hle : val W32 ys ≤ val W32 xs) (hlen : ys.length ≤ xs.length) (hl : xs.length * 4 ≤ 140737488351232) :
    Calls Try.prog 93 #[.slice A xs.length c, .slice B ys.length d] w fun e w' => ∃ v, e = .returned v ∧ LimbsN w (val W32 xs - val W32 ys) xs.length v w' := by
  obtain ⟨i0, hi, hz0, hz1, hz2⟩ := info_parts info_u32
  go_enter Try.func93, Try.ntmps93
  go_wp2_with fail
  go_loopg [5, 6, 7] xs.length (fun g ov cv iv wr => ∃ (k o : Nat) (zs : List Nat), iv = .int .i64 k ∧ k + g = xs.length ∧ cv = .int .u64 o ∧ o ≤ 1 ∧ zs.length = k ∧ Dig W32 zs ∧ val W32 zs + val W32 (ys.take k) = val W32 (xs.take k) + W32 ^ k * o ∧
      wr.ownsRow w.heap.size 85 1 ov zs.length (zs.map fun n : Nat => Value.int .u32 n) ∧ Below w.heap.size w wr)
  case atStart => exact ⟨0, 0, [], rfl, by omega, rfl, by omega, rfl, Dig.nil _, by simp [val], World.ownsRow_nil _ _ _ _, Below.refl _ _⟩
  case round =>
    obtain ⟨k, o, zs, rfl, hkg, rfl, ho, hzl, hzd, he, hown, hbel⟩ := hrel
    have HZ := Lib.hid hzl
    have HG := Lib.hid hkg
    have hgs := hbel.size
    cases gk with
    | zero =>
      obtain rfl : k = xs.length := by omega
      rw [List.take_length, List.take_of_length_le hlen] at he
      have hzlt := val_lt hzd
      rw [hzl] at hzlt
      have ho0 : o = 0 := by
        rcases Nat.eq_zero_or_pos o with h | h
        · exact h
        · obtain rfl : o = 1 := by omega
          omega
      have hv : val W32 zs = val W32 xs - val W32 ys := by rw [ho0] at he; omega
      have HV := Lib.hid hv
      obtain ⟨A', es, c', rfl, q1, q2, q3, q4, q5, q6, q7⟩ := limbs_own (C := xs.length) hown hzd (by omega) hbel
      have HT := Lib.hid (rtrim_any A' es c' wr q1 q4 q5)
      have HS := Lib.hid q1
      have hln := trimL_len es
      have HE := Lib.hid q3
      clear hkg hzl hzlt ho0 hv hown hgs q1 q3
      go_wp2_with fail
      refine (HT.out).mono ?_
      rintro e w5 ⟨rfl, rfl⟩
      go_wp2_with fail
      go_ret
      exact ⟨_, rfl, A', trimL es, c', rfl, sl_trimL HS.out, dig_trimL q2, norm_trimL _, by rw [val_trimL, HE.out, HV.out], by omega, q5, by omega, q7⟩
    | succ g1 =>
      have hkx : k < xs.length := by omega
      have htx := val_take_succ W32 hkx
      obtain ⟨ad, rfl, _, h1⟩ := (hx.below hbel).at_ hkx
      have hxx := dx.get hkx
      generalize xs[k] = x at *
      have hx1 : x ≤ 4294967295 := by have : x < 4294967296 := hxx; omega
      have hxi : (k : Int) < (xs.length : Int) := by omega
      have hzk : zs.length + 1 ≤ xs.length := by omega
      have HOWN := Lib.hid hown
      by_cases hky : k < ys.length
      · have hty := val_take_succ W32 hky
        obtain ⟨bd, rfl, _, h2⟩ := (hy.below hbel).at_ hky
        have hyy := dy.get hky
        generalize ys[k] = y at *
        have hy1 : y ≤ 4294967295 := by have : y < 4294967296 := hyy; omega
        have hyi : (k : Int) < (ys.length : Int) := by omega
        by_cases hcmp : x < o + y
        · obtain ⟨D, hD⟩ : ∃ D, x + 4294967296 - (o + y) = D := ⟨_, rfl⟩
          have hDi : (x : Int) + 4294967296 - ((o : Int) + (y : Int)) = (D : Int) := by omega
          have hst := sub_step (o' := 1) (d := D) (x := x) (y := y) he HZ.out (by show D + (o + y) = x + 4294967296 * 1; omega)
          have hlt : (x : Int) < (o : Int) + (y : Int) := by omega
          have hD1 : D ≤ 4294967295 := by omega
          rw [← htx, ← hty] at hst
          have HST := Lib.hid hst
          have HD : Hid (D < W32) := Lib.hid (by show D < 4294967296; omega)
          clear hst hD he hcmp htx hty hzl hkg
          go_wp2_with (at_builtin; refine wpList_append_own _ rfl (.tmp 38) (.tmp 43) 47 rfl w.heap.size 85 i0 (.int .u32 0) 1 4 Try.underlying47 hi hz0 hz1 hz2 rfl (by decide) _ _ _ rfl (HOWN.out.alloc _) ⟨wr.heap.size, 0, none⟩ 1 1 [.int .u32 (D : Nat)] rfl rfl (by intro j u hj; match j, hj with | 0, hj => simp at hj; subst hj; simp [Addr.add]) (by intro u hu; simp at hu; subst hu; rfl) (by unfold maxLen; omega) (by omega) (by simp; omega) ?_
                       intro v' w3 hown3 hgrow3 _)
          have hbel3 : Below w.heap.size w w3 := (hbel.alloc (by omega) _).grown hgrow3 (by simp; omega) (fun q hq => (HOWN.out.lt q hq).1)
          have HB3 := Lib.hid hbel3
          have HO3 := Lib.hid hown3
          clear hbel3 hown3 hgrow3
          go_wp2_with fail
          go_roundg g1
          case measure => have := HG.out; omega
          case rel => exact ⟨k + 1, 1, zs ++ [D], by go_num, by have := HG.out; omega, rfl, by omega, by rw [List.length_append, HZ.out]; rfl, dig_snoc hzd HD.out, HST.out, by simpa using HO3.out, HB3.out⟩
        · obtain ⟨D, hD⟩ : ∃ D, x - (o + y) = D := ⟨_, rfl⟩
          have hDi : (x : Int) - ((o : Int) + (y : Int)) = (D : Int) := by omega
          have hst := sub_step (o' := 0) (d := D) (x := x) (y := y) he HZ.out (by show D + (o + y) = x + 4294967296 * 0; omega)
          have hlt : ¬ (x : Int) < (o : Int) + (y : Int) := by omega
          have hD1 : D ≤ 4294967295 := by omega
          rw [← htx, ← hty] at hst
          have HST := Lib.hid hst
          have HD : Hid (D < W32) := Lib.hid (by show D < 4294967296; omega)
          clear hst hD he hcmp htx hty hzl hkg
          go_wp2_with (at_builtin; refine wpList_append_own _ rfl (.tmp 38) (.tmp 43) 47 rfl w.heap.size 85 i0 (.int .u32 0) 1 4 Try.underlying47 hi hz0 hz1 hz2 rfl (by decide) _ _ _ rfl (HOWN.out.alloc _) ⟨wr.heap.size, 0, none⟩ 1 1 [.int .u32 (D : Nat)] rfl rfl (by intro j u hj; match j, hj with | 0, hj => simp at hj; subst hj; simp [Addr.add]) (by intro u hu; simp at hu; subst hu; rfl) (by unfold maxLen; omega) (by omega) (by simp; omega) ?_
                       intro v' w3 hown3 hgrow3 _)
          have hbel3 : Below w.heap.size w w3 := (hbel.alloc (by omega) _).grown hgrow3 (by simp; omega) (fun q hq => (HOWN.out.lt q hq).1)
          have HB3 := Lib.hid hbel3
          have HO3 := Lib.hid hown3
          clear hbel3 hown3 hgrow3
          go_wp2_with fail
          go_roundg g1
          case measure => have := HG.out; omega
          case rel => exact ⟨k + 1, 0, zs ++ [D], by go_num, by have := HG.out; omega, rfl, by omega, by rw [List.length_append, HZ.out]; rfl, dig_snoc hzd HD.out, HST.out, by simpa using HO3.out, HB3.out⟩
      · have hty : val W32 (ys.take (k + 1)) = val W32 (ys.take k) + W32 ^ k * 0 := by rw [List.take_of_length_le (by omega), List.take_of_length_le (by omega)]; omega
        have hyi : ¬ (k : Int) < (ys.length : Int) := by omega
        by_cases hcmp : x < o
        · obtain ⟨D, hD⟩ : ∃ D, x + 4294967296 - (o) = D := ⟨_, rfl⟩
          have hDi : (x : Int) + 4294967296 - ((o : Int)) = (D : Int) := by omega
          have hst := sub_step (o' := 1) (d := D) (x := x) (y := 0) he HZ.out (by show D + (o + 0) = x + 4294967296 * 1; omega)
          have hlt : (x : Int) < (o : Int) := by omega
          have hD1 : D ≤ 4294967295 := by omega
          rw [← htx, ← hty] at hst
          have HST := Lib.hid hst
          have HD : Hid (D < W32) := Lib.hid (by show D < 4294967296; omega)
          clear hst hD he hcmp htx hty hzl hkg
          go_wp2_with (at_builtin; refine wpList_append_own _ rfl (.tmp 38) (.tmp 43) 47 rfl w.heap.size 85 i0 (.int .u32 0) 1 4 Try.underlying47 hi hz0 hz1 hz2 rfl (by decide) _ _ _ rfl (HOWN.out.alloc _) ⟨wr.heap.size, 0, none⟩ 1 1 [.int .u32 (D : Nat)] rfl rfl (by intro j u hj; match j, hj with | 0, hj => simp at hj; subst hj; simp [Addr.add]) (by intro u hu; simp at hu; subst hu; rfl) (by unfold maxLen; omega) (by omega) (by simp; omega) ?_
                       intro v' w3 hown3 hgrow3 _)
          have hbel3 : Below w.heap.size w w3 := (hbel.alloc (by omega) _).grown hgrow3 (by simp; omega) (fun q hq => (HOWN.out.lt q hq).1)
          have HB3 := Lib.hid hbel3
          have HO3 := Lib.hid hown3
          clear hbel3 hown3 hgrow3
          go_wp2_with fail
          go_roundg g1
          case measure => have := HG.out; omega
          case rel => exact ⟨k + 1, 1, zs ++ [D], by go_num, by have := HG.out; omega, rfl, by omega, by rw [List.length_append, HZ.out]; rfl, dig_snoc hzd HD.out, HST.out, by simpa using HO3.out, HB3.out⟩
        · obtain ⟨D, hD⟩ : ∃ D, x - (o) = D := ⟨_, rfl⟩
          have hDi : (x : Int) - ((o : Int)) = (D : Int) := by omega
          have hst := sub_step (o' := 0) (d := D) (x := x) (y := 0) he HZ.out (by show D + (o + 0) = x + 4294967296 * 0; omega)
          have hlt : ¬ (x : Int) < (o : Int) := by omega
          have hD1 : D ≤ 4294967295 := by omega
          rw [← htx, ← hty] at hst
          have HST := Lib.hid hst
          have HD : Hid (D < W32) := Lib.hid (by show D < 4294967296; omega)
          clear hst hD he hcmp htx hty hzl hkg
          go_wp2_with (at_builtin; refine wpList_append_own _ rfl (.tmp 38) (.tmp 43) 47 rfl w.heap.size 85 i0 (.int .u32 0) 1 4 Try.underlying47 hi hz0 hz1 hz2 rfl (by decide) _ _ _ rfl (HOWN.out.alloc _) ⟨wr.heap.size, 0, none⟩ 1 1 [.int .u32 (D : Nat)] rfl rfl (by intro j u hj; match j, hj with | 0, hj => simp at hj; subst hj; simp [Addr.add]) (by intro u hu; simp at hu; subst hu; rfl) (by unfold maxLen; omega) (by omega) (by simp; omega) ?_
                       intro v' w3 hown3 hgrow3 _)
          have hbel3 : Below w.heap.size w w3 := (hbel.alloc (by omega) _).grown hgrow3 (by simp; omega) (fun q hq => (HOWN.out.lt q hq).1)
          have HB3 := Lib.hid hbel3
          have HO3 := Lib.hid hown3
          clear hbel3 hown3 hgrow3
          go_wp2_with fail
          go_roundg g1
          case measure => have := HG.out; omega
          case rel => exact ⟨k + 1, 0, zs ++ [D], by go_num, by have := HG.out; omega, rfl, by omega, by rw [List.length_append, HZ.out]; rfl, dig_snoc hzd HD.out, HST.out, by simpa using HO3.out, HB3.out⟩
end Go.Proofs.Ytffjkfjokikhnaa
