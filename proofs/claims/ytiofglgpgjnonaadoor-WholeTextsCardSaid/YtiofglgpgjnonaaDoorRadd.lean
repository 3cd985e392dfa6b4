/-
  What the document's own times and add of limbs return. Conditions: that the lists are lists of limbs; that memory holds what comes of it.
-/
import Derived.Test.YtiofglgpgjnonaaDoorRmul
import Derived.Test.YtiofglgpgjnonaaDoorText1
namespace Go.Proofs.YtiofglgpgjnonaaDoor
open Go.RowKit Nb

/-- The digit at k, or nought. -/
theorem val_take_getD (B : Nat) (xs : List Nat) (k : Nat) : val B (xs.take (k + 1)) = val B (xs.take k) + B ^ k * xs.getD k 0 := by
  rcases Nat.lt_or_ge k xs.length with h | h
  · rw [val_take_succ B h, List.getD_eq_getElem?_getD, List.getElem?_eq_getElem h]; rfl
  · rw [List.take_of_length_le (show xs.length ≤ k + 1 by omega), List.take_of_length_le h, List.getD_eq_getElem?_getD, List.getElem?_eq_none h]; simp
theorem getD_in {xs : List Nat} {k : Nat} (h : k < xs.length) : xs.getD k 0 = xs[k] := by
  rw [List.getD_eq_getElem?_getD, List.getElem?_eq_getElem h]; rfl
theorem getD_out {xs : List Nat} {k : Nat} (h : xs.length ≤ k) : xs.getD k 0 = 0 := by
  rw [List.getD_eq_getElem?_getD, List.getElem?_eq_none h]; rfl

theorem radd_step {k o s x y X Y : Nat} {zs : List Nat} (he : val W32 zs + W32 ^ k * o = X + Y) (hl : zs.length = k) (hs : s = o + x + y) :
    val W32 (zs ++ [s % 4294967296]) + W32 ^ (k + 1) * (s / 4294967296) = X + W32 ^ k * x + (Y + W32 ^ k * y) := by
  rw [step_up (v := s % 4294967296) (c' := s / 4294967296) (t := x + y) he hl (by show s % 4294967296 + 4294967296 * (s / 4294967296) = _; omega), Nat.mul_add]
  omega

/-- A new list of limbs that tells a number, noughts above or not. -/
def Limbs0 (w : World) (V C : Nat) (v : Value) (w' : World) : Prop := ∃ (A : Option Addr) (zs : List Nat) (c : Nat), v = .slice A zs.length c ∧ Sl .u32 w' w'.heap.size A zs ∧ Dig W32 zs ∧ val W32 zs = V ∧ zs.length ≤ c ∧ c ≤ maxLen ∧ zs.length ≤ C ∧ Below w.heap.size w w'

theorem limbs_own {w w' : World} {v : Value} {zs : List Nat} {C : Nat} (h : w'.ownsRow w.heap.size 54 1 v zs.length (zs.map fun n : Nat => Value.int .u32 n)) (dz : Dig W32 zs) (hC : zs.length ≤ C) (hb : Below w.heap.size w w') :
    Limbs0 w (val W32 zs) C v w' := by
  have h0 := h
  obtain ⟨hl, ⟨rfl, hn⟩ | ⟨g, cap, cur, rfl, hbg, hg, hnc, hcm, hcs, ht⟩⟩ := h
  · obtain rfl := List.eq_nil_of_length_eq_zero hn
    exact ⟨none, [], 0, rfl, Sl.none_, dz, rfl, Nat.le_refl _, Nat.zero_le _, hC, hb⟩
  · exact ⟨_, zs, cap, rfl, Sl.of_own h0, dz, rfl, hnc, hcm, hC, hb⟩

set_option maxHeartbeats 800000 in
set_option maxRecDepth 20000 in
theorem rtimes_any (A : Option Addr) (xs : List Nat) (c y : Nat) (w : World) (hx : Sl .u32 w w.heap.size A xs) (dx : Dig W32 xs) (hy : y ≤ 4294967295) (hl : (xs.length + 1) * 4 ≤ 140737488351232) :
    Calls Tryd.prog 77 #[.slice A xs.length c, .int .u32 y] w fun e w' => ∃ v, e = .returned v ∧ Limbs w (y * val W32 xs) (xs.length + 1) v w' := by
  go_enter Tryd.func77, Tryd.ntmps77
  go_wp2_with fail
  have hrow : Row .u32 (w.alloc (.cells #[.int .u32 (y : Nat)] 54)) w.heap.size 54 [y] := heap_alloc_new _ _
  have hb : Below w.heap.size w (w.alloc (.cells #[.int .u32 (y : Nat)] 54)) := by go_grown
  generalize hW : w.alloc (.cells #[.int .u32 (y : Nat)] 54) = W at *
  clear hW
  have hd1 : Dig W32 [y] := Dig.one (show y < 4294967296 by omega)
  have hs := hrow.sl hrow.lt
  have hT : Calls Tryd.prog 75 #[.slice (some ⟨w.heap.size, 0, none⟩) 1 1] W fun e w' => e = .returned (.slice (some ⟨w.heap.size, 0, none⟩) (trimL [y]).length 1) ∧ W = w' :=
    rtrim_any (some ⟨w.heap.size, 0, none⟩) [y] 1 W hs (Nat.le_refl _) (by unfold maxLen; omega)
  have htl := trimL_len [y]
  simp only [List.length_cons, List.length_nil, Nat.zero_add] at htl
  have hM := rmul_any A (some ⟨w.heap.size, 0, none⟩) xs (trimL [y]) c 1 W ((hx.below hb).more hb.size) (sl_trimL hs) dx (dig_trimL hd1) (by omega)
  have hv : val W32 (trimL [y]) = y := by rw [val_trimL]; simp [val]
  rw [hv] at hM
  have HT := Lib.hid hT
  have HM := Lib.hid hM
  clear hT hM hv hs hrow hd1
  refine (HT.out).mono ?_
  rintro e w5 ⟨rfl, rfl⟩
  go_wp2_with fail
  refine (HM.out).mono ?_
  rintro e w6 ⟨v, rfl, B, zs, c', rfl, h1, h2, h3, h4, h5, h6, h7⟩
  go_wp2_with fail
  go_ret
  exact ⟨_, rfl, B, zs, c', rfl, h1, h2, h3, h4, h5, by omega, hb.trans (h7.mono hb.size)⟩

set_option maxHeartbeats 3200000 in
set_option maxRecDepth 20000 in
theorem radd_any (A B : Option Addr) (xs ys : List Nat) (c d N : Nat) (w : World) (hx : Sl .u32 w w.heap.size A xs) (hy : Sl .u32 w w.heap.size B ys) (dx : Dig W32 xs) (dy : Dig W32 ys)
    (hn : xs.length ≤ N) (hm : ys.length ≤ N) (hl : (N + 1) * 4 ≤ 140737488351232) :
    Calls Tryd.prog 76 #[.slice A xs.length c, .slice B ys.length d] w fun e w' => ∃ v, e = .returned v ∧ Limbs0 w (val W32 xs + val W32 ys) (N + 1) v w' := by
  obtain ⟨i0, hi, hz0, hz1, hz2⟩ := info_parts info_u32
  go_enter Tryd.func76, Tryd.ntmps76
  go_wp2_with fail
  go_loopg [5, 6, 7] (N + 1) (fun g ov cv iv wr => ∃ (k o : Nat) (zs : List Nat), iv = .int .i64 k ∧ k + g = N + 1 ∧ cv = .int .u64 o ∧ o ≤ 1 ∧ (k = N + 1 → o = 0) ∧ zs.length = k ∧ Dig W32 zs ∧ val W32 zs + W32 ^ k * o = val W32 (xs.take k) + val W32 (ys.take k) ∧
      wr.ownsRow w.heap.size 54 1 ov zs.length (zs.map fun n : Nat => Value.int .u32 n) ∧ Below w.heap.size w wr)
  case atStart => exact ⟨0, 0, [], rfl, by omega, rfl, by omega, fun _ => rfl, rfl, Dig.nil _, by simp [val], World.ownsRow_nil _ _ _ _, Below.refl _ _⟩
  case round =>
    obtain ⟨k, o, zs, rfl, hkg, rfl, ho, hoN, hzl, hzd, he, hown, hbel⟩ := hrel
    have HZ := Lib.hid hzl
    have HG := Lib.hid hkg
    have HN := Lib.hid hoN
    have htx := val_take_getD W32 xs k
    have hty := val_take_getD W32 ys k
    have hst := fun s (h : s = o + xs.getD k 0 + ys.getD k 0) => radd_step he hzl h
    rw [← htx, ← hty] at hst
    have HE := Lib.hid he
    clear htx hty hzl hkg hoN he
    have hgs := hbel.size
    by_cases hkx : k < xs.length
    · by_cases hky : k < ys.length
      · obtain ⟨ad, rfl, _, h1⟩ := (hx.below hbel).at_ hkx
        have hxx := dx.get hkx
        rw [getD_in hkx] at hst
        generalize xs[k] = x at *
        have hx1 : x ≤ 4294967295 := by have : x < 4294967296 := hxx; omega
        have hxi : (k : Int) < (xs.length : Int) := by omega
        obtain ⟨bd, rfl, _, h2⟩ := (hy.below hbel).at_ hky
        have hyy := dy.get hky
        rw [getD_in hky] at hst
        generalize ys[k] = y at *
        have hy1 : y ≤ 4294967295 := by have : y < 4294967296 := hyy; omega
        have hyi : (k : Int) < (ys.length : Int) := by omega
        obtain ⟨Q, hQ⟩ : ∃ Q, (o + x + y) / 4294967296 = Q := ⟨_, rfl⟩
        obtain ⟨R, hR⟩ : ∃ R, (o + x + y) % 4294967296 = R := ⟨_, rfl⟩
        have hst2 := hst (o + x + y) (by omega)
        rw [hQ, hR] at hst2
        have HST := Lib.hid hst2
        have hQ1 : Q ≤ 1 := by omega
        have hR1 : R < W32 := by show R < 4294967296; omega
        have hi1 : ((o : Int) + (x : Int) + (y : Int)) / 4294967296 = (Q : Int) := by omega
        have hi2 : ((o : Int) + (x : Int) + (y : Int)) % 4294967296 = (R : Int) := by omega
        have HR1 := Lib.hid hR1
        have HQ1 := Lib.hid hQ1
        have hQN : k + 1 = N + 1 → Q = 0 := fun h => by omega
        clear hst hst2 hQ hR hR1
        have hzk : zs.length ≤ N := by have := HZ.out; have := HG.out; omega
        have HOWN := Lib.hid hown
        go_wp2_with (at_builtin; refine wpList_append_own _ rfl (.tmp 48) (.tmp 52) 22 rfl w.heap.size 54 i0 (.int .u32 0) 1 4 Tryd.underlying22 hi hz0 hz1 hz2 rfl (by decide) _ _ _ rfl (HOWN.out.alloc _) ⟨wr.heap.size, 0, none⟩ 1 1 [.int .u32 (R : Nat)] rfl rfl (by intro j u hj; match j, hj with | 0, hj => simp at hj; subst hj; simp [Addr.add]) (by intro u hu; simp at hu; subst hu; rfl) (by unfold maxLen; omega) (by omega) (by simp; omega) ?_
                     intro v' w3 hown3 hgrow3 _)
        have hbel3 : Below w.heap.size w w3 := (hbel.alloc (by omega) _).grown hgrow3 (by simp; omega) (fun q hq => (HOWN.out.lt q hq).1)
        have HB3 := Lib.hid hbel3
        have HO3 := Lib.hid hown3
        clear hbel3 hown3 hgrow3
        go_wp2_with fail
        go_roundg (gk - 1)
        case measure => have := HG.out; omega
        case rel => exact ⟨k + 1, Q, zs ++ [R], by go_num, by have := HG.out; omega, by first | rfl | exact congrArg _ hi1, HQ1.out, hQN, by rw [List.length_append, HZ.out]; rfl, dig_snoc hzd HR1.out, HST.out, by simpa using HO3.out, HB3.out⟩
      · rw [Nat.not_lt] at hky
        obtain ⟨ad, rfl, _, h1⟩ := (hx.below hbel).at_ hkx
        have hxx := dx.get hkx
        rw [getD_in hkx] at hst
        generalize xs[k] = x at *
        have hx1 : x ≤ 4294967295 := by have : x < 4294967296 := hxx; omega
        have hxi : (k : Int) < (xs.length : Int) := by omega
        rw [getD_out hky] at hst
        have hyi : ¬ (k : Int) < (ys.length : Int) := by omega
        obtain ⟨Q, hQ⟩ : ∃ Q, (o + x) / 4294967296 = Q := ⟨_, rfl⟩
        obtain ⟨R, hR⟩ : ∃ R, (o + x) % 4294967296 = R := ⟨_, rfl⟩
        have hst2 := hst (o + x) (by omega)
        rw [hQ, hR] at hst2
        have HST := Lib.hid hst2
        have hQ1 : Q ≤ 1 := by omega
        have hR1 : R < W32 := by show R < 4294967296; omega
        have hi1 : ((o : Int) + (x : Int)) / 4294967296 = (Q : Int) := by omega
        have hi2 : ((o : Int) + (x : Int)) % 4294967296 = (R : Int) := by omega
        have HR1 := Lib.hid hR1
        have HQ1 := Lib.hid hQ1
        have hQN : k + 1 = N + 1 → Q = 0 := fun h => by omega
        clear hst hst2 hQ hR hR1
        have hzk : zs.length ≤ N := by have := HZ.out; have := HG.out; omega
        have HOWN := Lib.hid hown
        go_wp2_with (at_builtin; refine wpList_append_own _ rfl (.tmp 48) (.tmp 52) 22 rfl w.heap.size 54 i0 (.int .u32 0) 1 4 Tryd.underlying22 hi hz0 hz1 hz2 rfl (by decide) _ _ _ rfl (HOWN.out.alloc _) ⟨wr.heap.size, 0, none⟩ 1 1 [.int .u32 (R : Nat)] rfl rfl (by intro j u hj; match j, hj with | 0, hj => simp at hj; subst hj; simp [Addr.add]) (by intro u hu; simp at hu; subst hu; rfl) (by unfold maxLen; omega) (by omega) (by simp; omega) ?_
                     intro v' w3 hown3 hgrow3 _)
        have hbel3 : Below w.heap.size w w3 := (hbel.alloc (by omega) _).grown hgrow3 (by simp; omega) (fun q hq => (HOWN.out.lt q hq).1)
        have HB3 := Lib.hid hbel3
        have HO3 := Lib.hid hown3
        clear hbel3 hown3 hgrow3
        go_wp2_with fail
        go_roundg (gk - 1)
        case measure => have := HG.out; omega
        case rel => exact ⟨k + 1, Q, zs ++ [R], by go_num, by have := HG.out; omega, by first | rfl | exact congrArg _ hi1, HQ1.out, hQN, by rw [List.length_append, HZ.out]; rfl, dig_snoc hzd HR1.out, HST.out, by simpa using HO3.out, HB3.out⟩
    · rw [Nat.not_lt] at hkx
      by_cases hky : k < ys.length
      · rw [getD_out hkx] at hst
        have hxi : ¬ (k : Int) < (xs.length : Int) := by omega
        obtain ⟨bd, rfl, _, h2⟩ := (hy.below hbel).at_ hky
        have hyy := dy.get hky
        rw [getD_in hky] at hst
        generalize ys[k] = y at *
        have hy1 : y ≤ 4294967295 := by have : y < 4294967296 := hyy; omega
        have hyi : (k : Int) < (ys.length : Int) := by omega
        obtain ⟨Q, hQ⟩ : ∃ Q, (o + y) / 4294967296 = Q := ⟨_, rfl⟩
        obtain ⟨R, hR⟩ : ∃ R, (o + y) % 4294967296 = R := ⟨_, rfl⟩
        have hst2 := hst (o + y) (by omega)
        rw [hQ, hR] at hst2
        have HST := Lib.hid hst2
        have hQ1 : Q ≤ 1 := by omega
        have hR1 : R < W32 := by show R < 4294967296; omega
        have hi1 : ((o : Int) + (y : Int)) / 4294967296 = (Q : Int) := by omega
        have hi2 : ((o : Int) + (y : Int)) % 4294967296 = (R : Int) := by omega
        have HR1 := Lib.hid hR1
        have HQ1 := Lib.hid hQ1
        have hQN : k + 1 = N + 1 → Q = 0 := fun h => by omega
        clear hst hst2 hQ hR hR1
        have hzk : zs.length ≤ N := by have := HZ.out; have := HG.out; omega
        have HOWN := Lib.hid hown
        go_wp2_with (at_builtin; refine wpList_append_own _ rfl (.tmp 48) (.tmp 52) 22 rfl w.heap.size 54 i0 (.int .u32 0) 1 4 Tryd.underlying22 hi hz0 hz1 hz2 rfl (by decide) _ _ _ rfl (HOWN.out.alloc _) ⟨wr.heap.size, 0, none⟩ 1 1 [.int .u32 (R : Nat)] rfl rfl (by intro j u hj; match j, hj with | 0, hj => simp at hj; subst hj; simp [Addr.add]) (by intro u hu; simp at hu; subst hu; rfl) (by unfold maxLen; omega) (by omega) (by simp; omega) ?_
                     intro v' w3 hown3 hgrow3 _)
        have hbel3 : Below w.heap.size w w3 := (hbel.alloc (by omega) _).grown hgrow3 (by simp; omega) (fun q hq => (HOWN.out.lt q hq).1)
        have HB3 := Lib.hid hbel3
        have HO3 := Lib.hid hown3
        clear hbel3 hown3 hgrow3
        go_wp2_with fail
        go_roundg (gk - 1)
        case measure => have := HG.out; omega
        case rel => exact ⟨k + 1, Q, zs ++ [R], by go_num, by have := HG.out; omega, by first | rfl | exact congrArg _ hi1, HQ1.out, hQN, by rw [List.length_append, HZ.out]; rfl, dig_snoc hzd HR1.out, HST.out, by simpa using HO3.out, HB3.out⟩
      · rw [Nat.not_lt] at hky
        rcases (show o = 0 ∨ o = 1 by omega) with rfl | rfl
        · have hxi : ¬ (k : Int) < (xs.length : Int) := by omega
          have hyi : ¬ (k : Int) < (ys.length : Int) := by omega
          clear hst
          go_wp2
          go_ret
          have h1 := HE.out
          rw [Nat.mul_zero, Nat.add_zero, List.take_of_length_le hkx, List.take_of_length_le hky] at h1
          refine ⟨_, rfl, ?_⟩
          rw [← h1]
          exact limbs_own hown hzd (by have := HZ.out; have := HG.out; omega) hbel
        · rw [getD_out hkx] at hst
          have hxi : ¬ (k : Int) < (xs.length : Int) := by omega
          rw [getD_out hky] at hst
          have hyi : ¬ (k : Int) < (ys.length : Int) := by omega
          obtain ⟨Q, hQ⟩ : ∃ Q, (1) / 4294967296 = Q := ⟨_, rfl⟩
          obtain ⟨R, hR⟩ : ∃ R, (1) % 4294967296 = R := ⟨_, rfl⟩
          have hst2 := hst (1) (by omega)
          rw [hQ, hR] at hst2
          have HST := Lib.hid hst2
          have hQ1 : Q ≤ 1 := by omega
          have hR1 : R < W32 := by show R < 4294967296; omega
          obtain rfl : Q = 0 := by omega
          obtain rfl : R = 1 := by omega
          have HR1 := Lib.hid hR1
          have HQ1 := Lib.hid hQ1
          have hkN : k ≤ N := by
            rcases Nat.lt_or_ge N k with h | h
            · exact absurd (HN.out (by have := HG.out; omega)) (by decide)
            · exact h
          clear hst hst2 hQ hR hR1
          have hzk : zs.length ≤ N := by have := HZ.out; have := HG.out; omega
          have HOWN := Lib.hid hown
          go_wp2_with (at_builtin; refine wpList_append_own _ rfl (.tmp 48) (.tmp 52) 22 rfl w.heap.size 54 i0 (.int .u32 0) 1 4 Tryd.underlying22 hi hz0 hz1 hz2 rfl (by decide) _ _ _ rfl (HOWN.out.alloc _) ⟨wr.heap.size, 0, none⟩ 1 1 [.int .u32 (1 : Nat)] rfl rfl (by intro j u hj; match j, hj with | 0, hj => simp at hj; subst hj; simp [Addr.add]) (by intro u hu; simp at hu; subst hu; rfl) (by unfold maxLen; omega) (by omega) (by simp; omega) ?_
                       intro v' w3 hown3 hgrow3 _)
          have hbel3 : Below w.heap.size w w3 := (hbel.alloc (by omega) _).grown hgrow3 (by simp; omega) (fun q hq => (HOWN.out.lt q hq).1)
          have HB3 := Lib.hid hbel3
          have HO3 := Lib.hid hown3
          clear hbel3 hown3 hgrow3
          go_wp2_with fail
          go_roundg (gk - 1)
          case measure => have := HG.out; omega
          case rel => exact ⟨k + 1, 0, zs ++ [1], by go_num, by have := HG.out; omega, by first | rfl | exact congrArg _ hi1, HQ1.out, fun _ => rfl, by rw [List.length_append, HZ.out]; rfl, dig_snoc hzd HR1.out, HST.out, by simpa using HO3.out, HB3.out⟩
end Go.Proofs.YtiofglgpgjnonaaDoor
