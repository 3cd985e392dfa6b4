/-
  What the document's own Worth and Least return. Conditions: that the float is finite; that the numbers are numbers.
-/
import Derived.Test.YtffjkfjokikhnaaRb4
import Derived.Test.YtffjkfjokikhnaaFl5
namespace Go.Proofs.Ytffjkfjokikhnaa.Rb
open Go.RowKit Nb Fl
theorem and52 (x : Nat) (h : x < 18446744073709551616) : bits .and .u64 (x : Int) 4503599627370495 = ((x % 4503599627370496 : Nat) : Int) := by
  have h1 := u64_and_nat x 4503599627370495 h (by omega)
  rw [show ((4503599627370495 : Nat) : Int) = 4503599627370495 from rfl] at h1
  rw [h1]
  congr 1
  show x &&& (2 ^ 52 - 1) = x % 4503599627370496
  rw [Nat.and_two_pow_sub_one_eq_mod]
theorem and11 (x : Nat) (h : x < 18446744073709551616) : bits .and .u64 (x : Int) 2047 = ((x % 2048 : Nat) : Int) := by
  have h1 := u64_and_nat x 2047 h (by omega)
  rw [show ((2047 : Nat) : Int) = 2047 from rfl] at h1
  rw [h1]
  congr 1
  show x &&& (2 ^ 11 - 1) = x % 2048
  rw [Nat.and_two_pow_sub_one_eq_mod]
theorem bg_ofI {w : World} {A : Option Addr} {c : Nat} {z : Int} (h0 : -9223372036854775808 ≤ z) (h1 : z ≤ 9223372036854775807) (hs : Sl .u32 w w.heap.size A (ofI z)) (hl : (ofI z).length ≤ c) (hc : c ≤ 2) : Bg w (decide (z < 0)) A (ofI z) c maxLen :=
  ⟨hs, ofI_dig z, ofI_norm h0 h1, (ofI_ok h0 h1).sign, hl, by unfold maxLen; omega⟩
theorem sv_ofI {z : Int} (h0 : -9223372036854775808 ≤ z) (h1 : z ≤ 9223372036854775807) : sv (decide (z < 0)) (val W32 (ofI z)) = z := by
  rw [ofI_val h0 h1]
  unfold sv
  by_cases h : z < 0 <;> simp [h] <;> omega
theorem mg_parts {v : Nat} : mg v % 4503599627370496 = v % 4503599627370496 ∧ mg v / 4503599627370496 = v / 4503599627370496 % 2048 := by
  unfold mg; omega
theorem worth_low {v : Nat} (h : mg v / 4503599627370496 = 0) : uval (mg v) = v % 4503599627370496 * 2 ^ 0 := by
  have := mg_parts (v := v)
  rw [uval_small (by omega)]; omega
theorem worth_high {v k : Nat} (h : mg v / 4503599627370496 = k + 1) : uval (mg v) = (v % 4503599627370496 + 4503599627370496) * 2 ^ k := by
  have := mg_parts (v := v)
  unfold uval
  rw [if_neg (by omega), h, this.1, Nat.add_sub_cancel, Nat.add_comm 4503599627370496]
def WorthIs (v : Nat) (w : World) (e : Ending) (w' : World) : Prop := ∃ (n : Bool) (A : Option Addr) (zs : List Nat) (c E : Nat), e = .returned (.tuple #[big n A zs.length c, .int .i64 ((E : Int) - 1074)]) ∧ Bg w' n A zs c maxLen ∧ zs.length ≤ 2 ∧ E ≤ 2045 ∧ sv n (val W32 zs) * (2 ^ E : Nat) = sval v ∧ val W32 zs < 9007199254740992 ∧ Below w.heap.size w w'
set_option maxHeartbeats 2000000 in
set_option maxRecDepth 20000 in
theorem worth_any (v : Nat) (w : World) (hv : v < 18446744073709551616) (hf : mg v < 9218868437227405312) :
    Calls Try.prog 47 #[.float .f64 v] w (WorthIs v w) := by
  unfold WorthIs
  have hb := and52 v hv
  have hc := and11 (v / 4503599627370496) (by omega)
  rw [show ((v / 4503599627370496 : Nat) : Int) = (v : Int) / 4503599627370496 by omega] at hc
  have hfb := run_bits
  have hmp := mg_parts (v := v)
  have hX : v / 4503599627370496 % 2048 ≤ 2046 := by omega
  have hlow := worth_low (v := v)
  have hhigh := fun k => worth_high (v := v) (k := k)
  rw [hmp.2] at hlow
  simp only [hmp.2] at hhigh
  have hF : v % 4503599627370496 < 4503599627370496 := Nat.mod_lt _ (by omega)
  have hS : (v : Int) / 9223372036854775808 = 0 ∧ sval v = uval (mg v) ∨ (v : Int) / 9223372036854775808 = 1 ∧ sval v = -(uval (mg v) : Int) := by
    unfold sval ng
    rcases Nat.lt_or_ge v 9223372036854775808 with g | g
    · exact .inl ⟨by omega, by rw [Nat.div_eq_of_lt g]; rfl⟩
    · exact .inr ⟨by omega, by rw [show v / 9223372036854775808 = 1 by omega]; rfl⟩
  generalize v % 4503599627370496 = F at *
  generalize v / 4503599627370496 % 2048 = X at *
  generalize hU : uval (mg v) = U at *
  clear hmp hf hU
  have hFi : (F : Int) < 4503599627370496 := by omega
  rcases X with _ | k
  · have hU := hlow rfl
    clear hlow hhigh
    rcases hS with ⟨hs, hu⟩ | ⟨hs, hu⟩
    · have HU : Hid (sval v = (F : Int) * (2 ^ 0 : Nat)) := Lib.hid (by rw [hu, hU]; simp)
      clear hu hU
      rw [show ((0 : Nat) : Int) = 0 from rfl] at hc
      clear hv hX
      have HOF : Hid (∀ W : World, Calls Try.prog 89 #[.int .i64 ((F : Int))] W fun e w' => ∃ A c, e = .returned (big (decide ((F : Int) < 0)) A (ofI ((F : Int))).length c) ∧ Sl .u32 w' w'.heap.size A (ofI ((F : Int))) ∧ (ofI ((F : Int))).length ≤ c ∧ c ≤ 2 ∧ Below W.heap.size W w') := Lib.hid (fun W => rof_any ((F : Int)) W (by omega) (by omega))
      have HL : Hid ((ofI ((F : Int))).length ≤ 2) := Lib.hid (ofI_len (by omega) (by omega))
      have HV : Hid (sv (decide ((F : Int) < 0)) (val W32 (ofI ((F : Int)))) = (F : Int)) := Lib.hid (sv_ofI (by omega) (by omega))
      have HN : Hid (val W32 (ofI ((F : Int))) < 9007199254740992) := Lib.hid (by rw [ofI_val (by omega) (by omega)]; omega)
      have HBG : Hid (∀ (W : World) A c, Sl .u32 W W.heap.size A (ofI ((F : Int))) → (ofI ((F : Int))).length ≤ c → c ≤ 2 → Bg W (decide ((F : Int) < 0)) A (ofI ((F : Int))) c maxLen) := Lib.hid (fun W A c h1 h2 h3 => bg_ofI (by omega) (by omega) h1 h2 h3)
      generalize decide ((F : Int) < 0) = sg at *
      generalize ofI ((F : Int)) = zs at *
      have hr := Rest.new w
      have HR := Lib.hid hr
      clear hr
      go_enter Try.func47, Try.ntmps47
      go_wp2_with fail
      refine (HOF.out _).mono ?_
      rintro e w1 ⟨A, c, rfl, hs, hl, hc, hb1⟩
      have hbg := HBG.out _ _ _ hs hl hc
      have hr1 := HR.out.on hb1
      have hw1 : Below w.heap.size w w1 := Below.trans (by go_grown) (hb1.mono (by go_size))
      have hL := Lib.hid (hr1.laid hw1 (Nat.le_refl _) hbg)
      have g0 := hr1.r0
      have g1 := hr1.r1
      have g2 := hr1.f0
      have g3 := hr1.f1
      clear hbg hs hl hc hb1 hr1 hw1
      go_wp2
      refine bodyPost_ret (v := .tuple #[big sg A zs.length c, .int .i64 ((0 : Nat) - 1074 : Int)]) (by simp [results, Try.results47, go_sem, g0, g1]) rfl ?_
      refine ⟨_, A, zs, c, 0, rfl, hL.out.1, HL.out, by omega, ?_, HN.out, hL.out.2⟩
      rw [HV.out, HU.out]
    · have HU : Hid (sval v = -(F : Int) * (2 ^ 0 : Nat)) := Lib.hid (by rw [hu, hU]; simp)
      clear hu hU
      rw [show ((0 : Nat) : Int) = 0 from rfl] at hc
      clear hv hX
      have HOF : Hid (∀ W : World, Calls Try.prog 89 #[.int .i64 (-(F : Int))] W fun e w' => ∃ A c, e = .returned (big (decide (-(F : Int) < 0)) A (ofI (-(F : Int))).length c) ∧ Sl .u32 w' w'.heap.size A (ofI (-(F : Int))) ∧ (ofI (-(F : Int))).length ≤ c ∧ c ≤ 2 ∧ Below W.heap.size W w') := Lib.hid (fun W => rof_any (-(F : Int)) W (by omega) (by omega))
      have HL : Hid ((ofI (-(F : Int))).length ≤ 2) := Lib.hid (ofI_len (by omega) (by omega))
      have HV : Hid (sv (decide (-(F : Int) < 0)) (val W32 (ofI (-(F : Int)))) = -(F : Int)) := Lib.hid (sv_ofI (by omega) (by omega))
      have HN : Hid (val W32 (ofI (-(F : Int))) < 9007199254740992) := Lib.hid (by rw [ofI_val (by omega) (by omega)]; omega)
      have HBG : Hid (∀ (W : World) A c, Sl .u32 W W.heap.size A (ofI (-(F : Int))) → (ofI (-(F : Int))).length ≤ c → c ≤ 2 → Bg W (decide (-(F : Int) < 0)) A (ofI (-(F : Int))) c maxLen) := Lib.hid (fun W A c h1 h2 h3 => bg_ofI (by omega) (by omega) h1 h2 h3)
      generalize decide (-(F : Int) < 0) = sg at *
      generalize ofI (-(F : Int)) = zs at *
      have hr := Rest.new w
      have HR := Lib.hid hr
      clear hr
      go_enter Try.func47, Try.ntmps47
      go_wp2_with fail
      refine (HOF.out _).mono ?_
      rintro e w1 ⟨A, c, rfl, hs, hl, hc, hb1⟩
      have hbg := HBG.out _ _ _ hs hl hc
      have hr1 := HR.out.on hb1
      have hw1 : Below w.heap.size w w1 := Below.trans (by go_grown) (hb1.mono (by go_size))
      have hL := Lib.hid (hr1.laid hw1 (Nat.le_refl _) hbg)
      have g0 := hr1.r0
      have g1 := hr1.r1
      have g2 := hr1.f0
      have g3 := hr1.f1
      clear hbg hs hl hc hb1 hr1 hw1
      go_wp2
      refine bodyPost_ret (v := .tuple #[big sg A zs.length c, .int .i64 ((0 : Nat) - 1074 : Int)]) (by simp [results, Try.results47, go_sem, g0, g1]) rfl ?_
      refine ⟨_, A, zs, c, 0, rfl, hL.out.1, HL.out, by omega, ?_, HN.out, hL.out.2⟩
      rw [HV.out, HU.out]
  · have hU := hhigh k rfl
    clear hlow hhigh
    have hk : (k : Int) ≤ 2045 := by omega
    rcases hS with ⟨hs, hu⟩ | ⟨hs, hu⟩
    · have HU : Hid (sval v = ((F : Int) + 4503599627370496) * (2 ^ k : Nat)) := Lib.hid (by rw [hu, hU, Int.natCast_mul]; rfl)
      clear hu hU
      clear hv hX
      have HOF : Hid (∀ W : World, Calls Try.prog 89 #[.int .i64 (((F : Int) + 4503599627370496))] W fun e w' => ∃ A c, e = .returned (big (decide (((F : Int) + 4503599627370496) < 0)) A (ofI (((F : Int) + 4503599627370496))).length c) ∧ Sl .u32 w' w'.heap.size A (ofI (((F : Int) + 4503599627370496))) ∧ (ofI (((F : Int) + 4503599627370496))).length ≤ c ∧ c ≤ 2 ∧ Below W.heap.size W w') := Lib.hid (fun W => rof_any (((F : Int) + 4503599627370496)) W (by omega) (by omega))
      have HL : Hid ((ofI (((F : Int) + 4503599627370496))).length ≤ 2) := Lib.hid (ofI_len (by omega) (by omega))
      have HV : Hid (sv (decide (((F : Int) + 4503599627370496) < 0)) (val W32 (ofI (((F : Int) + 4503599627370496)))) = ((F : Int) + 4503599627370496)) := Lib.hid (sv_ofI (by omega) (by omega))
      have HN : Hid (val W32 (ofI (((F : Int) + 4503599627370496))) < 9007199254740992) := Lib.hid (by rw [ofI_val (by omega) (by omega)]; omega)
      have HBG : Hid (∀ (W : World) A c, Sl .u32 W W.heap.size A (ofI (((F : Int) + 4503599627370496))) → (ofI (((F : Int) + 4503599627370496))).length ≤ c → c ≤ 2 → Bg W (decide (((F : Int) + 4503599627370496) < 0)) A (ofI (((F : Int) + 4503599627370496))) c maxLen) := Lib.hid (fun W A c h1 h2 h3 => bg_ofI (by omega) (by omega) h1 h2 h3)
      generalize decide (((F : Int) + 4503599627370496) < 0) = sg at *
      generalize ofI (((F : Int) + 4503599627370496)) = zs at *
      have hr := Rest.new w
      have HR := Lib.hid hr
      clear hr
      go_enter Try.func47, Try.ntmps47
      go_wp2_with fail
      refine (HOF.out _).mono ?_
      rintro e w1 ⟨A, c, rfl, hs, hl, hc, hb1⟩
      have hbg := HBG.out _ _ _ hs hl hc
      have hr1 := HR.out.on hb1
      have hw1 : Below w.heap.size w w1 := Below.trans (by go_grown) (hb1.mono (by go_size))
      have hL := Lib.hid (hr1.laid hw1 (Nat.le_refl _) hbg)
      have g0 := hr1.r0
      have g1 := hr1.r1
      have g2 := hr1.f0
      have g3 := hr1.f1
      clear hbg hs hl hc hb1 hr1 hw1
      go_wp2
      refine bodyPost_ret (v := .tuple #[big sg A zs.length c, .int .i64 ((k : Nat) - 1074 : Int)]) (by simp [results, Try.results47, go_sem, g0, g1]) rfl ?_
      refine ⟨_, A, zs, c, k, rfl, hL.out.1, HL.out, by omega, ?_, HN.out, hL.out.2⟩
      rw [HV.out, HU.out]
    · have HU : Hid (sval v = -((F : Int) + 4503599627370496) * (2 ^ k : Nat)) := Lib.hid (by rw [hu, hU, Int.natCast_mul, Int.neg_mul]; rfl)
      clear hu hU
      clear hv hX
      have HOF : Hid (∀ W : World, Calls Try.prog 89 #[.int .i64 (-((F : Int) + 4503599627370496))] W fun e w' => ∃ A c, e = .returned (big (decide (-((F : Int) + 4503599627370496) < 0)) A (ofI (-((F : Int) + 4503599627370496))).length c) ∧ Sl .u32 w' w'.heap.size A (ofI (-((F : Int) + 4503599627370496))) ∧ (ofI (-((F : Int) + 4503599627370496))).length ≤ c ∧ c ≤ 2 ∧ Below W.heap.size W w') := Lib.hid (fun W => rof_any (-((F : Int) + 4503599627370496)) W (by omega) (by omega))
      have HL : Hid ((ofI (-((F : Int) + 4503599627370496))).length ≤ 2) := Lib.hid (ofI_len (by omega) (by omega))
      have HV : Hid (sv (decide (-((F : Int) + 4503599627370496) < 0)) (val W32 (ofI (-((F : Int) + 4503599627370496)))) = -((F : Int) + 4503599627370496)) := Lib.hid (sv_ofI (by omega) (by omega))
      have HN : Hid (val W32 (ofI (-((F : Int) + 4503599627370496))) < 9007199254740992) := Lib.hid (by rw [ofI_val (by omega) (by omega)]; omega)
      have HBG : Hid (∀ (W : World) A c, Sl .u32 W W.heap.size A (ofI (-((F : Int) + 4503599627370496))) → (ofI (-((F : Int) + 4503599627370496))).length ≤ c → c ≤ 2 → Bg W (decide (-((F : Int) + 4503599627370496) < 0)) A (ofI (-((F : Int) + 4503599627370496))) c maxLen) := Lib.hid (fun W A c h1 h2 h3 => bg_ofI (by omega) (by omega) h1 h2 h3)
      generalize decide (-((F : Int) + 4503599627370496) < 0) = sg at *
      generalize ofI (-((F : Int) + 4503599627370496)) = zs at *
      have hr := Rest.new w
      have HR := Lib.hid hr
      clear hr
      go_enter Try.func47, Try.ntmps47
      go_wp2_with fail
      refine (HOF.out _).mono ?_
      rintro e w1 ⟨A, c, rfl, hs, hl, hc, hb1⟩
      have hbg := HBG.out _ _ _ hs hl hc
      have hr1 := HR.out.on hb1
      have hw1 : Below w.heap.size w w1 := Below.trans (by go_grown) (hb1.mono (by go_size))
      have hL := Lib.hid (hr1.laid hw1 (Nat.le_refl _) hbg)
      have g0 := hr1.r0
      have g1 := hr1.r1
      have g2 := hr1.f0
      have g3 := hr1.f1
      clear hbg hs hl hc hb1 hr1 hw1
      go_wp2
      refine bodyPost_ret (v := .tuple #[big sg A zs.length c, .int .i64 ((k : Nat) - 1074 : Int)]) (by simp [results, Try.results47, go_sem, g0, g1]) rfl ?_
      refine ⟨_, A, zs, c, k, rfl, hL.out.1, HL.out, by omega, ?_, HN.out, hL.out.2⟩
      rw [HV.out, HU.out]
end Go.Proofs.Ytffjkfjokikhnaa.Rb
