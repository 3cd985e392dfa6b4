/-
  Meet and Join of any two spans are the same either way round; what both have lies within both, and they lie within what has both (SpanEither's walk). Condition: floats of 64 bits.
-/
import Derived.Test.YtffjkfjokikhnaaSpb
namespace Go.Proofs.Ytffjkfjokikhnaa.Fl
open Go.RowKit Ieee

theorem meets_comm (al ah bl bh : Nat) : Meets al ah bl bh ↔ Meets bl bh al ah := by
  unfold Meets
  rw [fmax_key, fmax_key, fmin_key, fmin_key]
  constructor
  · rintro ⟨h1, h2, h3⟩; exact ⟨h2, h1, by omega⟩
  · rintro ⟨h1, h2, h3⟩; exact ⟨h2, h1, by omega⟩
theorem fmax_comm {x y : Nat} (hx : x < 18446744073709551616) (hy : y < 18446744073709551616) : pls (fmax x y) = pls (fmax y x) :=
  pls_one (fmax_of (p := (· < 18446744073709551616)) hx hy) (fmax_of (p := (· < 18446744073709551616)) hy hx) (by rw [fmax_key, fmax_key]; omega)
theorem fmin_comm {x y : Nat} (hx : x < 18446744073709551616) (hy : y < 18446744073709551616) : pls (fmin x y) = pls (fmin y x) :=
  pls_one (fmin_of (p := (· < 18446744073709551616)) hx hy) (fmin_of (p := (· < 18446744073709551616)) hy hx) (by rw [fmin_key, fmin_key]; omega)
theorem meet_comm {al ah bl bh : Nat} (h1 : al < 18446744073709551616) (h2 : ah < 18446744073709551616) (h3 : bl < 18446744073709551616) (h4 : bh < 18446744073709551616) :
    meetLo bl bh al ah = meetLo al ah bl bh ∧ meetHi bl bh al ah = meetHi al ah bl bh ∧ decide (Meets bl bh al ah) = decide (Meets al ah bl bh) := by
  have hm := meets_comm al ah bl bh
  unfold meetLo meetHi
  by_cases h : Meets al ah bl bh
  · rw [if_pos h, if_pos h, if_pos (hm.1 h), if_pos (hm.1 h), decide_eq_true h, decide_eq_true (hm.1 h)]
    exact ⟨fmax_comm h3 h1, fmin_comm h4 h2, rfl⟩
  · have h' : ¬ Meets bl bh al ah := fun k => h (hm.2 k)
    rw [if_neg h, if_neg h, if_neg h', if_neg h', decide_eq_false h, decide_eq_false h']
    exact ⟨rfl, rfl, rfl⟩
theorem join_comm {al ah bl bh : Nat} (h1 : al < 18446744073709551616) (h2 : ah < 18446744073709551616) (h3 : bl < 18446744073709551616) (h4 : bh < 18446744073709551616) :
    joinLo bl bh al ah = joinLo al ah bl bh ∧ joinHi bl bh al ah = joinHi al ah bl bh ∧ spE2 bl bh al ah = spE2 al ah bl bh := by
  unfold joinLo joinHi spE2
  by_cases h : Spn al ah ∧ Spn bl bh
  · have h' : Spn bl bh ∧ Spn al ah := ⟨h.2, h.1⟩
    rw [if_pos h, if_pos h, if_pos h, if_pos h', if_pos h', if_pos h']
    exact ⟨fmin_comm h3 h1, fmax_comm h4 h2, rfl⟩
  · have h' : ¬ (Spn bl bh ∧ Spn al ah) := fun k => h ⟨k.2, k.1⟩
    rw [if_neg h, if_neg h, if_neg h, if_neg h', if_neg h', if_neg h']
    exact ⟨rfl, rfl, rfl⟩
theorem in_of {l h m k : Nat} (h1 : Spn l h) (h2 : Spn m k) (h3 : key m ≤ key l) (h4 : key h ≤ key k) : spIn l h m k = true := decide_eq_true ⟨h1, h2, h3, h4⟩
theorem meet_in {al ah bl bh : Nat} (h : decide (Meets al ah bl bh) = true) : spIn (meetLo al ah bl bh) (meetHi al ah bl bh) al ah = true ∧ spIn (meetLo al ah bl bh) (meetHi al ah bl bh) bl bh = true := by
  have hM := of_decide_eq_true h
  have e1 : meetLo al ah bl bh = pls (fmax al bl) := if_pos hM
  have e2 : meetHi al ah bl bh = pls (fmin ah bh) := if_pos hM
  rw [e1, e2]
  obtain ⟨s1, s2, s3⟩ := hM
  have k1 := fmax_key al bl
  have k2 := fmin_key ah bh
  have hs : Spn (pls (fmax al bl)) (pls (fmin ah bh)) := ⟨by rw [pls_mg]; exact fmax_of (p := fun x => mg x < 9218868437227405312) s1.1 s2.1, by rw [pls_mg]; exact fmin_of (p := fun x => mg x < 9218868437227405312) s1.2.1 s2.2.1, by rw [pls_key, pls_key]; exact s3⟩
  exact ⟨in_of hs s1 (by rw [pls_key]; omega) (by rw [pls_key]; omega), in_of hs s2 (by rw [pls_key]; omega) (by rw [pls_key]; omega)⟩
theorem join_in {al ah bl bh : Nat} (h : spE2 al ah bl bh = 0) : spIn al ah (joinLo al ah bl bh) (joinHi al ah bl bh) = true ∧ spIn bl bh (joinLo al ah bl bh) (joinHi al ah bl bh) = true := by
  have hs : Spn al ah ∧ Spn bl bh := by
    unfold spE2 at h
    by_cases k : Spn al ah ∧ Spn bl bh
    · exact k
    · rw [if_neg k] at h; omega
  have e1 : joinLo al ah bl bh = pls (fmin al bl) := if_pos hs
  have e2 : joinHi al ah bl bh = pls (fmax ah bh) := if_pos hs
  rw [e1, e2]
  have s := join_spn hs
  have k1 := fmin_key al bl
  have k2 := fmax_key ah bh
  have hj : Spn (pls (fmin al bl)) (pls (fmax ah bh)) := ⟨by rw [pls_mg]; exact s.1, by rw [pls_mg]; exact s.2.1, by rw [pls_key, pls_key]; exact s.2.2⟩
  exact ⟨in_of hs.1 hj (by rw [pls_key]; omega) (by rw [pls_key]; omega), in_of hs.2 hj (by rw [pls_key]; omega) (by rw [pls_key]; omega)⟩
theorem spE2_01 (al ah bl bh : Nat) : spE2 al ah bl bh = 0 ∨ spE2 al ah bl bh = 1 := by unfold spE2; split; exact .inl rfl; exact .inr rfl
theorem meet_lt {al ah bl bh : Nat} (h1 : al < 18446744073709551616) (h2 : ah < 18446744073709551616) (h3 : bl < 18446744073709551616) (h4 : bh < 18446744073709551616) : meetLo al ah bl bh < 18446744073709551616 ∧ meetHi al ah bl bh < 18446744073709551616 := by
  unfold meetLo meetHi
  split
  · exact ⟨pls_lt (fmax_of (p := (· < 18446744073709551616)) h1 h3), pls_lt (fmin_of (p := (· < 18446744073709551616)) h2 h4)⟩
  · exact ⟨by omega, by omega⟩
theorem join_lt {al ah bl bh : Nat} (h1 : al < 18446744073709551616) (h3 : bl < 18446744073709551616) : joinLo al ah bl bh < 18446744073709551616 := by
  unfold joinLo
  split
  · exact pls_lt (fmin_of (p := (· < 18446744073709551616)) h1 h3)
  · omega

set_option maxHeartbeats 4000000 in
theorem spanEither_walk (al ah bl bh : Nat) (w : World) (h1 : al < 18446744073709551616) (h2 : ah < 18446744073709551616) (h3 : bl < 18446744073709551616) (h4 : bh < 18446744073709551616) :
    Calls Try.prog 8 #[spv al ah, spv bl bh] w fun e w' => e = .returned (.bool true) ∧ Below w.heap.size w w' := by
  have mc := meet_comm h1 h2 h3 h4
  have jc := join_comm h1 h2 h3 h4
  have C1 := Lib.hid (fun W => meet_any al ah bl bh W h1 h2 h3 h4)
  have C2 := fun W => meet_any bl bh al ah W h3 h4 h1 h2
  rw [mc.1, mc.2.1, mc.2.2] at C2
  have C2 := Lib.hid C2
  have C3 := Lib.hid (fun W => join_any al ah bl bh W h1 h2 h3 h4)
  have C4 := fun W => join_any bl bh al ah W h3 h4 h1 h2
  rw [jc.1, jc.2.1, jc.2.2] at C4
  have C4 := Lib.hid C4
  have I1 := Lib.hid (fun (h : decide (Meets al ah bl bh) = true) => meet_in h)
  have I2 := Lib.hid (fun (h : spE2 al ah bl bh = 0) => join_in h)
  have IE := spE2_01 al ah bl bh
  have ml := meet_lt h1 h2 h3 h4
  have jl := join_lt (ah := ah) (bh := bh) h1 h3
  have C5 := Lib.hid (fun W => in_any (meetLo al ah bl bh) (meetHi al ah bl bh) al ah W ml.1 h1)
  have C6 := Lib.hid (fun W => in_any (meetLo al ah bl bh) (meetHi al ah bl bh) bl bh W ml.1 h3)
  have C7 := Lib.hid (fun x y W => sameSpan_any x y W)
  have C8 := Lib.hid (fun W => in_any al ah (joinLo al ah bl bh) (joinHi al ah bl bh) W h1 jl)
  have C9 := Lib.hid (fun W => lives_any W)
  have CA := Lib.hid (fun W => in_any bl bh (joinLo al ah bl bh) (joinHi al ah bl bh) W h3 jl)
  have hsf := @run_store_f Try.prog .f64
  clear mc jc ml jl h1 h2 h3 h4
  generalize meetLo al ah bl bh = ml at *
  generalize meetHi al ah bl bh = mh at *
  generalize decide (Meets al ah bl bh) = mb at *
  generalize joinLo al ah bl bh = jl at *
  generalize joinHi al ah bl bh = jh at *
  generalize spE2 al ah bl bh = je at *
  generalize spIn ml mh al ah = i1 at *
  generalize spIn ml mh bl bh = i2 at *
  generalize spIn al ah jl jh = i3 at *
  generalize spIn bl bh jl jh = i4 at *
  have HE := Lib.hid IE
  clear IE
  go_enter Try.func8, Try.ntmps8
  go_wp2_with fail
  refine (C1.out _).mono ?_
  rintro e w1 ⟨rfl, hb⟩
  have KA := ((Cel.new w 31 al ah).on ((Below.refl _ _).alloc (Nat.le_refl _) (.cells #[.float .f64 bl, .float .f64 bh] 31))).on hb
  have KB := (Cel.new (w.alloc (.cells #[.float .f64 al, .float .f64 ah] 31)) 31 bl bh).on hb
  rw [World.size_alloc] at KB
  have g1 : Below w.heap.size w w1 := Below.trans (by (repeat (first | exact below_self _ _ | assumption | refine below_dn ?_ _ | refine Below.drew ?_ | refine Below.setCell ?_ (by (try simp) <;> (try omega)) _ | refine Below.alloc ?_ (by (try simp) <;> (try omega)) _))) (hb.mono (by (try simp) <;> (try omega)))
  clear hb
  have q : Below w1.heap.size w1 (w1.alloc (.cells #[.float .f64 ml, .float .f64 mh] 31)) := (Below.refl _ _).alloc (Nat.le_refl _) _
  replace KA := KA.on q
  replace KB := KB.on q
  have KX := Cel.new w1 31 ml mh
  have g1z : Below w.heap.size w (w1.alloc (.cells #[.float .f64 ml, .float .f64 mh] 31)) := g1.trans (q.mono g1.size)
  clear q
  have a0 := KA.c0
  have a1 := KA.c1
  have b0 := KB.c0
  have b1 := KB.c1
  go_wp2_with fail
  refine (C2.out _).mono ?_
  rintro e w2 ⟨rfl, hb⟩
  clear a0 a1 b0 b1
  replace KA := KA.on hb
  replace KB := KB.on hb
  replace KX := KX.on hb
  have g2 : Below w.heap.size w w2 := g1z.trans (hb.mono g1z.size)
  clear hb g1 g1z
  have q : Below w2.heap.size w2 (w2.alloc (.cells #[.float .f64 ml, .float .f64 mh] 31)) := (Below.refl _ _).alloc (Nat.le_refl _) _
  replace KA := KA.on q
  replace KB := KB.on q
  replace KX := KX.on q
  have KY := Cel.new w2 31 ml mh
  have g2z : Below w.heap.size w (w2.alloc (.cells #[.float .f64 ml, .float .f64 mh] 31)) := g2.trans (q.mono g2.size)
  clear q
  have a0 := KA.c0
  have a1 := KA.c1
  have b0 := KB.c0
  have b1 := KB.c1
  go_wp2_with fail
  refine (C3.out _).mono ?_
  rintro e w3 ⟨rfl, hb⟩
  clear a0 a1 b0 b1
  replace KA := KA.on hb
  replace KB := KB.on hb
  replace KX := KX.on hb
  replace KY := KY.on hb
  have g3 : Below w.heap.size w w3 := g2z.trans (hb.mono g2z.size)
  clear hb g2 g2z
  have q : Below w3.heap.size w3 (w3.alloc (.cells #[.float .f64 jl, .float .f64 jh] 31)) := (Below.refl _ _).alloc (Nat.le_refl _) _
  replace KA := KA.on q
  replace KB := KB.on q
  replace KX := KX.on q
  replace KY := KY.on q
  have KZ := Cel.new w3 31 jl jh
  have g3z : Below w.heap.size w (w3.alloc (.cells #[.float .f64 jl, .float .f64 jh] 31)) := g3.trans (q.mono g3.size)
  clear q
  have a0 := KA.c0
  have a1 := KA.c1
  have b0 := KB.c0
  have b1 := KB.c1
  go_wp2_with fail
  refine (C4.out _).mono ?_
  rintro e w4 ⟨rfl, hb⟩
  clear a0 a1 b0 b1
  replace KA := KA.on hb
  replace KB := KB.on hb
  replace KX := KX.on hb
  replace KY := KY.on hb
  replace KZ := KZ.on hb
  have g4 : Below w.heap.size w w4 := g3z.trans (hb.mono g3z.size)
  clear hb g3 g3z
  have q : Below w4.heap.size w4 (w4.alloc (.cells #[.float .f64 jl, .float .f64 jh] 31)) := (Below.refl _ _).alloc (Nat.le_refl _) _
  replace KA := KA.on q
  replace KB := KB.on q
  replace KX := KX.on q
  replace KY := KY.on q
  replace KZ := KZ.on q
  have KW := Cel.new w4 31 jl jh
  have g := g4.trans (q.mono g4.size)
  clear q g4
  have x0 := KA.c0
  have y0 := KA.c1
  have x1 := KB.c0
  have y1 := KB.c1
  have x2 := KX.c0
  have y2 := KX.c1
  have x3 := KY.c0
  have y3 := KY.c1
  have x4 := KZ.c0
  have y4 := KZ.c1
  have x5 := KW.c0
  have y5 := KW.c1
  go_wp2_with fail
  refine (C7.out _ _ _).mono ?_
  rintro e w5 ⟨rfl, hb⟩
  clear x0 y0 x1 y1 x2 y2 x3 y3 x4 y4 x5 y5
  replace KA := KA.on hb
  replace KB := KB.on hb
  replace KX := KX.on hb
  replace KY := KY.on hb
  replace KZ := KZ.on hb
  replace KW := KW.on hb
  replace g := g.trans (hb.mono g.size)
  clear hb
  have x0 := KA.c0
  have y0 := KA.c1
  have x1 := KB.c0
  have y1 := KB.c1
  have x2 := KX.c0
  have y2 := KX.c1
  have x3 := KY.c0
  have y3 := KY.c1
  have x4 := KZ.c0
  have y4 := KZ.c1
  have x5 := KW.c0
  have y5 := KW.c1
  go_wp2_with fail
  refine (C7.out _ _ _).mono ?_
  rintro e w6 ⟨rfl, hb⟩
  clear x0 y0 x1 y1 x2 y2 x3 y3 x4 y4 x5 y5
  replace KA := KA.on hb
  replace KB := KB.on hb
  replace KX := KX.on hb
  replace KY := KY.on hb
  replace KZ := KZ.on hb
  replace KW := KW.on hb
  replace g := g.trans (hb.mono g.size)
  clear hb
  have x0 := KA.c0
  have y0 := KA.c1
  have x1 := KB.c0
  have y1 := KB.c1
  have x2 := KX.c0
  have y2 := KX.c1
  have x3 := KY.c0
  have y3 := KY.c1
  have x4 := KZ.c0
  have y4 := KZ.c1
  have x5 := KW.c0
  have y5 := KW.c1
  clear C1 C2 C3 C4 C7
  cases mb
  · rcases HE.out with rfl | rfl
    · have hi := I2.out rfl
      obtain ⟨rfl, rfl⟩ := hi
      clear I1 I2
      go_wp2_with fail
      refine (C8.out _).mono ?_
      rintro e w9 ⟨rfl, hb⟩
      clear x0 y0 x1 y1 x2 y2 x3 y3 x4 y4 x5 y5
      replace KA := KA.on hb
      replace KB := KB.on hb
      replace KX := KX.on hb
      replace KY := KY.on hb
      replace KZ := KZ.on hb
      replace KW := KW.on hb
      replace g := g.trans (hb.mono g.size)
      clear hb
      have x0 := KA.c0
      have y0 := KA.c1
      have x1 := KB.c0
      have y1 := KB.c1
      have x2 := KX.c0
      have y2 := KX.c1
      have x3 := KY.c0
      have y3 := KY.c1
      have x4 := KZ.c0
      have y4 := KZ.c1
      have x5 := KW.c0
      have y5 := KW.c1
      go_wp2_with fail
      refine (CA.out _).mono ?_
      rintro e wa ⟨rfl, hb⟩
      clear x0 y0 x1 y1 x2 y2 x3 y3 x4 y4 x5 y5
      replace KA := KA.on hb
      replace KB := KB.on hb
      replace KX := KX.on hb
      replace KY := KY.on hb
      replace KZ := KZ.on hb
      replace KW := KW.on hb
      replace g := g.trans (hb.mono g.size)
      clear hb
      have x0 := KA.c0
      have y0 := KA.c1
      have x1 := KB.c0
      have y1 := KB.c1
      have x2 := KX.c0
      have y2 := KX.c1
      have x3 := KY.c0
      have y3 := KY.c1
      have x4 := KZ.c0
      have y4 := KZ.c1
      have x5 := KW.c0
      have y5 := KW.c1
      go_wp2_with fail
      refine (C9.out _).mono ?_
      rintro e wb ⟨rfl, hb⟩
      clear x0 y0 x1 y1 x2 y2 x3 y3 x4 y4 x5 y5
      replace KA := KA.on hb
      replace KB := KB.on hb
      replace KX := KX.on hb
      replace KY := KY.on hb
      replace KZ := KZ.on hb
      replace KW := KW.on hb
      replace g := g.trans (hb.mono g.size)
      clear hb
      have x0 := KA.c0
      have y0 := KA.c1
      have x1 := KB.c0
      have y1 := KB.c1
      have x2 := KX.c0
      have y2 := KX.c1
      have x3 := KY.c0
      have y3 := KY.c1
      have x4 := KZ.c0
      have y4 := KZ.c1
      have x5 := KW.c0
      have y5 := KW.c1
      go_wp2
      go_ret
      exact ⟨rfl, g⟩
    · clear I1 I2
      go_wp2_with fail
      refine (C9.out _).mono ?_
      rintro e wb ⟨rfl, hb⟩
      clear x0 y0 x1 y1 x2 y2 x3 y3 x4 y4 x5 y5
      replace KA := KA.on hb
      replace KB := KB.on hb
      replace KX := KX.on hb
      replace KY := KY.on hb
      replace KZ := KZ.on hb
      replace KW := KW.on hb
      replace g := g.trans (hb.mono g.size)
      clear hb
      have x0 := KA.c0
      have y0 := KA.c1
      have x1 := KB.c0
      have y1 := KB.c1
      have x2 := KX.c0
      have y2 := KX.c1
      have x3 := KY.c0
      have y3 := KY.c1
      have x4 := KZ.c0
      have y4 := KZ.c1
      have x5 := KW.c0
      have y5 := KW.c1
      go_wp2
      go_ret
      exact ⟨rfl, g⟩
  · have hi := I1.out rfl
    obtain ⟨rfl, rfl⟩ := hi
    go_wp2_with fail
    refine (C5.out _).mono ?_
    rintro e w7 ⟨rfl, hb⟩
    clear x0 y0 x1 y1 x2 y2 x3 y3 x4 y4 x5 y5
    replace KA := KA.on hb
    replace KB := KB.on hb
    replace KX := KX.on hb
    replace KY := KY.on hb
    replace KZ := KZ.on hb
    replace KW := KW.on hb
    replace g := g.trans (hb.mono g.size)
    clear hb
    have x0 := KA.c0
    have y0 := KA.c1
    have x1 := KB.c0
    have y1 := KB.c1
    have x2 := KX.c0
    have y2 := KX.c1
    have x3 := KY.c0
    have y3 := KY.c1
    have x4 := KZ.c0
    have y4 := KZ.c1
    have x5 := KW.c0
    have y5 := KW.c1
    go_wp2_with fail
    refine (C6.out _).mono ?_
    rintro e w8 ⟨rfl, hb⟩
    clear x0 y0 x1 y1 x2 y2 x3 y3 x4 y4 x5 y5
    replace KA := KA.on hb
    replace KB := KB.on hb
    replace KX := KX.on hb
    replace KY := KY.on hb
    replace KZ := KZ.on hb
    replace KW := KW.on hb
    replace g := g.trans (hb.mono g.size)
    clear hb
    have x0 := KA.c0
    have y0 := KA.c1
    have x1 := KB.c0
    have y1 := KB.c1
    have x2 := KX.c0
    have y2 := KX.c1
    have x3 := KY.c0
    have y3 := KY.c1
    have x4 := KZ.c0
    have y4 := KZ.c1
    have x5 := KW.c0
    have y5 := KW.c1
    rcases HE.out with rfl | rfl
    · have hi := I2.out rfl
      obtain ⟨rfl, rfl⟩ := hi
      clear I1 I2
      go_wp2_with fail
      refine (C8.out _).mono ?_
      rintro e w9 ⟨rfl, hb⟩
      clear x0 y0 x1 y1 x2 y2 x3 y3 x4 y4 x5 y5
      replace KA := KA.on hb
      replace KB := KB.on hb
      replace KX := KX.on hb
      replace KY := KY.on hb
      replace KZ := KZ.on hb
      replace KW := KW.on hb
      replace g := g.trans (hb.mono g.size)
      clear hb
      have x0 := KA.c0
      have y0 := KA.c1
      have x1 := KB.c0
      have y1 := KB.c1
      have x2 := KX.c0
      have y2 := KX.c1
      have x3 := KY.c0
      have y3 := KY.c1
      have x4 := KZ.c0
      have y4 := KZ.c1
      have x5 := KW.c0
      have y5 := KW.c1
      go_wp2_with fail
      refine (CA.out _).mono ?_
      rintro e wa ⟨rfl, hb⟩
      clear x0 y0 x1 y1 x2 y2 x3 y3 x4 y4 x5 y5
      replace KA := KA.on hb
      replace KB := KB.on hb
      replace KX := KX.on hb
      replace KY := KY.on hb
      replace KZ := KZ.on hb
      replace KW := KW.on hb
      replace g := g.trans (hb.mono g.size)
      clear hb
      have x0 := KA.c0
      have y0 := KA.c1
      have x1 := KB.c0
      have y1 := KB.c1
      have x2 := KX.c0
      have y2 := KX.c1
      have x3 := KY.c0
      have y3 := KY.c1
      have x4 := KZ.c0
      have y4 := KZ.c1
      have x5 := KW.c0
      have y5 := KW.c1
      go_wp2_with fail
      refine (C9.out _).mono ?_
      rintro e wb ⟨rfl, hb⟩
      clear x0 y0 x1 y1 x2 y2 x3 y3 x4 y4 x5 y5
      replace KA := KA.on hb
      replace KB := KB.on hb
      replace KX := KX.on hb
      replace KY := KY.on hb
      replace KZ := KZ.on hb
      replace KW := KW.on hb
      replace g := g.trans (hb.mono g.size)
      clear hb
      have x0 := KA.c0
      have y0 := KA.c1
      have x1 := KB.c0
      have y1 := KB.c1
      have x2 := KX.c0
      have y2 := KX.c1
      have x3 := KY.c0
      have y3 := KY.c1
      have x4 := KZ.c0
      have y4 := KZ.c1
      have x5 := KW.c0
      have y5 := KW.c1
      go_wp2
      go_ret
      exact ⟨rfl, g⟩
    · clear I1 I2
      go_wp2_with fail
      refine (C9.out _).mono ?_
      rintro e wb ⟨rfl, hb⟩
      clear x0 y0 x1 y1 x2 y2 x3 y3 x4 y4 x5 y5
      replace KA := KA.on hb
      replace KB := KB.on hb
      replace KX := KX.on hb
      replace KY := KY.on hb
      replace KZ := KZ.on hb
      replace KW := KW.on hb
      replace g := g.trans (hb.mono g.size)
      clear hb
      have x0 := KA.c0
      have y0 := KA.c1
      have x1 := KB.c0
      have y1 := KB.c1
      have x2 := KX.c0
      have y2 := KX.c1
      have x3 := KY.c0
      have y3 := KY.c1
      have x4 := KZ.c0
      have y4 := KZ.c1
      have x5 := KW.c0
      have y5 := KW.c1
      go_wp2
      go_ret
      exact ⟨rfl, g⟩
end Go.Proofs.Ytffjkfjokikhnaa.Fl
