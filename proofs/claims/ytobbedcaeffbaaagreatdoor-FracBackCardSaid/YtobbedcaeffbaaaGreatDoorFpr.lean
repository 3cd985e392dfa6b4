/-
  What frac.Parse returns of any text: the fraction, or why there is none. Condition: the cell of the length of what is searched at once.
-/
import Derived.Test.YtobbedcaeffbaaaGreatDoorFpa
import Derived.Test.YtobbedcaeffbaaaGreatDoorGrt
import Derived.Test.YtobbedcaeffbaaaGreatDoorFfl
namespace Go.Proofs.YtobbedcaeffbaaaGreatDoor
open Go.RowKit Nb
/-- What Parse answers of s. -/
def FParse (s : ByteArray) (w : World) (e : Ending) : Prop := ∃ (g : Fv) (er : Int), e = .returned (.tuple #[fv g, .int .i64 er]) ∧
  ((er = 0 ∧ s.size ≤ 65536 ∧ IsFr s.data.toList ∧ FitsQ (frV s.data.toList) ∧ Ff w (frV s.data.toList) g) ∨ (er = 4 ∧ 65536 < s.size ∧ g = fv0) ∨ (er = 5 ∧ ¬ IsFr s.data.toList ∧ g = fv0) ∨ (er = 4 ∧ ¬ FitsQ (frV s.data.toList) ∧ g = fv0))
theorem fparse_of {s : ByteArray} {w : World} {y : Fv} {er : Int} (hs : s.size ≤ 65536) (hf : IsFr s.data.toList) (h : Fr w False (frV s.data.toList) y er) : FParse s w (.returned (.tuple #[fv y, .int .i64 er])) := by
  refine ⟨y, er, rfl, ?_⟩
  rcases h with ⟨_, h1, h2, h3⟩ | ⟨⟨h1, _⟩ | ⟨_, h1, h2⟩, h3⟩
  · exact .inl ⟨h2, hs, hf, h1, h3⟩
  · exact h1.elim
  · exact .inr (.inr (.inr ⟨h2, h1, h3⟩))
theorem fit_v {w : World} {q : Rat} {f : Fv} (h : Fq w q f maxLen) (hx : f.xs.length ≤ 65536) (hd : f.ds.length ≤ 65536) : Calls Tryz.prog 63 #[fv f] w (GR w False q) := by
  obtain ⟨n, A, xs, c, m, B, ds, d⟩ := f
  obtain ⟨hm, hq⟩ := h
  obtain rfl : m = false := hm
  refine (ffit_g q n A B xs ds c d 65536 w hq hx hd (by decide)).mono ?_
  rintro e w' ⟨n1, A1, xs1, c1, m1, B1, ds1, d1, er, rfl, h, hb⟩
  refine ⟨⟨n1, A1, xs1, c1, m1, B1, ds1, d1⟩, er, rfl, ?_, hb⟩
  rcases h with ⟨h1, h2, h3, h4⟩ | ⟨h1, h2, rfl, rfl, rfl, rfl, rfl, rfl, rfl, rfl⟩
  · exact .inl ⟨not_false, h1, h2, h3, h4⟩
  · exact .inr ⟨.inr ⟨not_false, h1, h2⟩, rfl⟩
set_option maxHeartbeats 8000000 in
set_option maxRecDepth 20000 in
theorem r_parse_long {s : ByteArray} {w : World} (hl : (65536 : Int) < (s.size : Int)) :
    Calls Tryz.prog 15 #[.string s] w (fun e w' => FParse s w' e ∧ Below w.heap.size w w') := by
  have HL := Lib.hid hl
  have BW : Below w.heap.size w w := Below.refl _ _
  obtain ⟨V1, e2, hb3, K4, Z5, -⟩ := alloc_new w [.bool false, .slice none 0 0, .bool false, .slice none 0 0] 27
  have g6 : w.heap.size ≤ w.heap.size := BW.size
  replace BW := BW.trans (hb3.mono BW.size)
  clear hb3
  go_enter Tryz.func15, Tryz.ntmps15
  go_wp2_with fail
  rw [← e2]
  clear e2
  go_wp2_with fail
  obtain ⟨c7, c8, c9, c10⟩ := K4.c4
  exact bodyPost_ret (v := .tuple #[.agg #[.bool false, .slice none 0 0, .bool false, .slice none 0 0], .int .i64 4]) (by simp [results, Tryz.results15, go_sem, c7, c8, c9, c10]) rfl ⟨⟨fv0, 4, rfl, .inr (.inl ⟨rfl, by have := HL.out; omega, rfl⟩)⟩, BW⟩
set_option maxHeartbeats 8000000 in
set_option maxRecDepth 20000 in
theorem r_parse_short {s : ByteArray} {w : World} (hl : (s.size : Int) ≤ 65536) (hM : Mxl w) :
    Calls Tryz.prog 15 #[.string s] w (fun e w' => FParse s w' e ∧ Below w.heap.size w w') := by
  have HS := Lib.hid (show s.size ≤ 65536 by omega)
  have HM := Lib.hid hM
  clear hM
  have BW : Below w.heap.size w w := Below.refl _ _
  obtain ⟨V1, e2, hb3, K4, Z5, -⟩ := alloc_new w [.bool false, .slice none 0 0, .bool false, .slice none 0 0] 27
  have g6 : w.heap.size ≤ w.heap.size := BW.size
  replace BW := BW.trans (hb3.mono BW.size)
  clear hb3
  go_enter Tryz.func15, Tryz.ntmps15
  go_wp2_with fail
  rw [← e2]
  clear e2
  refine (parse_any HS.out (mxl_below HM.out BW)).mono ?_
  rintro _ w7 ⟨g, ok, rfl, h1, h2, hb⟩
  replace K4 := K4.on hb
  replace Z5 := Z5.on hb
  replace BW := BW.trans (hb.mono BW.size)
  clear hb
  have H1 := Lib.hid h1
  have H2 := Lib.hid h2
  clear h1 h2
  cases ok
  · obtain ⟨V8, e9, hb10, K11, -, -⟩ := alloc_new w7 [.bool g.n, .slice g.A g.xs.length g.c, .bool g.m, .slice g.B g.ds.length g.d] 100
    have n12 : w.heap.size ≠ w7.heap.size := Nat.ne_of_lt (K4.lt)
    replace K4 := K4.on hb10
    replace Z5 := Z5.on hb10
    replace BW := BW.trans (hb10.mono BW.size)
    clear hb10
    obtain ⟨c13, c14, c15, c16⟩ := K4.c4
    obtain ⟨c17, c18, c19, c20⟩ := Z5.f4
    rw [e9] at c13 c14 c15 c16 c17 c18 c19 c20
    obtain ⟨V21, hk23⟩ : ∃ V21, V21 = V8.setCells (w.heap.size) 0 [.bool false, .slice none 0 0, .bool false, .slice none 0 0] := ⟨_, rfl⟩
    have e22 := hk23
    simp only [World.setCells, Nat.zero_add, Nat.reduceAdd] at e22
    have hk24 := Kept.overE hk23 K4 rfl (by simp)
    replace K4 := K4.overE hk23 rfl
    replace K11 := K11.awayE hk23 n12.symm
    replace Z5 := Z5.putE hk23
    replace BW := Below.putE BW hk23 g6
    clear hk23 hk24
    go_wp2_with fail
    clear c13 c14 c15 c16 c17 c18 c19 c20
    rw [← e9, ← e22]
    clear e9 e22
    generalize w7.heap.size = b25 at *
    obtain ⟨c26, c27, c28, c29⟩ := K4.c4
    exact bodyPost_ret (v := .tuple #[.agg #[.bool false, .slice none 0 0, .bool false, .slice none 0 0], .int .i64 5]) (by simp [results, Tryz.results15, go_sem, c26, c27, c28, c29]) rfl ⟨⟨fv0, 5, rfl, .inr (.inr (.inl ⟨rfl, H2.out trivial, rfl⟩))⟩, BW⟩
  · have Q := (H1.out rfl).2.1
    obtain ⟨V8, e9, hb10, K11, -, -⟩ := alloc_new w7 [.bool g.n, .slice g.A g.xs.length g.c, .bool g.m, .slice g.B g.ds.length g.d] 100
    have n12 : w.heap.size ≠ w7.heap.size := Nat.ne_of_lt (K4.lt)
    replace K4 := K4.on hb10
    replace Z5 := Z5.on hb10
    replace Q := Q.kp (Kept.of hb10)
    replace BW := BW.trans (hb10.mono BW.size)
    clear hb10
    go_wp2_with fail
    rw [← e9]
    clear e9
    generalize w7.heap.size = b13 at *
    refine (fit_v Q (H1.out trivial).2.2.1 (H1.out trivial).2.2.2).mono ?_
    rintro _ w14 ⟨y, er, rfl, h, hb⟩
    replace K4 := K4.on hb
    replace Z5 := Z5.on hb
    replace BW := BW.trans (hb.mono BW.size)
    clear hb
    obtain ⟨c15, c16, c17, c18⟩ := K4.c4
    obtain ⟨c19, c20, c21, c22⟩ := Z5.f4
    obtain ⟨V23, hk25⟩ : ∃ V23, V23 = w14.setCells (w.heap.size) 0 [.bool y.n, .slice y.A y.xs.length y.c, .bool y.m, .slice y.B y.ds.length y.d] := ⟨_, rfl⟩
    have e24 := hk25
    simp only [World.setCells, Nat.zero_add, Nat.reduceAdd] at e24
    have hk26 := Kept.overE hk25 K4 rfl (by simp)
    replace K4 := K4.overE hk25 rfl
    replace h := h.kp hk26
    replace BW := Below.putE BW hk25 g6
    clear hk25 hk26
    go_wp2_with fail
    clear c15 c16 c17 c18 c19 c20 c21 c22
    rw [← e24]
    clear e24
    obtain ⟨c27, c28, c29, c30⟩ := K4.c4
    exact bodyPost_ret (v := .tuple #[fv y, .int .i64 er]) (by simp [results, Tryz.results15, go_sem, c27, c28, c29, c30]) rfl ⟨fparse_of HS.out (H1.out trivial).1 h, BW⟩
end Go.Proofs.YtobbedcaeffbaaaGreatDoor
