/-
  What like returns of two answers that are told of one fraction; what sums and products with a refused answer come to; what the statement about the laws of fractions returns: yes. Conditions: that they are fractions, and no longer than memory.
-/
import Derived.Test.YtjilhplonaomoaaGreatDoorFrAdd
import Derived.Test.YtjilhplonaomoaaGreatDoorFrMul
import Derived.Test.YtjilhplonaomoaaGreatDoorFrSub
import Derived.Test.YtjilhplonaomoaaGreatDoorFrQuo
import Derived.Test.YtjilhplonaomoaaGreatDoorFrh
import Derived.Deep.RegionHeld3
import Derived.Deep.DeepCutAuto
import Derived.BigRegion
namespace Go.Proofs.YtjilhplonaomoaaGreatDoor
open Go.RowKit Nb

section
variable {W W' : World} {z : Rat} {bad : Prop} {n m n' m' : Bool} {A B A' B' : Option Addr} {xs ds ys es : List Nat} {c d c' d' : Nat} {er er' : Int}
theorem Rk.er_eq (h : Rk W bad z n A xs c m B ds d er) (k : Rk W' bad z n' A' ys c' m' B' es d' er') : er = er' := by
  rcases h with ⟨h1, h2, h3, _⟩ | ⟨⟨h1, h3⟩ | ⟨h1, h2, h3⟩, _⟩ <;> rcases k with ⟨k1, k2, k3, _⟩ | ⟨⟨k1, k3⟩ | ⟨k1, k2, k3⟩, _⟩
  · rw [h3, k3]
  · exact absurd k1 h1
  · exact absurd h2 k2
  · exact absurd h1 k1
  · rw [h3, k3]
  · exact absurd h1 k1
  · exact absurd k2 h2
  · exact absurd k1 h1
  · rw [h3, k3]
theorem Rk.lf (h : Rk W bad z n A xs c m B ds d er) (he : er = 0) : m = false ∧ Lf W z n A xs c B ds d := by
  rcases h with ⟨_, _, _, h4, h5⟩ | ⟨⟨_, h3⟩ | ⟨_, _, h3⟩, _⟩
  · exact ⟨h4, h5⟩
  · omega
  · omega
theorem Rk.no (h : Rk W bad z n A xs c m B ds d er) (he : er ≠ 0) : Zq n A xs c m B ds d := by
  rcases h with ⟨_, _, h3, _⟩ | ⟨_, h⟩
  · exact absurd h3 he
  · exact h
theorem Rk.yes (h : Rk W bad z n A xs c m B ds d er) (hb : ¬ bad) (hf : FitsQ z) : er = 0 := by
  rcases h with ⟨_, _, h3, _⟩ | ⟨⟨h1, _⟩ | ⟨_, h2, _⟩, _⟩
  · exact h3
  · exact absurd h1 hb
  · exact absurd hf h2
theorem Rk.bad3 (h : Rk W bad z n A xs c m B ds d er) (hb : bad) : er = 3 := by
  rcases h with ⟨h1, _⟩ | ⟨⟨_, h3⟩ | ⟨h1, _⟩, _⟩
  · exact absurd hb h1
  · exact h3
  · exact absurd hb h1
theorem Rk.to {z' : Rat} (h : Rk W bad z n A xs c m B ds d er) (e : z = z') : Rk W bad z' n A xs c m B ds d er := e ▸ h
theorem Lf.fitsQ (h : Lf W z n A xs c B ds d) : FitsQ z := ⟨h.num.fits, h.den.fits⟩
theorem Lf.rk (h : Lf W z n A xs c B ds d) : Rk W False z n A xs c false B ds d 0 := .inl ⟨not_false, h.fitsQ, rfl, rfl, h⟩
theorem Rk.rq (h : Rk W bad z n A xs c m B ds d er) : Rq W A xs B ds := by
  rcases h with ⟨_, _, _, rfl, h5⟩ | ⟨_, rfl, rfl, rfl, rfl, rfl, rfl, rfl, rfl⟩
  · exact h5.rq
  · exact ⟨⟨Sl.none_, Dig.nil _, by simp⟩, ⟨Sl.none_, Dig.nil _, by simp⟩⟩
theorem Zq.notok (h : Zq n A xs c m B ds d) : ¬ Okf n xs m ds := by
  obtain ⟨rfl, rfl, rfl, rfl, rfl, rfl, rfl, rfl⟩ := h
  intro o
  have := o.ne
  simp [val] at this
/-- What comes of an answer that may be refused. -/
def Rj (W : World) (j : Int) (z : Rat) (n : Bool) (A : Option Addr) (xs : List Nat) (c : Nat) (m : Bool) (B : Option Addr) (ds : List Nat) (d : Nat) (er : Int) : Prop := j = 0 → Rk W False z n A xs c m B ds d er
theorem Rj.on {j : Int} (h : Rj W j z n A xs c m B ds d er) (hb : Below W.heap.size W W') : Rj W' j z n A xs c m B ds d er := fun e => (h e).on hb
theorem Rj.put4 {p : Nat} {j : Int} (h : Rj W j z n A xs c m B ds d er) (hr : RestQ W p) (u0 u1 u2 u3 : Value) : Rj ((((W.setCell ⟨p, 0, none⟩ u0).setCell ⟨p, 1, none⟩ u1).setCell ⟨p, 2, none⟩ u2).setCell ⟨p, 3, none⟩ u3) j z n A xs c m B ds d er := fun e => (h e).put4 hr u0 u1 u2 u3
end
set_option maxHeartbeats 8000000 in
set_option maxRecDepth 20000 in
theorem like_rk (z : Rat) (n m n' m' : Bool) (A B A' B' : Option Addr) (xs ds ys es : List Nat) (c d c' d' : Nat) (er er' : Int) (w : World) (h : Rk w False z n A xs c m B ds d er) (k : Rk w False z n' A' ys c' m' B' es d' er') :
    Calls Tryz.prog 14 #[frq n A xs.length c m B ds.length d, .int .i64 er, frq n' A' ys.length c' m' B' es.length d', .int .i64 er'] w (fun e w' => e = .returned (.bool true) ∧ Below w.heap.size w w') := by
  obtain ⟨V, hV, BW, hz, KX, KY⟩ := box_pair w [.bool n, .slice A xs.length c, .bool m, .slice B ds.length d] [.bool n', .slice A' ys.length c', .bool m', .slice B' es.length d'] 26 26
  have RA := h.on BW
  have RB := k.on BW
  clear h k hz
  obtain rfl := RA.er_eq RB
  by_cases he : er = 0
  · obtain ⟨rfl, LA⟩ := RA.lf he
    obtain ⟨rfl, LB⟩ := RB.lf he
    subst he
    clear RA RB
    have KX_0 := KX.c 0 _ rfl
    have KX_1 := KX.c 1 _ rfl
    have KX_2 := KX.c 2 _ rfl
    have KX_3 := KX.c 3 _ rfl
    have KY_0 := KY.c 0 _ rfl
    have KY_1 := KY.c 1 _ rfl
    have KY_2 := KY.c 2 _ rfl
    have KY_3 := KY.c 3 _ rfl
    go_enter Tryz.func14, Tryz.ntmps14
    go_wp2_with fail
    clear KX_0 KX_1 KX_2 KX_3 KY_0 KY_1 KY_2 KY_3
    rw [← hV]
    clear hV
    have HS := same_frac z z _ _ _ _ _ _ _ _ _ _ _ _ _ _ V LA LB
    rw [decide_eq_true rfl] at HS
    refine HS.mono ?_
    rintro _ w1 ⟨rfl, hb⟩
    replace KX := KX.on hb
    replace KY := KY.on hb
    replace LA := LA.on hb
    replace LB := LB.on hb
    replace BW := BW.trans (hb.mono BW.size)
    clear hb
    have HC := frac_cmp z z _ _ _ _ _ _ _ _ _ _ _ _ _ _ w1 LA LB
    rw [(cmpQ_zero z z).2 rfl] at HC
    have KX_0 := KX.c 0 _ rfl
    have KX_1 := KX.c 1 _ rfl
    have KX_2 := KX.c 2 _ rfl
    have KX_3 := KX.c 3 _ rfl
    have KY_0 := KY.c 0 _ rfl
    have KY_1 := KY.c 1 _ rfl
    have KY_2 := KY.c 2 _ rfl
    have KY_3 := KY.c 3 _ rfl
    go_wp2_with fail
    clear KX_0 KX_1 KX_2 KX_3 KY_0 KY_1 KY_2 KY_3
    refine HC.mono ?_
    rintro _ w2 ⟨rfl, hb⟩
    replace KX := KX.on hb
    replace KY := KY.on hb
    replace LA := LA.on hb
    replace LB := LB.on hb
    replace BW := BW.trans (hb.mono BW.size)
    clear hb
    clear LA LB KX KY
    go_wp2
    go_ret
    exact ⟨rfl, BW⟩
  · clear RA RB
    have KX_0 := KX.c 0 _ rfl
    have KX_1 := KX.c 1 _ rfl
    have KX_2 := KX.c 2 _ rfl
    have KX_3 := KX.c 3 _ rfl
    have KY_0 := KY.c 0 _ rfl
    have KY_1 := KY.c 1 _ rfl
    have KY_2 := KY.c 2 _ rfl
    have KY_3 := KY.c 3 _ rfl
    go_enter Tryz.func14, Tryz.ntmps14
    go_wp2
    go_ret
    rw [← hV]
    exact ⟨rfl, BW⟩

set_option maxHeartbeats 8000000 in
set_option maxRecDepth 20000 in
theorem freck_add_no (n n' m' : Bool) (A B A' B' : Option Addr) (xs ds ys es : List Nat) (c d c' d' : Nat) (q : Rat) (w : World) (h : Lf w q n A xs c B ds d) (k : Rq w A' ys B' es) (hno : ¬ Okf n' ys m' es) :
    Calls Tryz.prog 40 #[frq n A xs.length c false B ds.length d, frq n' A' ys.length c' m' B' es.length d', .func (.func 41) #[] #[]] w (fun e w' => e = .returned (.tuple #[frq false none ([] : List Nat).length 0 false none ([] : List Nat).length 0, .int .i64 1]) ∧ Below w.heap.size w w') := by
  obtain ⟨V, hV, BW, hz, RR, ⟨c0, c1, c2, c3⟩, ⟨e0, e1, e2, e3⟩⟩ := box_two w n A xs.length c false B ds.length d n' A' ys.length c' m' B' es.length d' 26 26 26
  have KX := Box.of4 (by omega) c0 c1 c2 c3
  have KY := Box.of4 (by omega) e0 e1 e2 e3
  have LX := h.on BW
  have RY := k.on BW
  clear h k c0 c1 c2 c3 e0 e1 e2 e3
  have hb : Below V.heap.size V (V.alloc (.cells #[.bool n, .slice A xs.length c, .bool false, .slice B ds.length d, .bool n', .slice A' ys.length c', .bool m', .slice B' es.length d'] 26)) := by go_grown
  have KB := Box.new V [.bool n, .slice A xs.length c, .bool false, .slice B ds.length d, .bool n', .slice A' ys.length c', .bool m', .slice B' es.length d'] 26
  replace KX := KX.on hb
  replace KY := KY.on hb
  replace LX := LX.on hb
  replace RY := RY.on hb
  replace RR := RR.on hb
  replace BW := BW.trans (hb.mono BW.size)
  clear hb
  rw [hz] at KB
  clear hz
  go_enter Tryz.func40, Tryz.ntmps40
  go_wp2_with fail
  rw [← hV]
  clear hV
  generalize (V.alloc (.cells #[.bool n, .slice A xs.length c, .bool false, .slice B ds.length d, .bool n', .slice A' ys.length c', .bool m', .slice B' es.length d'] 26)) = VB at *
  refine (fcheck_two (w.heap.size + 1 + 1 + 1) n false n' m' A B A' B' xs ds ys es 2 c d c' d' VB LX.rq RY KB.lt (KB.c 0 _ rfl) (KB.c 1 _ rfl) (KB.c 2 _ rfl) (KB.c 3 _ rfl) (KB.c 4 _ rfl) (KB.c 5 _ rfl) (KB.c 6 _ rfl) (KB.c 7 _ rfl)).mono ?_
  rw [chkF_ok LX.okf, chkF_bad hno]
  rintro _ w1 ⟨rfl, hb⟩
  clear KB
  replace KX := KX.on hb
  replace KY := KY.on hb
  replace LX := LX.on hb
  replace RY := RY.on hb
  replace RR := RR.on hb
  replace BW := BW.trans (hb.mono BW.size)
  clear hb
  rw [if_pos rfl]
  have y0 := RR.r0
  have y1 := RR.r1
  have y2 := RR.r2
  have y3 := RR.r3
  have y4 := RR.f0
  have y5 := RR.f1
  have y6 := RR.f2
  have y7 := RR.f3
  have HL := Lib.hid (Below.putq BW (r := w.heap.size + 1 + 1) (by omega) (.bool false) (.slice none 0 0) (.bool false) (.slice none 0 0))
  clear LX RY BW KX KY RR hno
  go_wp2
  exact bodyPost_ret (v := .tuple #[frq false none ([] : List Nat).length 0 false none ([] : List Nat).length 0, .int .i64 1]) (by simp [results, Tryz.results40, go_sem, y0, y1, y2, y3]) rfl ⟨rfl, HL.out⟩

set_option maxHeartbeats 8000000 in
set_option maxRecDepth 20000 in
theorem frac_add_no (n n' m' : Bool) (A B A' B' : Option Addr) (xs ds ys es : List Nat) (c d c' d' : Nat) (q : Rat) (w : World) (h : Lf w q n A xs c B ds d) (k : Rq w A' ys B' es) (hno : ¬ Okf n' ys m' es) :
    Calls Tryz.prog 12 #[frq n A xs.length c false B ds.length d, frq n' A' ys.length c' m' B' es.length d'] w (fun e w' => e = .returned (.tuple #[frq false none ([] : List Nat).length 0 false none ([] : List Nat).length 0, .int .i64 1]) ∧ Below w.heap.size w w') := by
  obtain ⟨V, hV, BW, hz, RR, ⟨c0, c1, c2, c3⟩, ⟨e0, e1, e2, e3⟩⟩ := box_two w n A xs.length c false B ds.length d n' A' ys.length c' m' B' es.length d' 26 26 26
  have KX := Box.of4 (by omega) c0 c1 c2 c3
  have KY := Box.of4 (by omega) e0 e1 e2 e3
  have LX := h.on BW
  have RY := k.on BW
  clear h k c0 c1 c2 c3 e0 e1 e2 e3
  clear hz
  have KX_0 := KX.c 0 _ rfl
  have KX_1 := KX.c 1 _ rfl
  have KX_2 := KX.c 2 _ rfl
  have KX_3 := KX.c 3 _ rfl
  have KY_0 := KY.c 0 _ rfl
  have KY_1 := KY.c 1 _ rfl
  have KY_2 := KY.c 2 _ rfl
  have KY_3 := KY.c 3 _ rfl
  go_enter Tryz.func12, Tryz.ntmps12
  go_wp2_with fail
  clear KX_0 KX_1 KX_2 KX_3 KY_0 KY_1 KY_2 KY_3
  rw [← hV]
  clear hV
  refine (freck_add_no n n' m' A B A' B' xs ds ys es c d c' d' q V LX RY hno).mono ?_
  rintro _ w1 ⟨rfl, hb⟩
  replace KX := KX.on hb
  replace KY := KY.on hb
  replace LX := LX.on hb
  replace RY := RY.on hb
  replace RR := RR.on hb
  replace BW := BW.trans (hb.mono BW.size)
  clear hb
  have y0 := RR.r0
  have y1 := RR.r1
  have y2 := RR.r2
  have y3 := RR.r3
  have y4 := RR.f0
  have y5 := RR.f1
  have y6 := RR.f2
  have y7 := RR.f3
  have HL := Lib.hid (Below.putq BW (r := w.heap.size + 1 + 1) (by omega) (.bool false) (.slice none 0 0) (.bool false) (.slice none 0 0))
  clear LX RY BW KX KY RR hno
  go_wp2
  exact bodyPost_ret (v := .tuple #[frq false none ([] : List Nat).length 0 false none ([] : List Nat).length 0, .int .i64 1]) (by simp [results, Tryz.results12, go_sem, y0, y1, y2, y3]) rfl ⟨rfl, HL.out⟩

theorem frac_add_rj (q p : Rat) (n n' m' : Bool) (A B A' B' : Option Addr) (xs ds ys es : List Nat) (c d c' d' : Nat) (j : Int) (w : World) (h : Lf w q n A xs c B ds d) (k : Rk w False p n' A' ys c' m' B' es d' j) :
    Calls Tryz.prog 12 #[frq n A xs.length c false B ds.length d, frq n' A' ys.length c' m' B' es.length d'] w fun e w' => ∃ (tn : Bool) (tA : Option Addr) (tz : List Nat) (tk : Nat) (tm : Bool) (tB : Option Addr) (td : List Nat) (tl : Nat) (er : Int), e = .returned (.tuple #[frq tn tA tz.length tk tm tB td.length tl, .int .i64 er]) ∧ Rj w' j (q + p) tn tA tz tk tm tB td tl er ∧ Below w.heap.size w w' := by
  by_cases hj : j = 0
  · obtain ⟨rfl, LY⟩ := k.lf hj
    refine (frac_add q p _ _ _ _ _ _ _ _ _ _ _ _ _ _ w h LY).mono ?_
    rintro e w' ⟨tn, tA, tz, tk, tm, tB, td, tl, er, rfl, Rt, hb⟩
    exact ⟨tn, tA, tz, tk, tm, tB, td, tl, er, rfl, fun _ => Rt, hb⟩
  · refine (frac_add_no n n' m' A B A' B' xs ds ys es c d c' d' q w h k.rq (k.no hj).notok).mono ?_
    rintro e w' ⟨rfl, hb⟩
    exact ⟨false, none, [], 0, false, none, [], 0, 1, rfl, fun e => absurd e hj, hb⟩

set_option maxHeartbeats 8000000 in
set_option maxRecDepth 20000 in
theorem freck_mul_no (n n' m' : Bool) (A B A' B' : Option Addr) (xs ds ys es : List Nat) (c d c' d' : Nat) (q : Rat) (w : World) (h : Lf w q n A xs c B ds d) (k : Rq w A' ys B' es) (hno : ¬ Okf n' ys m' es) :
    Calls Tryz.prog 40 #[frq n A xs.length c false B ds.length d, frq n' A' ys.length c' m' B' es.length d', .func (.func 43) #[] #[]] w (fun e w' => e = .returned (.tuple #[frq false none ([] : List Nat).length 0 false none ([] : List Nat).length 0, .int .i64 1]) ∧ Below w.heap.size w w') := by
  obtain ⟨V, hV, BW, hz, RR, ⟨c0, c1, c2, c3⟩, ⟨e0, e1, e2, e3⟩⟩ := box_two w n A xs.length c false B ds.length d n' A' ys.length c' m' B' es.length d' 26 26 26
  have KX := Box.of4 (by omega) c0 c1 c2 c3
  have KY := Box.of4 (by omega) e0 e1 e2 e3
  have LX := h.on BW
  have RY := k.on BW
  clear h k c0 c1 c2 c3 e0 e1 e2 e3
  have hb : Below V.heap.size V (V.alloc (.cells #[.bool n, .slice A xs.length c, .bool false, .slice B ds.length d, .bool n', .slice A' ys.length c', .bool m', .slice B' es.length d'] 26)) := by go_grown
  have KB := Box.new V [.bool n, .slice A xs.length c, .bool false, .slice B ds.length d, .bool n', .slice A' ys.length c', .bool m', .slice B' es.length d'] 26
  replace KX := KX.on hb
  replace KY := KY.on hb
  replace LX := LX.on hb
  replace RY := RY.on hb
  replace RR := RR.on hb
  replace BW := BW.trans (hb.mono BW.size)
  clear hb
  rw [hz] at KB
  clear hz
  go_enter Tryz.func40, Tryz.ntmps40
  go_wp2_with fail
  rw [← hV]
  clear hV
  generalize (V.alloc (.cells #[.bool n, .slice A xs.length c, .bool false, .slice B ds.length d, .bool n', .slice A' ys.length c', .bool m', .slice B' es.length d'] 26)) = VB at *
  refine (fcheck_two (w.heap.size + 1 + 1 + 1) n false n' m' A B A' B' xs ds ys es 2 c d c' d' VB LX.rq RY KB.lt (KB.c 0 _ rfl) (KB.c 1 _ rfl) (KB.c 2 _ rfl) (KB.c 3 _ rfl) (KB.c 4 _ rfl) (KB.c 5 _ rfl) (KB.c 6 _ rfl) (KB.c 7 _ rfl)).mono ?_
  rw [chkF_ok LX.okf, chkF_bad hno]
  rintro _ w1 ⟨rfl, hb⟩
  clear KB
  replace KX := KX.on hb
  replace KY := KY.on hb
  replace LX := LX.on hb
  replace RY := RY.on hb
  replace RR := RR.on hb
  replace BW := BW.trans (hb.mono BW.size)
  clear hb
  rw [if_pos rfl]
  have y0 := RR.r0
  have y1 := RR.r1
  have y2 := RR.r2
  have y3 := RR.r3
  have y4 := RR.f0
  have y5 := RR.f1
  have y6 := RR.f2
  have y7 := RR.f3
  have HL := Lib.hid (Below.putq BW (r := w.heap.size + 1 + 1) (by omega) (.bool false) (.slice none 0 0) (.bool false) (.slice none 0 0))
  clear LX RY BW KX KY RR hno
  go_wp2
  exact bodyPost_ret (v := .tuple #[frq false none ([] : List Nat).length 0 false none ([] : List Nat).length 0, .int .i64 1]) (by simp [results, Tryz.results40, go_sem, y0, y1, y2, y3]) rfl ⟨rfl, HL.out⟩

set_option maxHeartbeats 8000000 in
set_option maxRecDepth 20000 in
theorem frac_mul_no (n n' m' : Bool) (A B A' B' : Option Addr) (xs ds ys es : List Nat) (c d c' d' : Nat) (q : Rat) (w : World) (h : Lf w q n A xs c B ds d) (k : Rq w A' ys B' es) (hno : ¬ Okf n' ys m' es) :
    Calls Tryz.prog 13 #[frq n A xs.length c false B ds.length d, frq n' A' ys.length c' m' B' es.length d'] w (fun e w' => e = .returned (.tuple #[frq false none ([] : List Nat).length 0 false none ([] : List Nat).length 0, .int .i64 1]) ∧ Below w.heap.size w w') := by
  obtain ⟨V, hV, BW, hz, RR, ⟨c0, c1, c2, c3⟩, ⟨e0, e1, e2, e3⟩⟩ := box_two w n A xs.length c false B ds.length d n' A' ys.length c' m' B' es.length d' 26 26 26
  have KX := Box.of4 (by omega) c0 c1 c2 c3
  have KY := Box.of4 (by omega) e0 e1 e2 e3
  have LX := h.on BW
  have RY := k.on BW
  clear h k c0 c1 c2 c3 e0 e1 e2 e3
  clear hz
  have KX_0 := KX.c 0 _ rfl
  have KX_1 := KX.c 1 _ rfl
  have KX_2 := KX.c 2 _ rfl
  have KX_3 := KX.c 3 _ rfl
  have KY_0 := KY.c 0 _ rfl
  have KY_1 := KY.c 1 _ rfl
  have KY_2 := KY.c 2 _ rfl
  have KY_3 := KY.c 3 _ rfl
  go_enter Tryz.func13, Tryz.ntmps13
  go_wp2_with fail
  clear KX_0 KX_1 KX_2 KX_3 KY_0 KY_1 KY_2 KY_3
  rw [← hV]
  clear hV
  refine (freck_mul_no n n' m' A B A' B' xs ds ys es c d c' d' q V LX RY hno).mono ?_
  rintro _ w1 ⟨rfl, hb⟩
  replace KX := KX.on hb
  replace KY := KY.on hb
  replace LX := LX.on hb
  replace RY := RY.on hb
  replace RR := RR.on hb
  replace BW := BW.trans (hb.mono BW.size)
  clear hb
  have y0 := RR.r0
  have y1 := RR.r1
  have y2 := RR.r2
  have y3 := RR.r3
  have y4 := RR.f0
  have y5 := RR.f1
  have y6 := RR.f2
  have y7 := RR.f3
  have HL := Lib.hid (Below.putq BW (r := w.heap.size + 1 + 1) (by omega) (.bool false) (.slice none 0 0) (.bool false) (.slice none 0 0))
  clear LX RY BW KX KY RR hno
  go_wp2
  exact bodyPost_ret (v := .tuple #[frq false none ([] : List Nat).length 0 false none ([] : List Nat).length 0, .int .i64 1]) (by simp [results, Tryz.results13, go_sem, y0, y1, y2, y3]) rfl ⟨rfl, HL.out⟩

theorem frac_mul_rj (q p : Rat) (n n' m' : Bool) (A B A' B' : Option Addr) (xs ds ys es : List Nat) (c d c' d' : Nat) (j : Int) (w : World) (h : Lf w q n A xs c B ds d) (k : Rk w False p n' A' ys c' m' B' es d' j) :
    Calls Tryz.prog 13 #[frq n A xs.length c false B ds.length d, frq n' A' ys.length c' m' B' es.length d'] w fun e w' => ∃ (tn : Bool) (tA : Option Addr) (tz : List Nat) (tk : Nat) (tm : Bool) (tB : Option Addr) (td : List Nat) (tl : Nat) (er : Int), e = .returned (.tuple #[frq tn tA tz.length tk tm tB td.length tl, .int .i64 er]) ∧ Rj w' j (q * p) tn tA tz tk tm tB td tl er ∧ Below w.heap.size w w' := by
  by_cases hj : j = 0
  · obtain ⟨rfl, LY⟩ := k.lf hj
    refine (frac_mul q p _ _ _ _ _ _ _ _ _ _ _ _ _ _ w h LY).mono ?_
    rintro e w' ⟨tn, tA, tz, tk, tm, tB, td, tl, er, rfl, Rt, hb⟩
    exact ⟨tn, tA, tz, tk, tm, tB, td, tl, er, rfl, fun _ => Rt, hb⟩
  · refine (frac_mul_no n n' m' A B A' B' xs ds ys es c d c' d' q w h k.rq (k.no hj).notok).mono ?_
    rintro e w' ⟨rfl, hb⟩
    exact ⟨false, none, [], 0, false, none, [], 0, 1, rfl, fun e => absurd e hj, hb⟩
end Go.Proofs.YtjilhplonaomoaaGreatDoor
namespace Go.Proofs.YtjilhplonaomoaaGreatDoor
open Go.RowKit Nb

theorem box_triple (w : World) (us vs ts : List Value) (s t u : TypeId) : ∃ V : World, V = ((w.alloc (.cells us.toArray s)).alloc (.cells vs.toArray t)).alloc (.cells ts.toArray u) ∧ Below w.heap.size w V ∧ V.heap.size = w.heap.size + 1 + 1 + 1 ∧ Box V w.heap.size us ∧ Box V (w.heap.size + 1) vs ∧ Box V (w.heap.size + 1 + 1) ts := by
  obtain ⟨V, hV, hb, hz, h1, h2⟩ := box_pair w us vs s t
  have b3 : Below V.heap.size V (V.alloc (.cells ts.toArray u)) := by go_grown
  have h3 := Box.new V ts u
  rw [hz] at h3
  exact ⟨V.alloc (.cells ts.toArray u), by rw [hV], hb.trans (b3.mono hb.size), by rw [← hz]; go_size, h1.on b3, h2.on b3, h3⟩
theorem rat_back (q p : Rat) : q + p - p = q := by grind
theorem rat_over (q p : Rat) (h : p.num ≠ 0) : q * p / p = q := by
  have hp : p ≠ 0 := fun e => h (by rw [e]; rfl)
  grind
theorem rat_parts (q p s : Rat) : q * s + p * s = (q + p) * s := by grind
theorem rat_group (q p s : Rat) : q + p + s = q + (p + s) := by grind
theorem rat_prods (q p s : Rat) : q * p * s = q * (p * s) := by grind
theorem sgnQ_no (p : Rat) (h : p.num = 0) : sgnQ p = 0 := by unfold sgnQ; rw [h]; rfl
theorem sgnQ_yes (p : Rat) (h : p.num ≠ 0) : sgnQ p ≠ 0 := fun e => h (Int.sign_eq_zero_iff_zero.1 e)

set_option maxHeartbeats 16000000 in
set_option maxRecDepth 100000 in
theorem fracring_walk (n1 m1 : Bool) (A1 B1 : Option Addr) (x1 d1 : List Nat) (c1 l1 : Nat) (n2 m2 : Bool) (A2 B2 : Option Addr) (x2 d2 : List Nat) (c2 l2 : Nat) (n3 m3 : Bool) (A3 B3 : Option Addr) (x3 d3 : List Nat) (c3 l3 : Nat) (w : World) (h1 : Rq w A1 x1 B1 d1) (h2 : Rq w A2 x2 B2 d2) (h3 : Rq w A3 x3 B3 d3) (htab : Tab w) :
    Calls Tryz.prog 3 #[frq n1 A1 x1.length c1 m1 B1 d1.length l1, frq n2 A2 x2.length c2 m2 B2 d2.length l2, frq n3 A3 x3.length c3 m3 B3 d3.length l3] w (fun e w' => e = .returned (.bool true) ∧ Below w.heap.size w w') := by
  obtain ⟨V, hV, BW, hz, KX, KY, KZ⟩ := box_triple w [.bool n1, .slice A1 x1.length c1, .bool m1, .slice B1 d1.length l1] [.bool n2, .slice A2 x2.length c2, .bool m2, .slice B2 d2.length l2] [.bool n3, .slice A3 x3.length c3, .bool m3, .slice B3 d3.length l3] 26 26 26
  have R1 := h1.on BW
  have R2 := h2.on BW
  have R3 := h3.on BW
  have HT := Lib.hid htab
  clear h1 h2 h3 htab hz
  have KX_0 := KX.c 0 _ rfl
  have KX_1 := KX.c 1 _ rfl
  have KX_2 := KX.c 2 _ rfl
  have KX_3 := KX.c 3 _ rfl
  have KY_0 := KY.c 0 _ rfl
  have KY_1 := KY.c 1 _ rfl
  have KY_2 := KY.c 2 _ rfl
  have KY_3 := KY.c 3 _ rfl
  have KZ_0 := KZ.c 0 _ rfl
  have KZ_1 := KZ.c 1 _ rfl
  have KZ_2 := KZ.c 2 _ rfl
  have KZ_3 := KZ.c 3 _ rfl
  go_enter Tryz.func3, Tryz.ntmps3
  go_wp2_with fail
  clear KX_0 KX_1 KX_2 KX_3 KY_0 KY_1 KY_2 KY_3 KZ_0 KZ_1 KZ_2 KZ_3
  rw [← hV]
  clear hV
  go_cut [58] (fun s wx => ∃ r : Bool, s = .bool r ∧ (r = false → Okf n1 x1 m1 d1 ∧ Okf n2 x2 m2 d2 ∧ Okf n3 x3 m3 d3) ∧ Below w.heap.size w wx ∧ Box wx (w.heap.size) [.bool n1, .slice A1 x1.length c1, .bool m1, .slice B1 d1.length l1] ∧ Box wx (w.heap.size + 1) [.bool n2, .slice A2 x2.length c2, .bool m2, .slice B2 d2.length l2] ∧ Box wx (w.heap.size + 1 + 1) [.bool n3, .slice A3 x3.length c3, .bool m3, .slice B3 d3.length l3] ∧ Rq wx A1 x1 B1 d1 ∧ Rq wx A2 x2 B2 d2 ∧ Rq wx A3 x3 B3 d3)
  case first =>
    as_aux_lemma =>
      refine wp_region_noPanic ?_
      have hb : Below V.heap.size V V.drew := (Below.refl _ _).drew
      replace KX := KX.on hb
      replace KY := KY.on hb
      replace KZ := KZ.on hb
      replace R1 := R1.on hb
      replace R2 := R2.on hb
      replace R3 := R3.on hb
      replace BW := BW.trans (hb.mono BW.size)
      clear hb
      refine wp_region_held_drew (S := (fun wx => wx.cell? ⟨w.heap.size, 0, none⟩ = some (.bool n1) ∧ wx.cell? ⟨w.heap.size, 1, none⟩ = some (.slice A1 x1.length c1) ∧ wx.cell? ⟨w.heap.size, 2, none⟩ = some (.bool m1) ∧ wx.cell? ⟨w.heap.size, 3, none⟩ = some (.slice B1 d1.length l1) ∧ wx.cell? ⟨w.heap.size + 1, 0, none⟩ = some (.bool n2) ∧ wx.cell? ⟨w.heap.size + 1, 1, none⟩ = some (.slice A2 x2.length c2) ∧ wx.cell? ⟨w.heap.size + 1, 2, none⟩ = some (.bool m2) ∧ wx.cell? ⟨w.heap.size + 1, 3, none⟩ = some (.slice B2 d2.length l2) ∧ wx.cell? ⟨w.heap.size + 1 + 1, 0, none⟩ = some (.bool n3) ∧ wx.cell? ⟨w.heap.size + 1 + 1, 1, none⟩ = some (.slice A3 x3.length c3) ∧ wx.cell? ⟨w.heap.size + 1 + 1, 2, none⟩ = some (.bool m3) ∧ wx.cell? ⟨w.heap.size + 1 + 1, 3, none⟩ = some (.slice B3 d3.length l3))) (by kernel_rfl) (by exact ⟨KX.c 0 _ rfl, KX.c 1 _ rfl, KX.c 2 _ rfl, KX.c 3 _ rfl, KY.c 0 _ rfl, KY.c 1 _ rfl, KY.c 2 _ rfl, KY.c 3 _ rfl, KZ.c 0 _ rfl, KZ.c 1 _ rfl, KZ.c 2 _ rfl, KZ.c 3 _ rfl⟩) (fun hHeld => ?_)
      generalize V.drew = Vd at *
      refine wpAnyH_take (i := 0) (v := ?_) (by (simp only [List.getElem?_toArray, List.getElem?_cons_zero]; rfl)) (by kernel_rfl) (by kernel_rfl) (by kernel_rfl) (fun _ _ _ h => h) (Or.inl ⟨by rfl, ?_⟩) (by assumption) ?_
      rotate_left
      · intro wt hSw
        (try dsimp only at hSw)
        go_simp
        (try with_reducible rfl)
      (try simp only [Act.put, List.setIfInBounds_toArray, List.set_cons_zero, List.set_cons_succ])
      refine wpAnyH_take (i := 2) (v := ?_) (by (simp only [List.getElem?_toArray, List.getElem?_cons_succ, List.getElem?_cons_zero]; rfl)) (by kernel_rfl) (by kernel_rfl) (by kernel_rfl) (fun _ _ _ h => h) (Or.inl ⟨by rfl, ?_⟩) (by assumption) ?_
      rotate_left
      · intro wt hSw
        (try dsimp only at hSw)
        go_simp
        (try with_reducible rfl)
      (try simp only [Act.put, List.setIfInBounds_toArray, List.set_cons_zero, List.set_cons_succ])
      refine wpAnyH_take (i := 4) (v := ?_) (by (simp only [List.getElem?_toArray, List.getElem?_cons_succ, List.getElem?_cons_zero]; rfl)) (by kernel_rfl) (by kernel_rfl) (by kernel_rfl) (fun _ _ _ h => h) (Or.inl ⟨by rfl, ?_⟩) (by assumption) ?_
      rotate_left
      · intro wt hSw
        (try dsimp only at hSw)
        go_simp
        (try with_reducible rfl)
      (try simp only [Act.put, List.setIfInBounds_toArray, List.set_cons_zero, List.set_cons_succ])
      refine wpAnyH_ready (rs := [1]) (by kernel_rfl) (by simp) (AllReadyH.cons (by (simp only [List.getElem?_toArray, List.getElem?_cons_succ, List.getElem?_cons_zero]; rfl)) (fun K hK => ?_) AllReadyH.nil)
      go_simp
      (go_at_call 9; with_reducible refine (fcost_any _ _ _ _ _ _ _ _ _).mono ?_)
      rintro _ wk0 ⟨⟨k0, rfl⟩, hb⟩
      (try go_wp2_with fail)
      replace KX := KX.on hb
      replace KY := KY.on hb
      replace KZ := KZ.on hb
      replace R1 := R1.on hb
      replace R2 := R2.on hb
      replace R3 := R3.on hb
      replace BW := BW.trans (hb.mono BW.size)
      clear hb
      refine hK.out _ _ (by exact ⟨KX.c 0 _ rfl, KX.c 1 _ rfl, KX.c 2 _ rfl, KX.c 3 _ rfl, KY.c 0 _ rfl, KY.c 1 _ rfl, KY.c 2 _ rfl, KY.c 3 _ rfl, KZ.c 0 _ rfl, KZ.c 1 _ rfl, KZ.c 2 _ rfl, KZ.c 3 _ rfl⟩) (fun hHeld => ?_)
      clear hK
      (try simp only [Act.put, List.setIfInBounds_toArray, List.set_cons_zero, List.set_cons_succ])
      refine wpAnyH_ready (rs := [3]) (by kernel_rfl) (by simp) (AllReadyH.cons (by (simp only [List.getElem?_toArray, List.getElem?_cons_succ, List.getElem?_cons_zero]; rfl)) (fun K hK => ?_) AllReadyH.nil)
      go_simp
      (go_at_call 9; with_reducible refine (fcost_any _ _ _ _ _ _ _ _ _).mono ?_)
      rintro _ wk1 ⟨⟨k1, rfl⟩, hb⟩
      (try go_wp2_with fail)
      replace KX := KX.on hb
      replace KY := KY.on hb
      replace KZ := KZ.on hb
      replace R1 := R1.on hb
      replace R2 := R2.on hb
      replace R3 := R3.on hb
      replace BW := BW.trans (hb.mono BW.size)
      clear hb
      refine hK.out _ _ (by exact ⟨KX.c 0 _ rfl, KX.c 1 _ rfl, KX.c 2 _ rfl, KX.c 3 _ rfl, KY.c 0 _ rfl, KY.c 1 _ rfl, KY.c 2 _ rfl, KY.c 3 _ rfl, KZ.c 0 _ rfl, KZ.c 1 _ rfl, KZ.c 2 _ rfl, KZ.c 3 _ rfl⟩) (fun hHeld => ?_)
      clear hK
      (try simp only [Act.put, List.setIfInBounds_toArray, List.set_cons_zero, List.set_cons_succ])
      refine wpAnyH_ready (rs := [5]) (by kernel_rfl) (by simp) (AllReadyH.cons (by (simp only [List.getElem?_toArray, List.getElem?_cons_succ, List.getElem?_cons_zero]; rfl)) (fun K hK => ?_) AllReadyH.nil)
      go_simp
      (go_at_call 9; with_reducible refine (fcost_any _ _ _ _ _ _ _ _ _).mono ?_)
      rintro _ wk2 ⟨⟨k2, rfl⟩, hb⟩
      (try go_wp2_with fail)
      replace KX := KX.on hb
      replace KY := KY.on hb
      replace KZ := KZ.on hb
      replace R1 := R1.on hb
      replace R2 := R2.on hb
      replace R3 := R3.on hb
      replace BW := BW.trans (hb.mono BW.size)
      clear hb
      refine hK.out _ _ (by exact ⟨KX.c 0 _ rfl, KX.c 1 _ rfl, KX.c 2 _ rfl, KX.c 3 _ rfl, KY.c 0 _ rfl, KY.c 1 _ rfl, KY.c 2 _ rfl, KY.c 3 _ rfl, KZ.c 0 _ rfl, KZ.c 1 _ rfl, KZ.c 2 _ rfl, KZ.c 3 _ rfl⟩) (fun hHeld => ?_)
      clear hK
      (try simp only [Act.put, List.setIfInBounds_toArray, List.set_cons_zero, List.set_cons_succ])
      refine wpAnyH_ready (rs := [6]) (by kernel_rfl) (by simp) (AllReadyH.cons (by (simp only [List.getElem?_toArray, List.getElem?_cons_succ, List.getElem?_cons_zero]; rfl)) (fun K hK => ?_) AllReadyH.nil)
      go_simp
      have hb : Below wk2.heap.size wk2 (wk2.alloc (.cells #[.int .i64 k0, .int .i64 k1, .int .i64 k2] 3)) := Below.alloc (Below.refl _ _) (Nat.le_refl _) _
      have KB := Box.new wk2 [.int .i64 k0, .int .i64 k1, .int .i64 k2] 3
      replace KX := KX.on hb
      replace KY := KY.on hb
      replace KZ := KZ.on hb
      replace R1 := R1.on hb
      replace R2 := R2.on hb
      replace R3 := R3.on hb
      replace BW := BW.trans (hb.mono BW.size)
      clear hb
      generalize (wk2.alloc (.cells #[.int .i64 k0, .int .i64 k1, .int .i64 k2] 3)) = wb at *
      generalize wk2.heap.size = pB at *
      refine hK.out _ _ (by exact ⟨KX.c 0 _ rfl, KX.c 1 _ rfl, KX.c 2 _ rfl, KX.c 3 _ rfl, KY.c 0 _ rfl, KY.c 1 _ rfl, KY.c 2 _ rfl, KY.c 3 _ rfl, KZ.c 0 _ rfl, KZ.c 1 _ rfl, KZ.c 2 _ rfl, KZ.c 3 _ rfl⟩) (fun hHeld => ?_)
      clear hK
      (try simp only [Act.put, List.setIfInBounds_toArray, List.set_cons_zero, List.set_cons_succ])
      refine wpAnyH_ready (rs := [7]) (by kernel_rfl) (by simp) (AllReadyH.cons (by (simp only [List.getElem?_toArray, List.getElem?_cons_succ, List.getElem?_cons_zero]; rfl)) (fun K hK => ?_) AllReadyH.nil)
      go_simp
      (go_at_call 8; with_reducible refine (beyond_three _ _ _ _ _ _ (KB.c 0 _ rfl) (KB.c 1 _ rfl) (KB.c 2 _ rfl)).mono ?_)
      rintro _ wy ⟨⟨b, rfl⟩, hb⟩
      (try go_wp2_with fail)
      replace KX := KX.on hb
      replace KY := KY.on hb
      replace KZ := KZ.on hb
      replace R1 := R1.on hb
      replace R2 := R2.on hb
      replace R3 := R3.on hb
      replace BW := BW.trans (hb.mono BW.size)
      clear hb
      refine hK.out _ _ (by exact ⟨KX.c 0 _ rfl, KX.c 1 _ rfl, KX.c 2 _ rfl, KX.c 3 _ rfl, KY.c 0 _ rfl, KY.c 1 _ rfl, KY.c 2 _ rfl, KY.c 3 _ rfl, KZ.c 0 _ rfl, KZ.c 1 _ rfl, KZ.c 2 _ rfl, KZ.c 3 _ rfl⟩) (fun hHeld => ?_)
      clear hK
      (try simp only [Act.put, List.setIfInBounds_toArray, List.set_cons_zero, List.set_cons_succ])
      clear KB
      refine wpAnyH_take (i := 8) (v := ?_) (by (simp only [List.getElem?_toArray, List.getElem?_cons_succ, List.getElem?_cons_zero]; rfl)) (by kernel_rfl) (by kernel_rfl) (by kernel_rfl) (fun _ _ _ h => h) (Or.inl ⟨by rfl, ?_⟩) (by assumption) ?_
      rotate_left
      · intro wt hSw
        (try dsimp only at hSw)
        go_simp
        (try with_reducible rfl)
      (try simp only [Act.put, List.setIfInBounds_toArray, List.set_cons_zero, List.set_cons_succ])
      cases b with
      | true =>
        refine wpAnyH_take (i := 9) (v := undef) (by (simp only [List.getElem?_toArray, List.getElem?_cons_succ, List.getElem?_cons_zero]; rfl)) (by kernel_rfl) (by kernel_rfl) (by kernel_rfl) (fun _ _ _ h => h) (Or.inr ⟨by rfl, rfl⟩) (by assumption) ?_
        (try simp only [Act.put, List.setIfInBounds_toArray, List.set_cons_zero, List.set_cons_succ])
        refine wpAnyH_take (i := 10) (v := undef) (by (simp only [List.getElem?_toArray, List.getElem?_cons_succ, List.getElem?_cons_zero]; rfl)) (by kernel_rfl) (by kernel_rfl) (by kernel_rfl) (fun _ _ _ h => h) (Or.inr ⟨by rfl, rfl⟩) (by assumption) ?_
        (try simp only [Act.put, List.setIfInBounds_toArray, List.set_cons_zero, List.set_cons_succ])
        refine wpAnyH_take (i := 11) (v := undef) (by (simp only [List.getElem?_toArray, List.getElem?_cons_succ, List.getElem?_cons_zero]; rfl)) (by kernel_rfl) (by kernel_rfl) (by kernel_rfl) (fun _ _ _ h => h) (Or.inr ⟨by rfl, rfl⟩) (by assumption) ?_
        (try simp only [Act.put, List.setIfInBounds_toArray, List.set_cons_zero, List.set_cons_succ])
        refine wpAnyH_take (i := 12) (v := ?_) (by (simp only [List.getElem?_toArray, List.getElem?_cons_succ, List.getElem?_cons_zero]; rfl)) (by kernel_rfl) (by kernel_rfl) (by kernel_rfl) (fun _ _ _ h => h) (Or.inl ⟨by rfl, ?_⟩) (by assumption) ?_
        rotate_left
        · intro wt hSw
          (try dsimp only at hSw)
          go_simp
          (try with_reducible rfl)
        (try simp only [Act.put, List.setIfInBounds_toArray, List.set_cons_zero, List.set_cons_succ])
        refine wpAnyH_take (i := 13) (v := ?_) (by (simp only [List.getElem?_toArray, List.getElem?_cons_succ, List.getElem?_cons_zero]; rfl)) (by kernel_rfl) (by kernel_rfl) (by kernel_rfl) (fun _ _ _ h => h) (Or.inl ⟨by rfl, ?_⟩) (by assumption) ?_
        rotate_left
        · intro wt hSw
          (try dsimp only at hSw)
          go_simp
          (try with_reducible rfl)
        (try simp only [Act.put, List.setIfInBounds_toArray, List.set_cons_zero, List.set_cons_succ])
        refine wpAnyH_take (i := 14) (v := undef) (by (simp only [List.getElem?_toArray, List.getElem?_cons_succ, List.getElem?_cons_zero]; rfl)) (by kernel_rfl) (by kernel_rfl) (by kernel_rfl) (fun _ _ _ h => h) (Or.inr ⟨by rfl, rfl⟩) (by assumption) ?_
        (try simp only [Act.put, List.setIfInBounds_toArray, List.set_cons_zero, List.set_cons_succ])
        refine wpAnyH_take (i := 15) (v := undef) (by (simp only [List.getElem?_toArray, List.getElem?_cons_succ, List.getElem?_cons_zero]; rfl)) (by kernel_rfl) (by kernel_rfl) (by kernel_rfl) (fun _ _ _ h => h) (Or.inr ⟨by rfl, rfl⟩) (by assumption) ?_
        (try simp only [Act.put, List.setIfInBounds_toArray, List.set_cons_zero, List.set_cons_succ])
        refine wpAnyH_take (i := 16) (v := undef) (by (simp only [List.getElem?_toArray, List.getElem?_cons_succ, List.getElem?_cons_zero]; rfl)) (by kernel_rfl) (by kernel_rfl) (by kernel_rfl) (fun _ _ _ h => h) (Or.inr ⟨by rfl, rfl⟩) (by assumption) ?_
        (try simp only [Act.put, List.setIfInBounds_toArray, List.set_cons_zero, List.set_cons_succ])
        refine wpAnyH_take (i := 17) (v := ?_) (by (simp only [List.getElem?_toArray, List.getElem?_cons_succ, List.getElem?_cons_zero]; rfl)) (by kernel_rfl) (by kernel_rfl) (by kernel_rfl) (fun _ _ _ h => h) (Or.inl ⟨by rfl, ?_⟩) (by assumption) ?_
        rotate_left
        · intro wt hSw
          (try dsimp only at hSw)
          go_simp
          (try with_reducible rfl)
        (try simp only [Act.put, List.setIfInBounds_toArray, List.set_cons_zero, List.set_cons_succ])
        refine wpAnyH_take (i := 18) (v := ?_) (by (simp only [List.getElem?_toArray, List.getElem?_cons_succ, List.getElem?_cons_zero]; rfl)) (by kernel_rfl) (by kernel_rfl) (by kernel_rfl) (fun _ _ _ h => h) (Or.inl ⟨by rfl, ?_⟩) (by assumption) ?_
        rotate_left
        · intro wt hSw
          (try dsimp only at hSw)
          go_simp
          (try with_reducible rfl)
        (try simp only [Act.put, List.setIfInBounds_toArray, List.set_cons_zero, List.set_cons_succ])
        refine wpAnyH_take (i := 19) (v := undef) (by (simp only [List.getElem?_toArray, List.getElem?_cons_succ, List.getElem?_cons_zero]; rfl)) (by kernel_rfl) (by kernel_rfl) (by kernel_rfl) (fun _ _ _ h => h) (Or.inr ⟨by rfl, rfl⟩) (by assumption) ?_
        (try simp only [Act.put, List.setIfInBounds_toArray, List.set_cons_zero, List.set_cons_succ])
        refine wpAnyH_take (i := 20) (v := undef) (by (simp only [List.getElem?_toArray, List.getElem?_cons_succ, List.getElem?_cons_zero]; rfl)) (by kernel_rfl) (by kernel_rfl) (by kernel_rfl) (fun _ _ _ h => h) (Or.inr ⟨by rfl, rfl⟩) (by assumption) ?_
        (try simp only [Act.put, List.setIfInBounds_toArray, List.set_cons_zero, List.set_cons_succ])
        refine wpAnyH_take (i := 21) (v := undef) (by (simp only [List.getElem?_toArray, List.getElem?_cons_succ, List.getElem?_cons_zero]; rfl)) (by kernel_rfl) (by kernel_rfl) (by kernel_rfl) (fun _ _ _ h => h) (Or.inr ⟨by rfl, rfl⟩) (by assumption) ?_
        (try simp only [Act.put, List.setIfInBounds_toArray, List.set_cons_zero, List.set_cons_succ])
        refine wpAnyH_take (i := 22) (v := ?_) (by (simp only [List.getElem?_toArray, List.getElem?_cons_succ, List.getElem?_cons_zero]; rfl)) (by kernel_rfl) (by kernel_rfl) (by kernel_rfl) (fun _ _ _ h => h) (Or.inl ⟨by rfl, ?_⟩) (by assumption) ?_
        rotate_left
        · intro wt hSw
          (try dsimp only at hSw)
          go_simp
          (try with_reducible rfl)
        (try simp only [Act.put, List.setIfInBounds_toArray, List.set_cons_zero, List.set_cons_succ])
        refine wpAnyH_done (by kernel_rfl) (NoPanic.normal ?_) _
        go_wp2
        go_meet
        exact ⟨true, rfl, (fun h => by cases h), BW, KX, KY, KZ, R1, R2, R3⟩
      | false =>
        refine wpAnyH_take (i := 9) (v := ?_) (by (simp only [List.getElem?_toArray, List.getElem?_cons_succ, List.getElem?_cons_zero]; rfl)) (by kernel_rfl) (by kernel_rfl) (by kernel_rfl) (fun _ _ _ h => h) (Or.inl ⟨by rfl, ?_⟩) (by assumption) ?_
        rotate_left
        · intro wt hSw
          (try dsimp only at hSw)
          go_simp
          (try with_reducible rfl)
        (try simp only [Act.put, List.setIfInBounds_toArray, List.set_cons_zero, List.set_cons_succ])
        refine wpAnyH_ready (rs := [10]) (by kernel_rfl) (by simp) (AllReadyH.cons (by (simp only [List.getElem?_toArray, List.getElem?_cons_succ, List.getElem?_cons_zero]; rfl)) (fun K hK => ?_) AllReadyH.nil)
        go_simp
        (go_at_call 10; with_reducible refine (fcheck_any n1 m1 A1 B1 x1 d1 c1 l1 _ R1).mono ?_)
        rintro _ wv1 ⟨rfl, hb⟩
        (try go_wp2_with fail)
        replace KX := KX.on hb
        replace KY := KY.on hb
        replace KZ := KZ.on hb
        replace R1 := R1.on hb
        replace R2 := R2.on hb
        replace R3 := R3.on hb
        replace BW := BW.trans (hb.mono BW.size)
        clear hb
        refine hK.out _ _ (by exact ⟨KX.c 0 _ rfl, KX.c 1 _ rfl, KX.c 2 _ rfl, KX.c 3 _ rfl, KY.c 0 _ rfl, KY.c 1 _ rfl, KY.c 2 _ rfl, KY.c 3 _ rfl, KZ.c 0 _ rfl, KZ.c 1 _ rfl, KZ.c 2 _ rfl, KZ.c 3 _ rfl⟩) (fun hHeld => ?_)
        clear hK
        (try simp only [Act.put, List.setIfInBounds_toArray, List.set_cons_zero, List.set_cons_succ])
        by_cases o1 : Okf n1 x1 m1 d1
        · rw [chkF_ok o1]
          refine wpAnyH_take (i := 11) (v := ?_) (by (simp only [List.getElem?_toArray, List.getElem?_cons_succ, List.getElem?_cons_zero]; rfl)) (by kernel_rfl) (by kernel_rfl) (by kernel_rfl) (fun _ _ _ h => h) (Or.inl ⟨by rfl, ?_⟩) (by assumption) ?_
          rotate_left
          · intro wt hSw
            (try dsimp only at hSw)
            go_simp
            (try with_reducible rfl)
          (try simp only [Act.put, List.setIfInBounds_toArray, List.set_cons_zero, List.set_cons_succ])
          refine wpAnyH_take (i := 12) (v := ?_) (by (simp only [List.getElem?_toArray, List.getElem?_cons_succ, List.getElem?_cons_zero]; rfl)) (by kernel_rfl) (by kernel_rfl) (by kernel_rfl) (fun _ _ _ h => h) (Or.inl ⟨by rfl, ?_⟩) (by assumption) ?_
          rotate_left
          · intro wt hSw
            (try dsimp only at hSw)
            go_simp
            (try with_reducible rfl)
          (try simp only [Act.put, List.setIfInBounds_toArray, List.set_cons_zero, List.set_cons_succ])
          refine wpAnyH_take (i := 13) (v := ?_) (by (simp only [List.getElem?_toArray, List.getElem?_cons_succ, List.getElem?_cons_zero]; rfl)) (by kernel_rfl) (by kernel_rfl) (by kernel_rfl) (fun _ _ _ h => h) (Or.inl ⟨by rfl, ?_⟩) (by assumption) ?_
          rotate_left
          · intro wt hSw
            (try dsimp only at hSw)
            go_simp
            (try with_reducible rfl)
          (try simp only [Act.put, List.setIfInBounds_toArray, List.set_cons_zero, List.set_cons_succ])
          refine wpAnyH_take (i := 14) (v := ?_) (by (simp only [List.getElem?_toArray, List.getElem?_cons_succ, List.getElem?_cons_zero]; rfl)) (by kernel_rfl) (by kernel_rfl) (by kernel_rfl) (fun _ _ _ h => h) (Or.inl ⟨by rfl, ?_⟩) (by assumption) ?_
          rotate_left
          · intro wt hSw
            (try dsimp only at hSw)
            go_simp
            (try with_reducible rfl)
          (try simp only [Act.put, List.setIfInBounds_toArray, List.set_cons_zero, List.set_cons_succ])
          refine wpAnyH_ready (rs := [15]) (by kernel_rfl) (by simp) (AllReadyH.cons (by (simp only [List.getElem?_toArray, List.getElem?_cons_succ, List.getElem?_cons_zero]; rfl)) (fun K hK => ?_) AllReadyH.nil)
          go_simp
          (go_at_call 10; with_reducible refine (fcheck_any n2 m2 A2 B2 x2 d2 c2 l2 _ R2).mono ?_)
          rintro _ wv2 ⟨rfl, hb⟩
          (try go_wp2_with fail)
          replace KX := KX.on hb
          replace KY := KY.on hb
          replace KZ := KZ.on hb
          replace R1 := R1.on hb
          replace R2 := R2.on hb
          replace R3 := R3.on hb
          replace BW := BW.trans (hb.mono BW.size)
          clear hb
          refine hK.out _ _ (by exact ⟨KX.c 0 _ rfl, KX.c 1 _ rfl, KX.c 2 _ rfl, KX.c 3 _ rfl, KY.c 0 _ rfl, KY.c 1 _ rfl, KY.c 2 _ rfl, KY.c 3 _ rfl, KZ.c 0 _ rfl, KZ.c 1 _ rfl, KZ.c 2 _ rfl, KZ.c 3 _ rfl⟩) (fun hHeld => ?_)
          clear hK
          (try simp only [Act.put, List.setIfInBounds_toArray, List.set_cons_zero, List.set_cons_succ])
          by_cases o2 : Okf n2 x2 m2 d2
          · rw [chkF_ok o2]
            refine wpAnyH_take (i := 16) (v := ?_) (by (simp only [List.getElem?_toArray, List.getElem?_cons_succ, List.getElem?_cons_zero]; rfl)) (by kernel_rfl) (by kernel_rfl) (by kernel_rfl) (fun _ _ _ h => h) (Or.inl ⟨by rfl, ?_⟩) (by assumption) ?_
            rotate_left
            · intro wt hSw
              (try dsimp only at hSw)
              go_simp
              (try with_reducible rfl)
            (try simp only [Act.put, List.setIfInBounds_toArray, List.set_cons_zero, List.set_cons_succ])
            refine wpAnyH_take (i := 17) (v := ?_) (by (simp only [List.getElem?_toArray, List.getElem?_cons_succ, List.getElem?_cons_zero]; rfl)) (by kernel_rfl) (by kernel_rfl) (by kernel_rfl) (fun _ _ _ h => h) (Or.inl ⟨by rfl, ?_⟩) (by assumption) ?_
            rotate_left
            · intro wt hSw
              (try dsimp only at hSw)
              go_simp
              (try with_reducible rfl)
            (try simp only [Act.put, List.setIfInBounds_toArray, List.set_cons_zero, List.set_cons_succ])
            refine wpAnyH_take (i := 18) (v := ?_) (by (simp only [List.getElem?_toArray, List.getElem?_cons_succ, List.getElem?_cons_zero]; rfl)) (by kernel_rfl) (by kernel_rfl) (by kernel_rfl) (fun _ _ _ h => h) (Or.inl ⟨by rfl, ?_⟩) (by assumption) ?_
            rotate_left
            · intro wt hSw
              (try dsimp only at hSw)
              go_simp
              (try with_reducible rfl)
            (try simp only [Act.put, List.setIfInBounds_toArray, List.set_cons_zero, List.set_cons_succ])
            refine wpAnyH_take (i := 19) (v := ?_) (by (simp only [List.getElem?_toArray, List.getElem?_cons_succ, List.getElem?_cons_zero]; rfl)) (by kernel_rfl) (by kernel_rfl) (by kernel_rfl) (fun _ _ _ h => h) (Or.inl ⟨by rfl, ?_⟩) (by assumption) ?_
            rotate_left
            · intro wt hSw
              (try dsimp only at hSw)
              go_simp
              (try with_reducible rfl)
            (try simp only [Act.put, List.setIfInBounds_toArray, List.set_cons_zero, List.set_cons_succ])
            refine wpAnyH_ready (rs := [20]) (by kernel_rfl) (by simp) (AllReadyH.cons (by (simp only [List.getElem?_toArray, List.getElem?_cons_succ, List.getElem?_cons_zero]; rfl)) (fun K hK => ?_) AllReadyH.nil)
            go_simp
            (go_at_call 10; with_reducible refine (fcheck_any n3 m3 A3 B3 x3 d3 c3 l3 _ R3).mono ?_)
            rintro _ wv3 ⟨rfl, hb⟩
            (try go_wp2_with fail)
            replace KX := KX.on hb
            replace KY := KY.on hb
            replace KZ := KZ.on hb
            replace R1 := R1.on hb
            replace R2 := R2.on hb
            replace R3 := R3.on hb
            replace BW := BW.trans (hb.mono BW.size)
            clear hb
            refine hK.out _ _ (by exact ⟨KX.c 0 _ rfl, KX.c 1 _ rfl, KX.c 2 _ rfl, KX.c 3 _ rfl, KY.c 0 _ rfl, KY.c 1 _ rfl, KY.c 2 _ rfl, KY.c 3 _ rfl, KZ.c 0 _ rfl, KZ.c 1 _ rfl, KZ.c 2 _ rfl, KZ.c 3 _ rfl⟩) (fun hHeld => ?_)
            clear hK
            (try simp only [Act.put, List.setIfInBounds_toArray, List.set_cons_zero, List.set_cons_succ])
            by_cases o3 : Okf n3 x3 m3 d3
            · rw [chkF_ok o3]
              refine wpAnyH_take (i := 21) (v := ?_) (by (simp only [List.getElem?_toArray, List.getElem?_cons_succ, List.getElem?_cons_zero]; rfl)) (by kernel_rfl) (by kernel_rfl) (by kernel_rfl) (fun _ _ _ h => h) (Or.inl ⟨by rfl, ?_⟩) (by assumption) ?_
              rotate_left
              · intro wt hSw
                (try dsimp only at hSw)
                go_simp
                (try with_reducible rfl)
              (try simp only [Act.put, List.setIfInBounds_toArray, List.set_cons_zero, List.set_cons_succ])
              refine wpAnyH_take (i := 22) (v := ?_) (by (simp only [List.getElem?_toArray, List.getElem?_cons_succ, List.getElem?_cons_zero]; rfl)) (by kernel_rfl) (by kernel_rfl) (by kernel_rfl) (fun _ _ _ h => h) (Or.inl ⟨by rfl, ?_⟩) (by assumption) ?_
              rotate_left
              · intro wt hSw
                (try dsimp only at hSw)
                go_simp
                (try with_reducible rfl)
              (try simp only [Act.put, List.setIfInBounds_toArray, List.set_cons_zero, List.set_cons_succ])
              refine wpAnyH_done (by kernel_rfl) (NoPanic.normal ?_) _
              go_wp2
              go_meet
              exact ⟨false, rfl, (fun _ => ⟨o1, o2, o3⟩), BW, KX, KY, KZ, R1, R2, R3⟩
            · rw [chkF_bad o3]
              refine wpAnyH_take (i := 21) (v := ?_) (by (simp only [List.getElem?_toArray, List.getElem?_cons_succ, List.getElem?_cons_zero]; rfl)) (by kernel_rfl) (by kernel_rfl) (by kernel_rfl) (fun _ _ _ h => h) (Or.inl ⟨by rfl, ?_⟩) (by assumption) ?_
              rotate_left
              · intro wt hSw
                (try dsimp only at hSw)
                go_simp
                (try with_reducible rfl)
              (try simp only [Act.put, List.setIfInBounds_toArray, List.set_cons_zero, List.set_cons_succ])
              refine wpAnyH_take (i := 22) (v := ?_) (by (simp only [List.getElem?_toArray, List.getElem?_cons_succ, List.getElem?_cons_zero]; rfl)) (by kernel_rfl) (by kernel_rfl) (by kernel_rfl) (fun _ _ _ h => h) (Or.inl ⟨by rfl, ?_⟩) (by assumption) ?_
              rotate_left
              · intro wt hSw
                (try dsimp only at hSw)
                go_simp
                (try with_reducible rfl)
              (try simp only [Act.put, List.setIfInBounds_toArray, List.set_cons_zero, List.set_cons_succ])
              refine wpAnyH_done (by kernel_rfl) (NoPanic.normal ?_) _
              go_wp2
              go_meet
              exact ⟨true, rfl, (fun h => by cases h), BW, KX, KY, KZ, R1, R2, R3⟩
          · rw [chkF_bad o2]
            refine wpAnyH_take (i := 16) (v := ?_) (by (simp only [List.getElem?_toArray, List.getElem?_cons_succ, List.getElem?_cons_zero]; rfl)) (by kernel_rfl) (by kernel_rfl) (by kernel_rfl) (fun _ _ _ h => h) (Or.inl ⟨by rfl, ?_⟩) (by assumption) ?_
            rotate_left
            · intro wt hSw
              (try dsimp only at hSw)
              go_simp
              (try with_reducible rfl)
            (try simp only [Act.put, List.setIfInBounds_toArray, List.set_cons_zero, List.set_cons_succ])
            refine wpAnyH_take (i := 17) (v := ?_) (by (simp only [List.getElem?_toArray, List.getElem?_cons_succ, List.getElem?_cons_zero]; rfl)) (by kernel_rfl) (by kernel_rfl) (by kernel_rfl) (fun _ _ _ h => h) (Or.inl ⟨by rfl, ?_⟩) (by assumption) ?_
            rotate_left
            · intro wt hSw
              (try dsimp only at hSw)
              go_simp
              (try with_reducible rfl)
            (try simp only [Act.put, List.setIfInBounds_toArray, List.set_cons_zero, List.set_cons_succ])
            refine wpAnyH_take (i := 18) (v := ?_) (by (simp only [List.getElem?_toArray, List.getElem?_cons_succ, List.getElem?_cons_zero]; rfl)) (by kernel_rfl) (by kernel_rfl) (by kernel_rfl) (fun _ _ _ h => h) (Or.inl ⟨by rfl, ?_⟩) (by assumption) ?_
            rotate_left
            · intro wt hSw
              (try dsimp only at hSw)
              go_simp
              (try with_reducible rfl)
            (try simp only [Act.put, List.setIfInBounds_toArray, List.set_cons_zero, List.set_cons_succ])
            refine wpAnyH_take (i := 19) (v := undef) (by (simp only [List.getElem?_toArray, List.getElem?_cons_succ, List.getElem?_cons_zero]; rfl)) (by kernel_rfl) (by kernel_rfl) (by kernel_rfl) (fun _ _ _ h => h) (Or.inr ⟨by rfl, rfl⟩) (by assumption) ?_
            (try simp only [Act.put, List.setIfInBounds_toArray, List.set_cons_zero, List.set_cons_succ])
            refine wpAnyH_take (i := 20) (v := undef) (by (simp only [List.getElem?_toArray, List.getElem?_cons_succ, List.getElem?_cons_zero]; rfl)) (by kernel_rfl) (by kernel_rfl) (by kernel_rfl) (fun _ _ _ h => h) (Or.inr ⟨by rfl, rfl⟩) (by assumption) ?_
            (try simp only [Act.put, List.setIfInBounds_toArray, List.set_cons_zero, List.set_cons_succ])
            refine wpAnyH_take (i := 21) (v := undef) (by (simp only [List.getElem?_toArray, List.getElem?_cons_succ, List.getElem?_cons_zero]; rfl)) (by kernel_rfl) (by kernel_rfl) (by kernel_rfl) (fun _ _ _ h => h) (Or.inr ⟨by rfl, rfl⟩) (by assumption) ?_
            (try simp only [Act.put, List.setIfInBounds_toArray, List.set_cons_zero, List.set_cons_succ])
            refine wpAnyH_take (i := 22) (v := ?_) (by (simp only [List.getElem?_toArray, List.getElem?_cons_succ, List.getElem?_cons_zero]; rfl)) (by kernel_rfl) (by kernel_rfl) (by kernel_rfl) (fun _ _ _ h => h) (Or.inl ⟨by rfl, ?_⟩) (by assumption) ?_
            rotate_left
            · intro wt hSw
              (try dsimp only at hSw)
              go_simp
              (try with_reducible rfl)
            (try simp only [Act.put, List.setIfInBounds_toArray, List.set_cons_zero, List.set_cons_succ])
            refine wpAnyH_done (by kernel_rfl) (NoPanic.normal ?_) _
            go_wp2
            go_meet
            exact ⟨true, rfl, (fun h => by cases h), BW, KX, KY, KZ, R1, R2, R3⟩
        · rw [chkF_bad o1]
          refine wpAnyH_take (i := 11) (v := ?_) (by (simp only [List.getElem?_toArray, List.getElem?_cons_succ, List.getElem?_cons_zero]; rfl)) (by kernel_rfl) (by kernel_rfl) (by kernel_rfl) (fun _ _ _ h => h) (Or.inl ⟨by rfl, ?_⟩) (by assumption) ?_
          rotate_left
          · intro wt hSw
            (try dsimp only at hSw)
            go_simp
            (try with_reducible rfl)
          (try simp only [Act.put, List.setIfInBounds_toArray, List.set_cons_zero, List.set_cons_succ])
          refine wpAnyH_take (i := 12) (v := ?_) (by (simp only [List.getElem?_toArray, List.getElem?_cons_succ, List.getElem?_cons_zero]; rfl)) (by kernel_rfl) (by kernel_rfl) (by kernel_rfl) (fun _ _ _ h => h) (Or.inl ⟨by rfl, ?_⟩) (by assumption) ?_
          rotate_left
          · intro wt hSw
            (try dsimp only at hSw)
            go_simp
            (try with_reducible rfl)
          (try simp only [Act.put, List.setIfInBounds_toArray, List.set_cons_zero, List.set_cons_succ])
          refine wpAnyH_take (i := 13) (v := ?_) (by (simp only [List.getElem?_toArray, List.getElem?_cons_succ, List.getElem?_cons_zero]; rfl)) (by kernel_rfl) (by kernel_rfl) (by kernel_rfl) (fun _ _ _ h => h) (Or.inl ⟨by rfl, ?_⟩) (by assumption) ?_
          rotate_left
          · intro wt hSw
            (try dsimp only at hSw)
            go_simp
            (try with_reducible rfl)
          (try simp only [Act.put, List.setIfInBounds_toArray, List.set_cons_zero, List.set_cons_succ])
          refine wpAnyH_take (i := 14) (v := undef) (by (simp only [List.getElem?_toArray, List.getElem?_cons_succ, List.getElem?_cons_zero]; rfl)) (by kernel_rfl) (by kernel_rfl) (by kernel_rfl) (fun _ _ _ h => h) (Or.inr ⟨by rfl, rfl⟩) (by assumption) ?_
          (try simp only [Act.put, List.setIfInBounds_toArray, List.set_cons_zero, List.set_cons_succ])
          refine wpAnyH_take (i := 15) (v := undef) (by (simp only [List.getElem?_toArray, List.getElem?_cons_succ, List.getElem?_cons_zero]; rfl)) (by kernel_rfl) (by kernel_rfl) (by kernel_rfl) (fun _ _ _ h => h) (Or.inr ⟨by rfl, rfl⟩) (by assumption) ?_
          (try simp only [Act.put, List.setIfInBounds_toArray, List.set_cons_zero, List.set_cons_succ])
          refine wpAnyH_take (i := 16) (v := undef) (by (simp only [List.getElem?_toArray, List.getElem?_cons_succ, List.getElem?_cons_zero]; rfl)) (by kernel_rfl) (by kernel_rfl) (by kernel_rfl) (fun _ _ _ h => h) (Or.inr ⟨by rfl, rfl⟩) (by assumption) ?_
          (try simp only [Act.put, List.setIfInBounds_toArray, List.set_cons_zero, List.set_cons_succ])
          refine wpAnyH_take (i := 17) (v := ?_) (by (simp only [List.getElem?_toArray, List.getElem?_cons_succ, List.getElem?_cons_zero]; rfl)) (by kernel_rfl) (by kernel_rfl) (by kernel_rfl) (fun _ _ _ h => h) (Or.inl ⟨by rfl, ?_⟩) (by assumption) ?_
          rotate_left
          · intro wt hSw
            (try dsimp only at hSw)
            go_simp
            (try with_reducible rfl)
          (try simp only [Act.put, List.setIfInBounds_toArray, List.set_cons_zero, List.set_cons_succ])
          refine wpAnyH_take (i := 18) (v := ?_) (by (simp only [List.getElem?_toArray, List.getElem?_cons_succ, List.getElem?_cons_zero]; rfl)) (by kernel_rfl) (by kernel_rfl) (by kernel_rfl) (fun _ _ _ h => h) (Or.inl ⟨by rfl, ?_⟩) (by assumption) ?_
          rotate_left
          · intro wt hSw
            (try dsimp only at hSw)
            go_simp
            (try with_reducible rfl)
          (try simp only [Act.put, List.setIfInBounds_toArray, List.set_cons_zero, List.set_cons_succ])
          refine wpAnyH_take (i := 19) (v := undef) (by (simp only [List.getElem?_toArray, List.getElem?_cons_succ, List.getElem?_cons_zero]; rfl)) (by kernel_rfl) (by kernel_rfl) (by kernel_rfl) (fun _ _ _ h => h) (Or.inr ⟨by rfl, rfl⟩) (by assumption) ?_
          (try simp only [Act.put, List.setIfInBounds_toArray, List.set_cons_zero, List.set_cons_succ])
          refine wpAnyH_take (i := 20) (v := undef) (by (simp only [List.getElem?_toArray, List.getElem?_cons_succ, List.getElem?_cons_zero]; rfl)) (by kernel_rfl) (by kernel_rfl) (by kernel_rfl) (fun _ _ _ h => h) (Or.inr ⟨by rfl, rfl⟩) (by assumption) ?_
          (try simp only [Act.put, List.setIfInBounds_toArray, List.set_cons_zero, List.set_cons_succ])
          refine wpAnyH_take (i := 21) (v := undef) (by (simp only [List.getElem?_toArray, List.getElem?_cons_succ, List.getElem?_cons_zero]; rfl)) (by kernel_rfl) (by kernel_rfl) (by kernel_rfl) (fun _ _ _ h => h) (Or.inr ⟨by rfl, rfl⟩) (by assumption) ?_
          (try simp only [Act.put, List.setIfInBounds_toArray, List.set_cons_zero, List.set_cons_succ])
          refine wpAnyH_take (i := 22) (v := ?_) (by (simp only [List.getElem?_toArray, List.getElem?_cons_succ, List.getElem?_cons_zero]; rfl)) (by kernel_rfl) (by kernel_rfl) (by kernel_rfl) (fun _ _ _ h => h) (Or.inl ⟨by rfl, ?_⟩) (by assumption) ?_
          rotate_left
          · intro wt hSw
            (try dsimp only at hSw)
            go_simp
            (try with_reducible rfl)
          (try simp only [Act.put, List.setIfInBounds_toArray, List.set_cons_zero, List.set_cons_succ])
          refine wpAnyH_done (by kernel_rfl) (NoPanic.normal ?_) _
          go_wp2
          go_meet
          exact ⟨true, rfl, (fun h => by cases h), BW, KX, KY, KZ, R1, R2, R3⟩
  case rest =>
    obtain ⟨r, rfl, hr, BW, KX, KY, KZ, R1, R2, R3⟩ := hcut
    cases r with
    | true =>
      have KX_0 := KX.c 0 _ rfl
      have KX_1 := KX.c 1 _ rfl
      have KX_2 := KX.c 2 _ rfl
      have KX_3 := KX.c 3 _ rfl
      have KY_0 := KY.c 0 _ rfl
      have KY_1 := KY.c 1 _ rfl
      have KY_2 := KY.c 2 _ rfl
      have KY_3 := KY.c 3 _ rfl
      have KZ_0 := KZ.c 0 _ rfl
      have KZ_1 := KZ.c 1 _ rfl
      have KZ_2 := KZ.c 2 _ rfl
      have KZ_3 := KZ.c 3 _ rfl
      go_wp2_with fail
      clear KX_0 KX_1 KX_2 KX_3 KY_0 KY_1 KY_2 KY_3 KZ_0 KZ_1 KZ_2 KZ_3
      refine (lives_any _ (tab_below HT.out BW)).mono ?_
      rintro _ wl ⟨rfl, hb⟩
      replace BW := BW.trans (hb.mono BW.size)
      go_wp2
      go_ret
      exact ⟨rfl, BW⟩
    | false =>
      obtain ⟨o1, o2, o3⟩ := hr rfl
      obtain rfl := o1.pos
      obtain rfl := o2.pos
      obtain rfl := o3.pos
      obtain ⟨q, L1⟩ := o1.lf (c := c1) (d := l1) R1
      obtain ⟨p, L2⟩ := o2.lf (c := c2) (d := l2) R2
      obtain ⟨s, L3⟩ := o3.lf (c := c3) (d := l3) R3
      clear hr o1 o2 o3 R1 R2 R3
      have KX_0 := KX.c 0 _ rfl
      have KX_1 := KX.c 1 _ rfl
      have KX_2 := KX.c 2 _ rfl
      have KX_3 := KX.c 3 _ rfl
      have KY_0 := KY.c 0 _ rfl
      have KY_1 := KY.c 1 _ rfl
      have KY_2 := KY.c 2 _ rfl
      have KY_3 := KY.c 3 _ rfl
      have KZ_0 := KZ.c 0 _ rfl
      have KZ_1 := KZ.c 1 _ rfl
      have KZ_2 := KZ.c 2 _ rfl
      have KZ_3 := KZ.c 3 _ rfl
      go_wp2_with fail
      clear KX_0 KX_1 KX_2 KX_3 KY_0 KY_1 KY_2 KY_3 KZ_0 KZ_1 KZ_2 KZ_3
      refine (frac_add q p _ _ _ _ _ _ _ _ _ _ _ _ _ _ _ L1 L2).mono ?_
      rintro _ w3 ⟨pan, paA, paz, pak, pam, paB, pad, pal, pae, rfl, Ra, hb⟩
      replace KX := KX.on hb
      replace KY := KY.on hb
      replace KZ := KZ.on hb
      replace L1 := L1.on hb
      replace L2 := L2.on hb
      replace L3 := L3.on hb
      replace BW := BW.trans (hb.mono BW.size)
      clear hb
      have hb : Below w3.heap.size w3 (w3.alloc (.cells #[.bool pan, .slice paA paz.length pak, .bool pam, .slice paB pad.length pal] 26)) := by go_grown
      have Kpa := Box.new w3 [.bool pan, .slice paA paz.length pak, .bool pam, .slice paB pad.length pal] 26
      replace KX := KX.on hb
      replace KY := KY.on hb
      replace KZ := KZ.on hb
      replace L1 := L1.on hb
      replace L2 := L2.on hb
      replace L3 := L3.on hb
      replace Ra := Ra.on hb
      replace BW := BW.trans (hb.mono BW.size)
      clear hb
      have KX_0 := KX.c 0 _ rfl
      have KX_1 := KX.c 1 _ rfl
      have KX_2 := KX.c 2 _ rfl
      have KX_3 := KX.c 3 _ rfl
      have KY_0 := KY.c 0 _ rfl
      have KY_1 := KY.c 1 _ rfl
      have KY_2 := KY.c 2 _ rfl
      have KY_3 := KY.c 3 _ rfl
      have KZ_0 := KZ.c 0 _ rfl
      have KZ_1 := KZ.c 1 _ rfl
      have KZ_2 := KZ.c 2 _ rfl
      have KZ_3 := KZ.c 3 _ rfl
      have Kpa_0 := Kpa.c 0 _ rfl
      have Kpa_1 := Kpa.c 1 _ rfl
      have Kpa_2 := Kpa.c 2 _ rfl
      have Kpa_3 := Kpa.c 3 _ rfl
      go_wp2_with fail
      clear KX_0 KX_1 KX_2 KX_3 KY_0 KY_1 KY_2 KY_3 KZ_0 KZ_1 KZ_2 KZ_3 Kpa_0 Kpa_1 Kpa_2 Kpa_3
      generalize (w3.alloc (.cells #[.bool pan, .slice paA paz.length pak, .bool pam, .slice paB pad.length pal] 26)) = Vpa at *
      generalize w3.heap.size = bpa at *
      refine (frac_add p q _ _ _ _ _ _ _ _ _ _ _ _ _ _ _ L2 L1).mono ?_
      rintro _ w4 ⟨pbn, pbA, pbz, pbk, pbm, pbB, pbd, pbl, pbe, rfl, Rb, hb⟩
      replace KX := KX.on hb
      replace KY := KY.on hb
      replace KZ := KZ.on hb
      replace Kpa := Kpa.on hb
      replace L1 := L1.on hb
      replace L2 := L2.on hb
      replace L3 := L3.on hb
      replace Ra := Ra.on hb
      replace BW := BW.trans (hb.mono BW.size)
      clear hb
      replace Rb := Rb.to (Rat.add_comm p q)
      have hab := Ra.er_eq Rb
      subst hab
      have hb : Below w4.heap.size w4 (w4.alloc (.cells #[.bool pbn, .slice pbA pbz.length pbk, .bool pbm, .slice pbB pbd.length pbl] 26)) := by go_grown
      have Kpb := Box.new w4 [.bool pbn, .slice pbA pbz.length pbk, .bool pbm, .slice pbB pbd.length pbl] 26
      replace KX := KX.on hb
      replace KY := KY.on hb
      replace KZ := KZ.on hb
      replace Kpa := Kpa.on hb
      replace L1 := L1.on hb
      replace L2 := L2.on hb
      replace L3 := L3.on hb
      replace Ra := Ra.on hb
      replace Rb := Rb.on hb
      replace BW := BW.trans (hb.mono BW.size)
      clear hb
      have KX_0 := KX.c 0 _ rfl
      have KX_1 := KX.c 1 _ rfl
      have KX_2 := KX.c 2 _ rfl
      have KX_3 := KX.c 3 _ rfl
      have KY_0 := KY.c 0 _ rfl
      have KY_1 := KY.c 1 _ rfl
      have KY_2 := KY.c 2 _ rfl
      have KY_3 := KY.c 3 _ rfl
      have KZ_0 := KZ.c 0 _ rfl
      have KZ_1 := KZ.c 1 _ rfl
      have KZ_2 := KZ.c 2 _ rfl
      have KZ_3 := KZ.c 3 _ rfl
      have Kpa_0 := Kpa.c 0 _ rfl
      have Kpa_1 := Kpa.c 1 _ rfl
      have Kpa_2 := Kpa.c 2 _ rfl
      have Kpa_3 := Kpa.c 3 _ rfl
      have Kpb_0 := Kpb.c 0 _ rfl
      have Kpb_1 := Kpb.c 1 _ rfl
      have Kpb_2 := Kpb.c 2 _ rfl
      have Kpb_3 := Kpb.c 3 _ rfl
      go_wp2_with fail
      clear KX_0 KX_1 KX_2 KX_3 KY_0 KY_1 KY_2 KY_3 KZ_0 KZ_1 KZ_2 KZ_3 Kpa_0 Kpa_1 Kpa_2 Kpa_3 Kpb_0 Kpb_1 Kpb_2 Kpb_3
      generalize (w4.alloc (.cells #[.bool pbn, .slice pbA pbz.length pbk, .bool pbm, .slice pbB pbd.length pbl] 26)) = Vpb at *
      generalize w4.heap.size = bpb at *
      refine (frac_mul q p _ _ _ _ _ _ _ _ _ _ _ _ _ _ _ L1 L2).mono ?_
      rintro _ w5 ⟨pcn, pcA, pcz, pck, pcm, pcB, pcd, pcl, pce, rfl, Rc, hb⟩
      replace KX := KX.on hb
      replace KY := KY.on hb
      replace KZ := KZ.on hb
      replace Kpa := Kpa.on hb
      replace Kpb := Kpb.on hb
      replace L1 := L1.on hb
      replace L2 := L2.on hb
      replace L3 := L3.on hb
      replace Ra := Ra.on hb
      replace Rb := Rb.on hb
      replace BW := BW.trans (hb.mono BW.size)
      clear hb
      have hb : Below w5.heap.size w5 (w5.alloc (.cells #[.bool pcn, .slice pcA pcz.length pck, .bool pcm, .slice pcB pcd.length pcl] 26)) := by go_grown
      have Kpc := Box.new w5 [.bool pcn, .slice pcA pcz.length pck, .bool pcm, .slice pcB pcd.length pcl] 26
      replace KX := KX.on hb
      replace KY := KY.on hb
      replace KZ := KZ.on hb
      replace Kpa := Kpa.on hb
      replace Kpb := Kpb.on hb
      replace L1 := L1.on hb
      replace L2 := L2.on hb
      replace L3 := L3.on hb
      replace Ra := Ra.on hb
      replace Rb := Rb.on hb
      replace Rc := Rc.on hb
      replace BW := BW.trans (hb.mono BW.size)
      clear hb
      have KX_0 := KX.c 0 _ rfl
      have KX_1 := KX.c 1 _ rfl
      have KX_2 := KX.c 2 _ rfl
      have KX_3 := KX.c 3 _ rfl
      have KY_0 := KY.c 0 _ rfl
      have KY_1 := KY.c 1 _ rfl
      have KY_2 := KY.c 2 _ rfl
      have KY_3 := KY.c 3 _ rfl
      have KZ_0 := KZ.c 0 _ rfl
      have KZ_1 := KZ.c 1 _ rfl
      have KZ_2 := KZ.c 2 _ rfl
      have KZ_3 := KZ.c 3 _ rfl
      have Kpa_0 := Kpa.c 0 _ rfl
      have Kpa_1 := Kpa.c 1 _ rfl
      have Kpa_2 := Kpa.c 2 _ rfl
      have Kpa_3 := Kpa.c 3 _ rfl
      have Kpb_0 := Kpb.c 0 _ rfl
      have Kpb_1 := Kpb.c 1 _ rfl
      have Kpb_2 := Kpb.c 2 _ rfl
      have Kpb_3 := Kpb.c 3 _ rfl
      have Kpc_0 := Kpc.c 0 _ rfl
      have Kpc_1 := Kpc.c 1 _ rfl
      have Kpc_2 := Kpc.c 2 _ rfl
      have Kpc_3 := Kpc.c 3 _ rfl
      go_wp2_with fail
      clear KX_0 KX_1 KX_2 KX_3 KY_0 KY_1 KY_2 KY_3 KZ_0 KZ_1 KZ_2 KZ_3 Kpa_0 Kpa_1 Kpa_2 Kpa_3 Kpb_0 Kpb_1 Kpb_2 Kpb_3 Kpc_0 Kpc_1 Kpc_2 Kpc_3
      generalize (w5.alloc (.cells #[.bool pcn, .slice pcA pcz.length pck, .bool pcm, .slice pcB pcd.length pcl] 26)) = Vpc at *
      generalize w5.heap.size = bpc at *
      refine (frac_mul p q _ _ _ _ _ _ _ _ _ _ _ _ _ _ _ L2 L1).mono ?_
      rintro _ w6 ⟨pdn, pdA, pdz, pdk, pdm, pdB, pdd, pdl, pde, rfl, Rd, hb⟩
      replace KX := KX.on hb
      replace KY := KY.on hb
      replace KZ := KZ.on hb
      replace Kpa := Kpa.on hb
      replace Kpb := Kpb.on hb
      replace Kpc := Kpc.on hb
      replace L1 := L1.on hb
      replace L2 := L2.on hb
      replace L3 := L3.on hb
      replace Ra := Ra.on hb
      replace Rb := Rb.on hb
      replace Rc := Rc.on hb
      replace BW := BW.trans (hb.mono BW.size)
      clear hb
      replace Rd := Rd.to (Rat.mul_comm p q)
      have hcd := Rc.er_eq Rd
      subst hcd
      have hb : Below w6.heap.size w6 (w6.alloc (.cells #[.bool pdn, .slice pdA pdz.length pdk, .bool pdm, .slice pdB pdd.length pdl] 26)) := by go_grown
      have Kpd := Box.new w6 [.bool pdn, .slice pdA pdz.length pdk, .bool pdm, .slice pdB pdd.length pdl] 26
      replace KX := KX.on hb
      replace KY := KY.on hb
      replace KZ := KZ.on hb
      replace Kpa := Kpa.on hb
      replace Kpb := Kpb.on hb
      replace Kpc := Kpc.on hb
      replace L1 := L1.on hb
      replace L2 := L2.on hb
      replace L3 := L3.on hb
      replace Ra := Ra.on hb
      replace Rb := Rb.on hb
      replace Rc := Rc.on hb
      replace Rd := Rd.on hb
      replace BW := BW.trans (hb.mono BW.size)
      clear hb
      have KX_0 := KX.c 0 _ rfl
      have KX_1 := KX.c 1 _ rfl
      have KX_2 := KX.c 2 _ rfl
      have KX_3 := KX.c 3 _ rfl
      have KY_0 := KY.c 0 _ rfl
      have KY_1 := KY.c 1 _ rfl
      have KY_2 := KY.c 2 _ rfl
      have KY_3 := KY.c 3 _ rfl
      have KZ_0 := KZ.c 0 _ rfl
      have KZ_1 := KZ.c 1 _ rfl
      have KZ_2 := KZ.c 2 _ rfl
      have KZ_3 := KZ.c 3 _ rfl
      have Kpa_0 := Kpa.c 0 _ rfl
      have Kpa_1 := Kpa.c 1 _ rfl
      have Kpa_2 := Kpa.c 2 _ rfl
      have Kpa_3 := Kpa.c 3 _ rfl
      have Kpb_0 := Kpb.c 0 _ rfl
      have Kpb_1 := Kpb.c 1 _ rfl
      have Kpb_2 := Kpb.c 2 _ rfl
      have Kpb_3 := Kpb.c 3 _ rfl
      have Kpc_0 := Kpc.c 0 _ rfl
      have Kpc_1 := Kpc.c 1 _ rfl
      have Kpc_2 := Kpc.c 2 _ rfl
      have Kpc_3 := Kpc.c 3 _ rfl
      have Kpd_0 := Kpd.c 0 _ rfl
      have Kpd_1 := Kpd.c 1 _ rfl
      have Kpd_2 := Kpd.c 2 _ rfl
      have Kpd_3 := Kpd.c 3 _ rfl
      go_wp2_with fail
      clear KX_0 KX_1 KX_2 KX_3 KY_0 KY_1 KY_2 KY_3 KZ_0 KZ_1 KZ_2 KZ_3 Kpa_0 Kpa_1 Kpa_2 Kpa_3 Kpb_0 Kpb_1 Kpb_2 Kpb_3 Kpc_0 Kpc_1 Kpc_2 Kpc_3 Kpd_0 Kpd_1 Kpd_2 Kpd_3
      generalize (w6.alloc (.cells #[.bool pdn, .slice pdA pdz.length pdk, .bool pdm, .slice pdB pdd.length pdl] 26)) = Vpd at *
      generalize w6.heap.size = bpd at *
      refine (like_rk (q + p) _ _ _ _ _ _ _ _ _ _ _ _ _ _ _ _ _ _ _ Ra Rb).mono ?_
      rintro _ w7 ⟨rfl, hb⟩
      replace KX := KX.on hb
      replace KY := KY.on hb
      replace KZ := KZ.on hb
      replace Kpa := Kpa.on hb
      replace Kpb := Kpb.on hb
      replace Kpc := Kpc.on hb
      replace Kpd := Kpd.on hb
      replace L1 := L1.on hb
      replace L2 := L2.on hb
      replace L3 := L3.on hb
      replace Ra := Ra.on hb
      replace Rb := Rb.on hb
      replace Rc := Rc.on hb
      replace Rd := Rd.on hb
      replace BW := BW.trans (hb.mono BW.size)
      clear hb
      have KX_0 := KX.c 0 _ rfl
      have KX_1 := KX.c 1 _ rfl
      have KX_2 := KX.c 2 _ rfl
      have KX_3 := KX.c 3 _ rfl
      have KY_0 := KY.c 0 _ rfl
      have KY_1 := KY.c 1 _ rfl
      have KY_2 := KY.c 2 _ rfl
      have KY_3 := KY.c 3 _ rfl
      have KZ_0 := KZ.c 0 _ rfl
      have KZ_1 := KZ.c 1 _ rfl
      have KZ_2 := KZ.c 2 _ rfl
      have KZ_3 := KZ.c 3 _ rfl
      have Kpa_0 := Kpa.c 0 _ rfl
      have Kpa_1 := Kpa.c 1 _ rfl
      have Kpa_2 := Kpa.c 2 _ rfl
      have Kpa_3 := Kpa.c 3 _ rfl
      have Kpb_0 := Kpb.c 0 _ rfl
      have Kpb_1 := Kpb.c 1 _ rfl
      have Kpb_2 := Kpb.c 2 _ rfl
      have Kpb_3 := Kpb.c 3 _ rfl
      have Kpc_0 := Kpc.c 0 _ rfl
      have Kpc_1 := Kpc.c 1 _ rfl
      have Kpc_2 := Kpc.c 2 _ rfl
      have Kpc_3 := Kpc.c 3 _ rfl
      have Kpd_0 := Kpd.c 0 _ rfl
      have Kpd_1 := Kpd.c 1 _ rfl
      have Kpd_2 := Kpd.c 2 _ rfl
      have Kpd_3 := Kpd.c 3 _ rfl
      go_wp2_with fail
      clear KX_0 KX_1 KX_2 KX_3 KY_0 KY_1 KY_2 KY_3 KZ_0 KZ_1 KZ_2 KZ_3 Kpa_0 Kpa_1 Kpa_2 Kpa_3 Kpb_0 Kpb_1 Kpb_2 Kpb_3 Kpc_0 Kpc_1 Kpc_2 Kpc_3 Kpd_0 Kpd_1 Kpd_2 Kpd_3
      refine (like_rk (q * p) _ _ _ _ _ _ _ _ _ _ _ _ _ _ _ _ _ _ _ Rc Rd).mono ?_
      rintro _ w8 ⟨rfl, hb⟩
      replace KX := KX.on hb
      replace KY := KY.on hb
      replace KZ := KZ.on hb
      replace Kpa := Kpa.on hb
      replace Kpb := Kpb.on hb
      replace Kpc := Kpc.on hb
      replace Kpd := Kpd.on hb
      replace L1 := L1.on hb
      replace L2 := L2.on hb
      replace L3 := L3.on hb
      replace Ra := Ra.on hb
      replace Rb := Rb.on hb
      replace Rc := Rc.on hb
      replace Rd := Rd.on hb
      replace BW := BW.trans (hb.mono BW.size)
      clear hb
      have KX_0 := KX.c 0 _ rfl
      have KX_1 := KX.c 1 _ rfl
      have KX_2 := KX.c 2 _ rfl
      have KX_3 := KX.c 3 _ rfl
      have KY_0 := KY.c 0 _ rfl
      have KY_1 := KY.c 1 _ rfl
      have KY_2 := KY.c 2 _ rfl
      have KY_3 := KY.c 3 _ rfl
      have KZ_0 := KZ.c 0 _ rfl
      have KZ_1 := KZ.c 1 _ rfl
      have KZ_2 := KZ.c 2 _ rfl
      have KZ_3 := KZ.c 3 _ rfl
      have Kpa_0 := Kpa.c 0 _ rfl
      have Kpa_1 := Kpa.c 1 _ rfl
      have Kpa_2 := Kpa.c 2 _ rfl
      have Kpa_3 := Kpa.c 3 _ rfl
      have Kpb_0 := Kpb.c 0 _ rfl
      have Kpb_1 := Kpb.c 1 _ rfl
      have Kpb_2 := Kpb.c 2 _ rfl
      have Kpb_3 := Kpb.c 3 _ rfl
      have Kpc_0 := Kpc.c 0 _ rfl
      have Kpc_1 := Kpc.c 1 _ rfl
      have Kpc_2 := Kpc.c 2 _ rfl
      have Kpc_3 := Kpc.c 3 _ rfl
      have Kpd_0 := Kpd.c 0 _ rfl
      have Kpd_1 := Kpd.c 1 _ rfl
      have Kpd_2 := Kpd.c 2 _ rfl
      have Kpd_3 := Kpd.c 3 _ rfl
      go_upto_if 109 with fail
      clear KX_0 KX_1 KX_2 KX_3 KY_0 KY_1 KY_2 KY_3 KZ_0 KZ_1 KZ_2 KZ_3 Kpa_0 Kpa_1 Kpa_2 Kpa_3 Kpb_0 Kpb_1 Kpb_2 Kpb_3 Kpc_0 Kpc_1 Kpc_2 Kpc_3 Kpd_0 Kpd_1 Kpd_2 Kpd_3
      go_cut [11] (fun s11 wx => s11 = .pointer (some ⟨bpc, 0, none⟩) ∧ Below w.heap.size w wx ∧ Box wx w.heap.size [.bool n1, .slice A1 x1.length c1, .bool false, .slice B1 d1.length l1] ∧ Box wx (w.heap.size + 1) [.bool n2, .slice A2 x2.length c2, .bool false, .slice B2 d2.length l2] ∧ Box wx (w.heap.size + 1 + 1) [.bool n3, .slice A3 x3.length c3, .bool false, .slice B3 d3.length l3] ∧ Box wx bpc [.bool pcn, .slice pcA pcz.length pck, .bool pcm, .slice pcB pcd.length pcl] ∧ Lf wx q n1 A1 x1 c1 B1 d1 l1 ∧ Lf wx p n2 A2 x2 c2 B2 d2 l2 ∧ Lf wx s n3 A3 x3 c3 B3 d3 l3 ∧ Rk wx False (q * p) pcn pcA pcz pck pcm pcB pcd pcl pce)
      case first =>
        by_cases he : pae = 0
        · obtain ⟨rfl, La⟩ := Ra.lf he
          subst he
          clear Ra Rb Rd Kpb Kpd
          have KX_0 := KX.c 0 _ rfl
          have KX_1 := KX.c 1 _ rfl
          have KX_2 := KX.c 2 _ rfl
          have KX_3 := KX.c 3 _ rfl
          have KY_0 := KY.c 0 _ rfl
          have KY_1 := KY.c 1 _ rfl
          have KY_2 := KY.c 2 _ rfl
          have KY_3 := KY.c 3 _ rfl
          have KZ_0 := KZ.c 0 _ rfl
          have KZ_1 := KZ.c 1 _ rfl
          have KZ_2 := KZ.c 2 _ rfl
          have KZ_3 := KZ.c 3 _ rfl
          have Kpa_0 := Kpa.c 0 _ rfl
          have Kpa_1 := Kpa.c 1 _ rfl
          have Kpa_2 := Kpa.c 2 _ rfl
          have Kpa_3 := Kpa.c 3 _ rfl
          have Kpc_0 := Kpc.c 0 _ rfl
          have Kpc_1 := Kpc.c 1 _ rfl
          have Kpc_2 := Kpc.c 2 _ rfl
          have Kpc_3 := Kpc.c 3 _ rfl
          go_wp2_with fail
          clear KX_0 KX_1 KX_2 KX_3 KY_0 KY_1 KY_2 KY_3 KZ_0 KZ_1 KZ_2 KZ_3 Kpa_0 Kpa_1 Kpa_2 Kpa_3 Kpc_0 Kpc_1 Kpc_2 Kpc_3
          refine (frac_add (q + p) s _ _ _ _ _ _ _ _ _ _ _ _ _ _ _ La L3).mono ?_
          rintro _ w9 ⟨pen, peA, pez, pek, pem, peB, ped, pel, pee, rfl, Re, hb⟩
          replace KX := KX.on hb
          replace KY := KY.on hb
          replace KZ := KZ.on hb
          replace Kpa := Kpa.on hb
          replace Kpc := Kpc.on hb
          replace L1 := L1.on hb
          replace L2 := L2.on hb
          replace L3 := L3.on hb
          replace Rc := Rc.on hb
          replace La := La.on hb
          replace BW := BW.trans (hb.mono BW.size)
          clear hb
          have hb : Below w9.heap.size w9 (w9.alloc (.cells #[.bool pen, .slice peA pez.length pek, .bool pem, .slice peB ped.length pel] 26)) := by go_grown
          have Kpe := Box.new w9 [.bool pen, .slice peA pez.length pek, .bool pem, .slice peB ped.length pel] 26
          replace KX := KX.on hb
          replace KY := KY.on hb
          replace KZ := KZ.on hb
          replace Kpa := Kpa.on hb
          replace Kpc := Kpc.on hb
          replace L1 := L1.on hb
          replace L2 := L2.on hb
          replace L3 := L3.on hb
          replace Rc := Rc.on hb
          replace La := La.on hb
          replace Re := Re.on hb
          replace BW := BW.trans (hb.mono BW.size)
          clear hb
          have KX_0 := KX.c 0 _ rfl
          have KX_1 := KX.c 1 _ rfl
          have KX_2 := KX.c 2 _ rfl
          have KX_3 := KX.c 3 _ rfl
          have KY_0 := KY.c 0 _ rfl
          have KY_1 := KY.c 1 _ rfl
          have KY_2 := KY.c 2 _ rfl
          have KY_3 := KY.c 3 _ rfl
          have KZ_0 := KZ.c 0 _ rfl
          have KZ_1 := KZ.c 1 _ rfl
          have KZ_2 := KZ.c 2 _ rfl
          have KZ_3 := KZ.c 3 _ rfl
          have Kpa_0 := Kpa.c 0 _ rfl
          have Kpa_1 := Kpa.c 1 _ rfl
          have Kpa_2 := Kpa.c 2 _ rfl
          have Kpa_3 := Kpa.c 3 _ rfl
          have Kpc_0 := Kpc.c 0 _ rfl
          have Kpc_1 := Kpc.c 1 _ rfl
          have Kpc_2 := Kpc.c 2 _ rfl
          have Kpc_3 := Kpc.c 3 _ rfl
          have Kpe_0 := Kpe.c 0 _ rfl
          have Kpe_1 := Kpe.c 1 _ rfl
          have Kpe_2 := Kpe.c 2 _ rfl
          have Kpe_3 := Kpe.c 3 _ rfl
          go_wp2_with fail
          clear KX_0 KX_1 KX_2 KX_3 KY_0 KY_1 KY_2 KY_3 KZ_0 KZ_1 KZ_2 KZ_3 Kpa_0 Kpa_1 Kpa_2 Kpa_3 Kpc_0 Kpc_1 Kpc_2 Kpc_3 Kpe_0 Kpe_1 Kpe_2 Kpe_3
          generalize (w9.alloc (.cells #[.bool pen, .slice peA pez.length pek, .bool pem, .slice peB ped.length pel] 26)) = Vpe at *
          generalize w9.heap.size = bpe at *
          refine (frac_add p s _ _ _ _ _ _ _ _ _ _ _ _ _ _ _ L2 L3).mono ?_
          rintro _ w10 ⟨pfn, pfA, pfz, pfk, pfm, pfB, pfd, pfl, pfe, rfl, Rf, hb⟩
          replace KX := KX.on hb
          replace KY := KY.on hb
          replace KZ := KZ.on hb
          replace Kpa := Kpa.on hb
          replace Kpc := Kpc.on hb
          replace Kpe := Kpe.on hb
          replace L1 := L1.on hb
          replace L2 := L2.on hb
          replace L3 := L3.on hb
          replace Rc := Rc.on hb
          replace La := La.on hb
          replace Re := Re.on hb
          replace BW := BW.trans (hb.mono BW.size)
          clear hb
          have hb : Below w10.heap.size w10 (w10.alloc (.cells #[.bool pfn, .slice pfA pfz.length pfk, .bool pfm, .slice pfB pfd.length pfl] 26)) := by go_grown
          have Kpf := Box.new w10 [.bool pfn, .slice pfA pfz.length pfk, .bool pfm, .slice pfB pfd.length pfl] 26
          replace KX := KX.on hb
          replace KY := KY.on hb
          replace KZ := KZ.on hb
          replace Kpa := Kpa.on hb
          replace Kpc := Kpc.on hb
          replace Kpe := Kpe.on hb
          replace L1 := L1.on hb
          replace L2 := L2.on hb
          replace L3 := L3.on hb
          replace Rc := Rc.on hb
          replace La := La.on hb
          replace Re := Re.on hb
          replace Rf := Rf.on hb
          replace BW := BW.trans (hb.mono BW.size)
          clear hb
          have KX_0 := KX.c 0 _ rfl
          have KX_1 := KX.c 1 _ rfl
          have KX_2 := KX.c 2 _ rfl
          have KX_3 := KX.c 3 _ rfl
          have KY_0 := KY.c 0 _ rfl
          have KY_1 := KY.c 1 _ rfl
          have KY_2 := KY.c 2 _ rfl
          have KY_3 := KY.c 3 _ rfl
          have KZ_0 := KZ.c 0 _ rfl
          have KZ_1 := KZ.c 1 _ rfl
          have KZ_2 := KZ.c 2 _ rfl
          have KZ_3 := KZ.c 3 _ rfl
          have Kpa_0 := Kpa.c 0 _ rfl
          have Kpa_1 := Kpa.c 1 _ rfl
          have Kpa_2 := Kpa.c 2 _ rfl
          have Kpa_3 := Kpa.c 3 _ rfl
          have Kpc_0 := Kpc.c 0 _ rfl
          have Kpc_1 := Kpc.c 1 _ rfl
          have Kpc_2 := Kpc.c 2 _ rfl
          have Kpc_3 := Kpc.c 3 _ rfl
          have Kpe_0 := Kpe.c 0 _ rfl
          have Kpe_1 := Kpe.c 1 _ rfl
          have Kpe_2 := Kpe.c 2 _ rfl
          have Kpe_3 := Kpe.c 3 _ rfl
          have Kpf_0 := Kpf.c 0 _ rfl
          have Kpf_1 := Kpf.c 1 _ rfl
          have Kpf_2 := Kpf.c 2 _ rfl
          have Kpf_3 := Kpf.c 3 _ rfl
          go_wp2_with fail
          clear KX_0 KX_1 KX_2 KX_3 KY_0 KY_1 KY_2 KY_3 KZ_0 KZ_1 KZ_2 KZ_3 Kpa_0 Kpa_1 Kpa_2 Kpa_3 Kpc_0 Kpc_1 Kpc_2 Kpc_3 Kpe_0 Kpe_1 Kpe_2 Kpe_3 Kpf_0 Kpf_1 Kpf_2 Kpf_3
          generalize (w10.alloc (.cells #[.bool pfn, .slice pfA pfz.length pfk, .bool pfm, .slice pfB pfd.length pfl] 26)) = Vpf at *
          generalize w10.heap.size = bpf at *
          refine (frac_add_rj q (p + s) _ _ _ _ _ _ _ _ _ _ _ _ _ _ _ _ _ L1 Rf).mono ?_
          rintro _ w11 ⟨pgn, pgA, pgz, pgk, pgm, pgB, pgd, pgl, pge, rfl, Rg, hb⟩
          replace KX := KX.on hb
          replace KY := KY.on hb
          replace KZ := KZ.on hb
          replace Kpa := Kpa.on hb
          replace Kpc := Kpc.on hb
          replace Kpe := Kpe.on hb
          replace Kpf := Kpf.on hb
          replace L1 := L1.on hb
          replace L2 := L2.on hb
          replace L3 := L3.on hb
          replace Rc := Rc.on hb
          replace La := La.on hb
          replace Re := Re.on hb
          replace Rf := Rf.on hb
          replace BW := BW.trans (hb.mono BW.size)
          clear hb
          have hb : Below w11.heap.size w11 (w11.alloc (.cells #[.bool pgn, .slice pgA pgz.length pgk, .bool pgm, .slice pgB pgd.length pgl] 26)) := by go_grown
          have Kpg := Box.new w11 [.bool pgn, .slice pgA pgz.length pgk, .bool pgm, .slice pgB pgd.length pgl] 26
          replace KX := KX.on hb
          replace KY := KY.on hb
          replace KZ := KZ.on hb
          replace Kpa := Kpa.on hb
          replace Kpc := Kpc.on hb
          replace Kpe := Kpe.on hb
          replace Kpf := Kpf.on hb
          replace L1 := L1.on hb
          replace L2 := L2.on hb
          replace L3 := L3.on hb
          replace Rc := Rc.on hb
          replace La := La.on hb
          replace Re := Re.on hb
          replace Rf := Rf.on hb
          replace Rg := Rg.on hb
          replace BW := BW.trans (hb.mono BW.size)
          clear hb
          have KX_0 := KX.c 0 _ rfl
          have KX_1 := KX.c 1 _ rfl
          have KX_2 := KX.c 2 _ rfl
          have KX_3 := KX.c 3 _ rfl
          have KY_0 := KY.c 0 _ rfl
          have KY_1 := KY.c 1 _ rfl
          have KY_2 := KY.c 2 _ rfl
          have KY_3 := KY.c 3 _ rfl
          have KZ_0 := KZ.c 0 _ rfl
          have KZ_1 := KZ.c 1 _ rfl
          have KZ_2 := KZ.c 2 _ rfl
          have KZ_3 := KZ.c 3 _ rfl
          have Kpa_0 := Kpa.c 0 _ rfl
          have Kpa_1 := Kpa.c 1 _ rfl
          have Kpa_2 := Kpa.c 2 _ rfl
          have Kpa_3 := Kpa.c 3 _ rfl
          have Kpc_0 := Kpc.c 0 _ rfl
          have Kpc_1 := Kpc.c 1 _ rfl
          have Kpc_2 := Kpc.c 2 _ rfl
          have Kpc_3 := Kpc.c 3 _ rfl
          have Kpe_0 := Kpe.c 0 _ rfl
          have Kpe_1 := Kpe.c 1 _ rfl
          have Kpe_2 := Kpe.c 2 _ rfl
          have Kpe_3 := Kpe.c 3 _ rfl
          have Kpf_0 := Kpf.c 0 _ rfl
          have Kpf_1 := Kpf.c 1 _ rfl
          have Kpf_2 := Kpf.c 2 _ rfl
          have Kpf_3 := Kpf.c 3 _ rfl
          have Kpg_0 := Kpg.c 0 _ rfl
          have Kpg_1 := Kpg.c 1 _ rfl
          have Kpg_2 := Kpg.c 2 _ rfl
          have Kpg_3 := Kpg.c 3 _ rfl
          go_wp2_with fail
          clear KX_0 KX_1 KX_2 KX_3 KY_0 KY_1 KY_2 KY_3 KZ_0 KZ_1 KZ_2 KZ_3 Kpa_0 Kpa_1 Kpa_2 Kpa_3 Kpc_0 Kpc_1 Kpc_2 Kpc_3 Kpe_0 Kpe_1 Kpe_2 Kpe_3 Kpf_0 Kpf_1 Kpf_2 Kpf_3 Kpg_0 Kpg_1 Kpg_2 Kpg_3
          generalize (w11.alloc (.cells #[.bool pgn, .slice pgA pgz.length pgk, .bool pgm, .slice pgB pgd.length pgl] 26)) = Vpg at *
          generalize w11.heap.size = bpg at *
          refine (frac_sub (q + p) p _ _ _ _ _ _ _ _ _ _ _ _ _ _ _ La L2).mono ?_
          rintro _ w12 ⟨phn, phA, phz, phk, phm, phB, phd, phl, phe, rfl, Rh, hb⟩
          replace KX := KX.on hb
          replace KY := KY.on hb
          replace KZ := KZ.on hb
          replace Kpa := Kpa.on hb
          replace Kpc := Kpc.on hb
          replace Kpe := Kpe.on hb
          replace Kpf := Kpf.on hb
          replace Kpg := Kpg.on hb
          replace L1 := L1.on hb
          replace L2 := L2.on hb
          replace L3 := L3.on hb
          replace Rc := Rc.on hb
          replace La := La.on hb
          replace Re := Re.on hb
          replace Rf := Rf.on hb
          replace Rg := Rg.on hb
          replace BW := BW.trans (hb.mono BW.size)
          clear hb
          replace Rh := Rh.to (rat_back q p)
          have hh := Rh.yes not_false L1.fitsQ
          subst hh
          have hb : Below w12.heap.size w12 (w12.alloc (.cells #[.bool phn, .slice phA phz.length phk, .bool phm, .slice phB phd.length phl] 26)) := by go_grown
          have Kph := Box.new w12 [.bool phn, .slice phA phz.length phk, .bool phm, .slice phB phd.length phl] 26
          replace KX := KX.on hb
          replace KY := KY.on hb
          replace KZ := KZ.on hb
          replace Kpa := Kpa.on hb
          replace Kpc := Kpc.on hb
          replace Kpe := Kpe.on hb
          replace Kpf := Kpf.on hb
          replace Kpg := Kpg.on hb
          replace L1 := L1.on hb
          replace L2 := L2.on hb
          replace L3 := L3.on hb
          replace Rc := Rc.on hb
          replace La := La.on hb
          replace Re := Re.on hb
          replace Rf := Rf.on hb
          replace Rg := Rg.on hb
          replace Rh := Rh.on hb
          replace BW := BW.trans (hb.mono BW.size)
          clear hb
          have KX_0 := KX.c 0 _ rfl
          have KX_1 := KX.c 1 _ rfl
          have KX_2 := KX.c 2 _ rfl
          have KX_3 := KX.c 3 _ rfl
          have KY_0 := KY.c 0 _ rfl
          have KY_1 := KY.c 1 _ rfl
          have KY_2 := KY.c 2 _ rfl
          have KY_3 := KY.c 3 _ rfl
          have KZ_0 := KZ.c 0 _ rfl
          have KZ_1 := KZ.c 1 _ rfl
          have KZ_2 := KZ.c 2 _ rfl
          have KZ_3 := KZ.c 3 _ rfl
          have Kpa_0 := Kpa.c 0 _ rfl
          have Kpa_1 := Kpa.c 1 _ rfl
          have Kpa_2 := Kpa.c 2 _ rfl
          have Kpa_3 := Kpa.c 3 _ rfl
          have Kpc_0 := Kpc.c 0 _ rfl
          have Kpc_1 := Kpc.c 1 _ rfl
          have Kpc_2 := Kpc.c 2 _ rfl
          have Kpc_3 := Kpc.c 3 _ rfl
          have Kpe_0 := Kpe.c 0 _ rfl
          have Kpe_1 := Kpe.c 1 _ rfl
          have Kpe_2 := Kpe.c 2 _ rfl
          have Kpe_3 := Kpe.c 3 _ rfl
          have Kpf_0 := Kpf.c 0 _ rfl
          have Kpf_1 := Kpf.c 1 _ rfl
          have Kpf_2 := Kpf.c 2 _ rfl
          have Kpf_3 := Kpf.c 3 _ rfl
          have Kpg_0 := Kpg.c 0 _ rfl
          have Kpg_1 := Kpg.c 1 _ rfl
          have Kpg_2 := Kpg.c 2 _ rfl
          have Kpg_3 := Kpg.c 3 _ rfl
          have Kph_0 := Kph.c 0 _ rfl
          have Kph_1 := Kph.c 1 _ rfl
          have Kph_2 := Kph.c 2 _ rfl
          have Kph_3 := Kph.c 3 _ rfl
          go_upto_region 14 with fail
          clear KX_0 KX_1 KX_2 KX_3 KY_0 KY_1 KY_2 KY_3 KZ_0 KZ_1 KZ_2 KZ_3 Kpa_0 Kpa_1 Kpa_2 Kpa_3 Kpc_0 Kpc_1 Kpc_2 Kpc_3 Kpe_0 Kpe_1 Kpe_2 Kpe_3 Kpf_0 Kpf_1 Kpf_2 Kpf_3 Kpg_0 Kpg_1 Kpg_2 Kpg_3 Kph_0 Kph_1 Kph_2 Kph_3
          generalize (w12.alloc (.cells #[.bool phn, .slice phA phz.length phk, .bool phm, .slice phB phd.length phl] 26)) = Vph at *
          generalize w12.heap.size = bph at *
          go_cut [7, 159] (fun s7 s159 wx => s7 = .pointer (some ⟨bpa, 0, none⟩) ∧ s159 = .bool false ∧ Below w.heap.size w wx ∧ Box wx w.heap.size [.bool n1, .slice A1 x1.length c1, .bool false, .slice B1 d1.length l1] ∧ Box wx (w.heap.size + 1) [.bool n2, .slice A2 x2.length c2, .bool false, .slice B2 d2.length l2] ∧ Box wx (w.heap.size + 1 + 1) [.bool n3, .slice A3 x3.length c3, .bool false, .slice B3 d3.length l3] ∧ Box wx bpa [.bool pan, .slice paA paz.length pak, .bool false, .slice paB pad.length pal] ∧ Box wx bpc [.bool pcn, .slice pcA pcz.length pck, .bool pcm, .slice pcB pcd.length pcl] ∧ Lf wx q n1 A1 x1 c1 B1 d1 l1 ∧ Lf wx p n2 A2 x2 c2 B2 d2 l2 ∧ Lf wx s n3 A3 x3 c3 B3 d3 l3 ∧ Rk wx False (q * p) pcn pcA pcz pck pcm pcB pcd pcl pce ∧ Lf wx (q + p) pan paA paz pak paB pad pal)
          case first =>
            as_aux_lemma =>
              by_cases hj : pfe = 0
              · subst hj
                replace Rg := (Rg rfl).to (rat_group q p s).symm
                have hi := Re.er_eq Rg
                subst hi
                have KX_0 := KX.c 0 _ rfl
                have KX_1 := KX.c 1 _ rfl
                have KX_2 := KX.c 2 _ rfl
                have KX_3 := KX.c 3 _ rfl
                have KY_0 := KY.c 0 _ rfl
                have KY_1 := KY.c 1 _ rfl
                have KY_2 := KY.c 2 _ rfl
                have KY_3 := KY.c 3 _ rfl
                have KZ_0 := KZ.c 0 _ rfl
                have KZ_1 := KZ.c 1 _ rfl
                have KZ_2 := KZ.c 2 _ rfl
                have KZ_3 := KZ.c 3 _ rfl
                have Kpa_0 := Kpa.c 0 _ rfl
                have Kpa_1 := Kpa.c 1 _ rfl
                have Kpa_2 := Kpa.c 2 _ rfl
                have Kpa_3 := Kpa.c 3 _ rfl
                have Kpc_0 := Kpc.c 0 _ rfl
                have Kpc_1 := Kpc.c 1 _ rfl
                have Kpc_2 := Kpc.c 2 _ rfl
                have Kpc_3 := Kpc.c 3 _ rfl
                have Kpe_0 := Kpe.c 0 _ rfl
                have Kpe_1 := Kpe.c 1 _ rfl
                have Kpe_2 := Kpe.c 2 _ rfl
                have Kpe_3 := Kpe.c 3 _ rfl
                have Kpf_0 := Kpf.c 0 _ rfl
                have Kpf_1 := Kpf.c 1 _ rfl
                have Kpf_2 := Kpf.c 2 _ rfl
                have Kpf_3 := Kpf.c 3 _ rfl
                have Kpg_0 := Kpg.c 0 _ rfl
                have Kpg_1 := Kpg.c 1 _ rfl
                have Kpg_2 := Kpg.c 2 _ rfl
                have Kpg_3 := Kpg.c 3 _ rfl
                have Kph_0 := Kph.c 0 _ rfl
                have Kph_1 := Kph.c 1 _ rfl
                have Kph_2 := Kph.c 2 _ rfl
                have Kph_3 := Kph.c 3 _ rfl
                go_wp2_with fail
                clear KX_0 KX_1 KX_2 KX_3 KY_0 KY_1 KY_2 KY_3 KZ_0 KZ_1 KZ_2 KZ_3 Kpa_0 Kpa_1 Kpa_2 Kpa_3 Kpc_0 Kpc_1 Kpc_2 Kpc_3 Kpe_0 Kpe_1 Kpe_2 Kpe_3 Kpf_0 Kpf_1 Kpf_2 Kpf_3 Kpg_0 Kpg_1 Kpg_2 Kpg_3 Kph_0 Kph_1 Kph_2 Kph_3
                refine (like_rk (q + p + s) _ _ _ _ _ _ _ _ _ _ _ _ _ _ _ _ _ _ _ Re Rg).mono ?_
                rintro _ w13 ⟨rfl, hb⟩
                replace KX := KX.on hb
                replace KY := KY.on hb
                replace KZ := KZ.on hb
                replace Kpa := Kpa.on hb
                replace Kpc := Kpc.on hb
                replace Kpe := Kpe.on hb
                replace Kpf := Kpf.on hb
                replace Kpg := Kpg.on hb
                replace Kph := Kph.on hb
                replace L1 := L1.on hb
                replace L2 := L2.on hb
                replace L3 := L3.on hb
                replace Rc := Rc.on hb
                replace La := La.on hb
                replace Re := Re.on hb
                replace Rf := Rf.on hb
                replace Rg := Rg.on hb
                replace Rh := Rh.on hb
                replace BW := BW.trans (hb.mono BW.size)
                clear hb
                have KX_0 := KX.c 0 _ rfl
                have KX_1 := KX.c 1 _ rfl
                have KX_2 := KX.c 2 _ rfl
                have KX_3 := KX.c 3 _ rfl
                have KY_0 := KY.c 0 _ rfl
                have KY_1 := KY.c 1 _ rfl
                have KY_2 := KY.c 2 _ rfl
                have KY_3 := KY.c 3 _ rfl
                have KZ_0 := KZ.c 0 _ rfl
                have KZ_1 := KZ.c 1 _ rfl
                have KZ_2 := KZ.c 2 _ rfl
                have KZ_3 := KZ.c 3 _ rfl
                have Kpa_0 := Kpa.c 0 _ rfl
                have Kpa_1 := Kpa.c 1 _ rfl
                have Kpa_2 := Kpa.c 2 _ rfl
                have Kpa_3 := Kpa.c 3 _ rfl
                have Kpc_0 := Kpc.c 0 _ rfl
                have Kpc_1 := Kpc.c 1 _ rfl
                have Kpc_2 := Kpc.c 2 _ rfl
                have Kpc_3 := Kpc.c 3 _ rfl
                have Kpe_0 := Kpe.c 0 _ rfl
                have Kpe_1 := Kpe.c 1 _ rfl
                have Kpe_2 := Kpe.c 2 _ rfl
                have Kpe_3 := Kpe.c 3 _ rfl
                have Kpf_0 := Kpf.c 0 _ rfl
                have Kpf_1 := Kpf.c 1 _ rfl
                have Kpf_2 := Kpf.c 2 _ rfl
                have Kpf_3 := Kpf.c 3 _ rfl
                have Kpg_0 := Kpg.c 0 _ rfl
                have Kpg_1 := Kpg.c 1 _ rfl
                have Kpg_2 := Kpg.c 2 _ rfl
                have Kpg_3 := Kpg.c 3 _ rfl
                have Kph_0 := Kph.c 0 _ rfl
                have Kph_1 := Kph.c 1 _ rfl
                have Kph_2 := Kph.c 2 _ rfl
                have Kph_3 := Kph.c 3 _ rfl
                go_wp2_with fail
                clear KX_0 KX_1 KX_2 KX_3 KY_0 KY_1 KY_2 KY_3 KZ_0 KZ_1 KZ_2 KZ_3 Kpa_0 Kpa_1 Kpa_2 Kpa_3 Kpc_0 Kpc_1 Kpc_2 Kpc_3 Kpe_0 Kpe_1 Kpe_2 Kpe_3 Kpf_0 Kpf_1 Kpf_2 Kpf_3 Kpg_0 Kpg_1 Kpg_2 Kpg_3 Kph_0 Kph_1 Kph_2 Kph_3
                refine (like_rk q _ _ _ _ _ _ _ _ _ _ _ _ _ _ _ _ _ _ _ Rh L1.rk).mono ?_
                rintro _ w14 ⟨rfl, hb⟩
                replace KX := KX.on hb
                replace KY := KY.on hb
                replace KZ := KZ.on hb
                replace Kpa := Kpa.on hb
                replace Kpc := Kpc.on hb
                replace Kpe := Kpe.on hb
                replace Kpf := Kpf.on hb
                replace Kpg := Kpg.on hb
                replace Kph := Kph.on hb
                replace L1 := L1.on hb
                replace L2 := L2.on hb
                replace L3 := L3.on hb
                replace Rc := Rc.on hb
                replace La := La.on hb
                replace Re := Re.on hb
                replace Rf := Rf.on hb
                replace Rg := Rg.on hb
                replace Rh := Rh.on hb
                replace BW := BW.trans (hb.mono BW.size)
                clear hb
                have KX_0 := KX.c 0 _ rfl
                have KX_1 := KX.c 1 _ rfl
                have KX_2 := KX.c 2 _ rfl
                have KX_3 := KX.c 3 _ rfl
                have KY_0 := KY.c 0 _ rfl
                have KY_1 := KY.c 1 _ rfl
                have KY_2 := KY.c 2 _ rfl
                have KY_3 := KY.c 3 _ rfl
                have KZ_0 := KZ.c 0 _ rfl
                have KZ_1 := KZ.c 1 _ rfl
                have KZ_2 := KZ.c 2 _ rfl
                have KZ_3 := KZ.c 3 _ rfl
                have Kpa_0 := Kpa.c 0 _ rfl
                have Kpa_1 := Kpa.c 1 _ rfl
                have Kpa_2 := Kpa.c 2 _ rfl
                have Kpa_3 := Kpa.c 3 _ rfl
                have Kpc_0 := Kpc.c 0 _ rfl
                have Kpc_1 := Kpc.c 1 _ rfl
                have Kpc_2 := Kpc.c 2 _ rfl
                have Kpc_3 := Kpc.c 3 _ rfl
                have Kpe_0 := Kpe.c 0 _ rfl
                have Kpe_1 := Kpe.c 1 _ rfl
                have Kpe_2 := Kpe.c 2 _ rfl
                have Kpe_3 := Kpe.c 3 _ rfl
                have Kpf_0 := Kpf.c 0 _ rfl
                have Kpf_1 := Kpf.c 1 _ rfl
                have Kpf_2 := Kpf.c 2 _ rfl
                have Kpf_3 := Kpf.c 3 _ rfl
                have Kpg_0 := Kpg.c 0 _ rfl
                have Kpg_1 := Kpg.c 1 _ rfl
                have Kpg_2 := Kpg.c 2 _ rfl
                have Kpg_3 := Kpg.c 3 _ rfl
                have Kph_0 := Kph.c 0 _ rfl
                have Kph_1 := Kph.c 1 _ rfl
                have Kph_2 := Kph.c 2 _ rfl
                have Kph_3 := Kph.c 3 _ rfl
                go_wp2_with fail
                go_meet
                exact ⟨rfl, rfl, BW, KX, KY, KZ, Kpa, Kpc, L1, L2, L3, Rc, La⟩
              · clear Rg
                have KX_0 := KX.c 0 _ rfl
                have KX_1 := KX.c 1 _ rfl
                have KX_2 := KX.c 2 _ rfl
                have KX_3 := KX.c 3 _ rfl
                have KY_0 := KY.c 0 _ rfl
                have KY_1 := KY.c 1 _ rfl
                have KY_2 := KY.c 2 _ rfl
                have KY_3 := KY.c 3 _ rfl
                have KZ_0 := KZ.c 0 _ rfl
                have KZ_1 := KZ.c 1 _ rfl
                have KZ_2 := KZ.c 2 _ rfl
                have KZ_3 := KZ.c 3 _ rfl
                have Kpa_0 := Kpa.c 0 _ rfl
                have Kpa_1 := Kpa.c 1 _ rfl
                have Kpa_2 := Kpa.c 2 _ rfl
                have Kpa_3 := Kpa.c 3 _ rfl
                have Kpc_0 := Kpc.c 0 _ rfl
                have Kpc_1 := Kpc.c 1 _ rfl
                have Kpc_2 := Kpc.c 2 _ rfl
                have Kpc_3 := Kpc.c 3 _ rfl
                have Kpe_0 := Kpe.c 0 _ rfl
                have Kpe_1 := Kpe.c 1 _ rfl
                have Kpe_2 := Kpe.c 2 _ rfl
                have Kpe_3 := Kpe.c 3 _ rfl
                have Kpf_0 := Kpf.c 0 _ rfl
                have Kpf_1 := Kpf.c 1 _ rfl
                have Kpf_2 := Kpf.c 2 _ rfl
                have Kpf_3 := Kpf.c 3 _ rfl
                have Kpg_0 := Kpg.c 0 _ rfl
                have Kpg_1 := Kpg.c 1 _ rfl
                have Kpg_2 := Kpg.c 2 _ rfl
                have Kpg_3 := Kpg.c 3 _ rfl
                have Kph_0 := Kph.c 0 _ rfl
                have Kph_1 := Kph.c 1 _ rfl
                have Kph_2 := Kph.c 2 _ rfl
                have Kph_3 := Kph.c 3 _ rfl
                go_wp2_with fail
                clear KX_0 KX_1 KX_2 KX_3 KY_0 KY_1 KY_2 KY_3 KZ_0 KZ_1 KZ_2 KZ_3 Kpa_0 Kpa_1 Kpa_2 Kpa_3 Kpc_0 Kpc_1 Kpc_2 Kpc_3 Kpe_0 Kpe_1 Kpe_2 Kpe_3 Kpf_0 Kpf_1 Kpf_2 Kpf_3 Kpg_0 Kpg_1 Kpg_2 Kpg_3 Kph_0 Kph_1 Kph_2 Kph_3
                refine (like_rk q _ _ _ _ _ _ _ _ _ _ _ _ _ _ _ _ _ _ _ Rh L1.rk).mono ?_
                rintro _ w13 ⟨rfl, hb⟩
                replace KX := KX.on hb
                replace KY := KY.on hb
                replace KZ := KZ.on hb
                replace Kpa := Kpa.on hb
                replace Kpc := Kpc.on hb
                replace Kpe := Kpe.on hb
                replace Kpf := Kpf.on hb
                replace Kpg := Kpg.on hb
                replace Kph := Kph.on hb
                replace L1 := L1.on hb
                replace L2 := L2.on hb
                replace L3 := L3.on hb
                replace Rc := Rc.on hb
                replace La := La.on hb
                replace Re := Re.on hb
                replace Rf := Rf.on hb
                replace Rh := Rh.on hb
                replace BW := BW.trans (hb.mono BW.size)
                clear hb
                have KX_0 := KX.c 0 _ rfl
                have KX_1 := KX.c 1 _ rfl
                have KX_2 := KX.c 2 _ rfl
                have KX_3 := KX.c 3 _ rfl
                have KY_0 := KY.c 0 _ rfl
                have KY_1 := KY.c 1 _ rfl
                have KY_2 := KY.c 2 _ rfl
                have KY_3 := KY.c 3 _ rfl
                have KZ_0 := KZ.c 0 _ rfl
                have KZ_1 := KZ.c 1 _ rfl
                have KZ_2 := KZ.c 2 _ rfl
                have KZ_3 := KZ.c 3 _ rfl
                have Kpa_0 := Kpa.c 0 _ rfl
                have Kpa_1 := Kpa.c 1 _ rfl
                have Kpa_2 := Kpa.c 2 _ rfl
                have Kpa_3 := Kpa.c 3 _ rfl
                have Kpc_0 := Kpc.c 0 _ rfl
                have Kpc_1 := Kpc.c 1 _ rfl
                have Kpc_2 := Kpc.c 2 _ rfl
                have Kpc_3 := Kpc.c 3 _ rfl
                have Kpe_0 := Kpe.c 0 _ rfl
                have Kpe_1 := Kpe.c 1 _ rfl
                have Kpe_2 := Kpe.c 2 _ rfl
                have Kpe_3 := Kpe.c 3 _ rfl
                have Kpf_0 := Kpf.c 0 _ rfl
                have Kpf_1 := Kpf.c 1 _ rfl
                have Kpf_2 := Kpf.c 2 _ rfl
                have Kpf_3 := Kpf.c 3 _ rfl
                have Kpg_0 := Kpg.c 0 _ rfl
                have Kpg_1 := Kpg.c 1 _ rfl
                have Kpg_2 := Kpg.c 2 _ rfl
                have Kpg_3 := Kpg.c 3 _ rfl
                have Kph_0 := Kph.c 0 _ rfl
                have Kph_1 := Kph.c 1 _ rfl
                have Kph_2 := Kph.c 2 _ rfl
                have Kph_3 := Kph.c 3 _ rfl
                go_wp2_with fail
                go_meet
                exact ⟨rfl, rfl, BW, KX, KY, KZ, Kpa, Kpc, L1, L2, L3, Rc, La⟩
          case rest =>
            as_aux_lemma =>
              obtain ⟨rfl, rfl, BW, KX, KY, KZ, Kpa, Kpc, L1, L2, L3, Rc, La⟩ := hcut
              have KX_0 := KX.c 0 _ rfl
              have KX_1 := KX.c 1 _ rfl
              have KX_2 := KX.c 2 _ rfl
              have KX_3 := KX.c 3 _ rfl
              have KY_0 := KY.c 0 _ rfl
              have KY_1 := KY.c 1 _ rfl
              have KY_2 := KY.c 2 _ rfl
              have KY_3 := KY.c 3 _ rfl
              have KZ_0 := KZ.c 0 _ rfl
              have KZ_1 := KZ.c 1 _ rfl
              have KZ_2 := KZ.c 2 _ rfl
              have KZ_3 := KZ.c 3 _ rfl
              have Kpa_0 := Kpa.c 0 _ rfl
              have Kpa_1 := Kpa.c 1 _ rfl
              have Kpa_2 := Kpa.c 2 _ rfl
              have Kpa_3 := Kpa.c 3 _ rfl
              have Kpc_0 := Kpc.c 0 _ rfl
              have Kpc_1 := Kpc.c 1 _ rfl
              have Kpc_2 := Kpc.c 2 _ rfl
              have Kpc_3 := Kpc.c 3 _ rfl
              go_wp2_with fail
              clear KX_0 KX_1 KX_2 KX_3 KY_0 KY_1 KY_2 KY_3 KZ_0 KZ_1 KZ_2 KZ_3 Kpa_0 Kpa_1 Kpa_2 Kpa_3 Kpc_0 Kpc_1 Kpc_2 Kpc_3
              refine (frac_mul (q + p) s _ _ _ _ _ _ _ _ _ _ _ _ _ _ _ La L3).mono ?_
              rintro _ w20 ⟨pmn, pmA, pmz, pmk, pmm, pmB, pmd, pml, pme, rfl, Rm, hb⟩
              replace KX := KX.on hb
              replace KY := KY.on hb
              replace KZ := KZ.on hb
              replace Kpa := Kpa.on hb
              replace Kpc := Kpc.on hb
              replace L1 := L1.on hb
              replace L2 := L2.on hb
              replace L3 := L3.on hb
              replace Rc := Rc.on hb
              replace La := La.on hb
              replace BW := BW.trans (hb.mono BW.size)
              clear hb
              have hb : Below w20.heap.size w20 (w20.alloc (.cells #[.bool pmn, .slice pmA pmz.length pmk, .bool pmm, .slice pmB pmd.length pml] 26)) := by go_grown
              have Kpm := Box.new w20 [.bool pmn, .slice pmA pmz.length pmk, .bool pmm, .slice pmB pmd.length pml] 26
              replace KX := KX.on hb
              replace KY := KY.on hb
              replace KZ := KZ.on hb
              replace Kpa := Kpa.on hb
              replace Kpc := Kpc.on hb
              replace L1 := L1.on hb
              replace L2 := L2.on hb
              replace L3 := L3.on hb
              replace Rc := Rc.on hb
              replace La := La.on hb
              replace Rm := Rm.on hb
              replace BW := BW.trans (hb.mono BW.size)
              clear hb
              have KX_0 := KX.c 0 _ rfl
              have KX_1 := KX.c 1 _ rfl
              have KX_2 := KX.c 2 _ rfl
              have KX_3 := KX.c 3 _ rfl
              have KY_0 := KY.c 0 _ rfl
              have KY_1 := KY.c 1 _ rfl
              have KY_2 := KY.c 2 _ rfl
              have KY_3 := KY.c 3 _ rfl
              have KZ_0 := KZ.c 0 _ rfl
              have KZ_1 := KZ.c 1 _ rfl
              have KZ_2 := KZ.c 2 _ rfl
              have KZ_3 := KZ.c 3 _ rfl
              have Kpa_0 := Kpa.c 0 _ rfl
              have Kpa_1 := Kpa.c 1 _ rfl
              have Kpa_2 := Kpa.c 2 _ rfl
              have Kpa_3 := Kpa.c 3 _ rfl
              have Kpc_0 := Kpc.c 0 _ rfl
              have Kpc_1 := Kpc.c 1 _ rfl
              have Kpc_2 := Kpc.c 2 _ rfl
              have Kpc_3 := Kpc.c 3 _ rfl
              have Kpm_0 := Kpm.c 0 _ rfl
              have Kpm_1 := Kpm.c 1 _ rfl
              have Kpm_2 := Kpm.c 2 _ rfl
              have Kpm_3 := Kpm.c 3 _ rfl
              go_wp2_with fail
              clear KX_0 KX_1 KX_2 KX_3 KY_0 KY_1 KY_2 KY_3 KZ_0 KZ_1 KZ_2 KZ_3 Kpa_0 Kpa_1 Kpa_2 Kpa_3 Kpc_0 Kpc_1 Kpc_2 Kpc_3 Kpm_0 Kpm_1 Kpm_2 Kpm_3
              generalize (w20.alloc (.cells #[.bool pmn, .slice pmA pmz.length pmk, .bool pmm, .slice pmB pmd.length pml] 26)) = Vpm at *
              generalize w20.heap.size = bpm at *
              refine (frac_mul q s _ _ _ _ _ _ _ _ _ _ _ _ _ _ _ L1 L3).mono ?_
              rintro _ w21 ⟨pnn, pnA, pnz, pnk, pnm, pnB, pnd, pnl, pne, rfl, Rn, hb⟩
              replace KX := KX.on hb
              replace KY := KY.on hb
              replace KZ := KZ.on hb
              replace Kpa := Kpa.on hb
              replace Kpc := Kpc.on hb
              replace Kpm := Kpm.on hb
              replace L1 := L1.on hb
              replace L2 := L2.on hb
              replace L3 := L3.on hb
              replace Rc := Rc.on hb
              replace La := La.on hb
              replace Rm := Rm.on hb
              replace BW := BW.trans (hb.mono BW.size)
              clear hb
              have hb : Below w21.heap.size w21 (w21.alloc (.cells #[.bool pnn, .slice pnA pnz.length pnk, .bool pnm, .slice pnB pnd.length pnl] 26)) := by go_grown
              have Kpn := Box.new w21 [.bool pnn, .slice pnA pnz.length pnk, .bool pnm, .slice pnB pnd.length pnl] 26
              replace KX := KX.on hb
              replace KY := KY.on hb
              replace KZ := KZ.on hb
              replace Kpa := Kpa.on hb
              replace Kpc := Kpc.on hb
              replace Kpm := Kpm.on hb
              replace L1 := L1.on hb
              replace L2 := L2.on hb
              replace L3 := L3.on hb
              replace Rc := Rc.on hb
              replace La := La.on hb
              replace Rm := Rm.on hb
              replace Rn := Rn.on hb
              replace BW := BW.trans (hb.mono BW.size)
              clear hb
              have KX_0 := KX.c 0 _ rfl
              have KX_1 := KX.c 1 _ rfl
              have KX_2 := KX.c 2 _ rfl
              have KX_3 := KX.c 3 _ rfl
              have KY_0 := KY.c 0 _ rfl
              have KY_1 := KY.c 1 _ rfl
              have KY_2 := KY.c 2 _ rfl
              have KY_3 := KY.c 3 _ rfl
              have KZ_0 := KZ.c 0 _ rfl
              have KZ_1 := KZ.c 1 _ rfl
              have KZ_2 := KZ.c 2 _ rfl
              have KZ_3 := KZ.c 3 _ rfl
              have Kpa_0 := Kpa.c 0 _ rfl
              have Kpa_1 := Kpa.c 1 _ rfl
              have Kpa_2 := Kpa.c 2 _ rfl
              have Kpa_3 := Kpa.c 3 _ rfl
              have Kpc_0 := Kpc.c 0 _ rfl
              have Kpc_1 := Kpc.c 1 _ rfl
              have Kpc_2 := Kpc.c 2 _ rfl
              have Kpc_3 := Kpc.c 3 _ rfl
              have Kpm_0 := Kpm.c 0 _ rfl
              have Kpm_1 := Kpm.c 1 _ rfl
              have Kpm_2 := Kpm.c 2 _ rfl
              have Kpm_3 := Kpm.c 3 _ rfl
              have Kpn_0 := Kpn.c 0 _ rfl
              have Kpn_1 := Kpn.c 1 _ rfl
              have Kpn_2 := Kpn.c 2 _ rfl
              have Kpn_3 := Kpn.c 3 _ rfl
              go_wp2_with fail
              clear KX_0 KX_1 KX_2 KX_3 KY_0 KY_1 KY_2 KY_3 KZ_0 KZ_1 KZ_2 KZ_3 Kpa_0 Kpa_1 Kpa_2 Kpa_3 Kpc_0 Kpc_1 Kpc_2 Kpc_3 Kpm_0 Kpm_1 Kpm_2 Kpm_3 Kpn_0 Kpn_1 Kpn_2 Kpn_3
              generalize (w21.alloc (.cells #[.bool pnn, .slice pnA pnz.length pnk, .bool pnm, .slice pnB pnd.length pnl] 26)) = Vpn at *
              generalize w21.heap.size = bpn at *
              refine (frac_mul p s _ _ _ _ _ _ _ _ _ _ _ _ _ _ _ L2 L3).mono ?_
              rintro _ w22 ⟨pon, poA, poz, pok, pom, poB, pod, pol, poe, rfl, Ro, hb⟩
              replace KX := KX.on hb
              replace KY := KY.on hb
              replace KZ := KZ.on hb
              replace Kpa := Kpa.on hb
              replace Kpc := Kpc.on hb
              replace Kpm := Kpm.on hb
              replace Kpn := Kpn.on hb
              replace L1 := L1.on hb
              replace L2 := L2.on hb
              replace L3 := L3.on hb
              replace Rc := Rc.on hb
              replace La := La.on hb
              replace Rm := Rm.on hb
              replace Rn := Rn.on hb
              replace BW := BW.trans (hb.mono BW.size)
              clear hb
              have hb : Below w22.heap.size w22 (w22.alloc (.cells #[.bool pon, .slice poA poz.length pok, .bool pom, .slice poB pod.length pol] 26)) := by go_grown
              have Kpo := Box.new w22 [.bool pon, .slice poA poz.length pok, .bool pom, .slice poB pod.length pol] 26
              replace KX := KX.on hb
              replace KY := KY.on hb
              replace KZ := KZ.on hb
              replace Kpa := Kpa.on hb
              replace Kpc := Kpc.on hb
              replace Kpm := Kpm.on hb
              replace Kpn := Kpn.on hb
              replace L1 := L1.on hb
              replace L2 := L2.on hb
              replace L3 := L3.on hb
              replace Rc := Rc.on hb
              replace La := La.on hb
              replace Rm := Rm.on hb
              replace Rn := Rn.on hb
              replace Ro := Ro.on hb
              replace BW := BW.trans (hb.mono BW.size)
              clear hb
              have KX_0 := KX.c 0 _ rfl
              have KX_1 := KX.c 1 _ rfl
              have KX_2 := KX.c 2 _ rfl
              have KX_3 := KX.c 3 _ rfl
              have KY_0 := KY.c 0 _ rfl
              have KY_1 := KY.c 1 _ rfl
              have KY_2 := KY.c 2 _ rfl
              have KY_3 := KY.c 3 _ rfl
              have KZ_0 := KZ.c 0 _ rfl
              have KZ_1 := KZ.c 1 _ rfl
              have KZ_2 := KZ.c 2 _ rfl
              have KZ_3 := KZ.c 3 _ rfl
              have Kpa_0 := Kpa.c 0 _ rfl
              have Kpa_1 := Kpa.c 1 _ rfl
              have Kpa_2 := Kpa.c 2 _ rfl
              have Kpa_3 := Kpa.c 3 _ rfl
              have Kpc_0 := Kpc.c 0 _ rfl
              have Kpc_1 := Kpc.c 1 _ rfl
              have Kpc_2 := Kpc.c 2 _ rfl
              have Kpc_3 := Kpc.c 3 _ rfl
              have Kpm_0 := Kpm.c 0 _ rfl
              have Kpm_1 := Kpm.c 1 _ rfl
              have Kpm_2 := Kpm.c 2 _ rfl
              have Kpm_3 := Kpm.c 3 _ rfl
              have Kpn_0 := Kpn.c 0 _ rfl
              have Kpn_1 := Kpn.c 1 _ rfl
              have Kpn_2 := Kpn.c 2 _ rfl
              have Kpn_3 := Kpn.c 3 _ rfl
              have Kpo_0 := Kpo.c 0 _ rfl
              have Kpo_1 := Kpo.c 1 _ rfl
              have Kpo_2 := Kpo.c 2 _ rfl
              have Kpo_3 := Kpo.c 3 _ rfl
              go_upto_region 19 with fail
              clear KX_0 KX_1 KX_2 KX_3 KY_0 KY_1 KY_2 KY_3 KZ_0 KZ_1 KZ_2 KZ_3 Kpa_0 Kpa_1 Kpa_2 Kpa_3 Kpc_0 Kpc_1 Kpc_2 Kpc_3 Kpm_0 Kpm_1 Kpm_2 Kpm_3 Kpn_0 Kpn_1 Kpn_2 Kpn_3 Kpo_0 Kpo_1 Kpo_2 Kpo_3
              generalize (w22.alloc (.cells #[.bool pon, .slice poA poz.length pok, .bool pom, .slice poB pod.length pol] 26)) = Vpo at *
              generalize w22.heap.size = bpo at *
              by_cases hn : pne = 0
              · by_cases ho : poe = 0
                · obtain ⟨rfl, Ln⟩ := Rn.lf hn
                  obtain ⟨rfl, Lo⟩ := Ro.lf ho
                  subst hn
                  subst ho
                  clear Rn Ro
                  have KX_0 := KX.c 0 _ rfl
                  have KX_1 := KX.c 1 _ rfl
                  have KX_2 := KX.c 2 _ rfl
                  have KX_3 := KX.c 3 _ rfl
                  have KY_0 := KY.c 0 _ rfl
                  have KY_1 := KY.c 1 _ rfl
                  have KY_2 := KY.c 2 _ rfl
                  have KY_3 := KY.c 3 _ rfl
                  have KZ_0 := KZ.c 0 _ rfl
                  have KZ_1 := KZ.c 1 _ rfl
                  have KZ_2 := KZ.c 2 _ rfl
                  have KZ_3 := KZ.c 3 _ rfl
                  have Kpa_0 := Kpa.c 0 _ rfl
                  have Kpa_1 := Kpa.c 1 _ rfl
                  have Kpa_2 := Kpa.c 2 _ rfl
                  have Kpa_3 := Kpa.c 3 _ rfl
                  have Kpc_0 := Kpc.c 0 _ rfl
                  have Kpc_1 := Kpc.c 1 _ rfl
                  have Kpc_2 := Kpc.c 2 _ rfl
                  have Kpc_3 := Kpc.c 3 _ rfl
                  have Kpm_0 := Kpm.c 0 _ rfl
                  have Kpm_1 := Kpm.c 1 _ rfl
                  have Kpm_2 := Kpm.c 2 _ rfl
                  have Kpm_3 := Kpm.c 3 _ rfl
                  have Kpn_0 := Kpn.c 0 _ rfl
                  have Kpn_1 := Kpn.c 1 _ rfl
                  have Kpn_2 := Kpn.c 2 _ rfl
                  have Kpn_3 := Kpn.c 3 _ rfl
                  have Kpo_0 := Kpo.c 0 _ rfl
                  have Kpo_1 := Kpo.c 1 _ rfl
                  have Kpo_2 := Kpo.c 2 _ rfl
                  have Kpo_3 := Kpo.c 3 _ rfl
                  go_wp2_with fail
                  clear KX_0 KX_1 KX_2 KX_3 KY_0 KY_1 KY_2 KY_3 KZ_0 KZ_1 KZ_2 KZ_3 Kpa_0 Kpa_1 Kpa_2 Kpa_3 Kpc_0 Kpc_1 Kpc_2 Kpc_3 Kpm_0 Kpm_1 Kpm_2 Kpm_3 Kpn_0 Kpn_1 Kpn_2 Kpn_3 Kpo_0 Kpo_1 Kpo_2 Kpo_3
                  refine (frac_add (q * s) (p * s) _ _ _ _ _ _ _ _ _ _ _ _ _ _ _ Ln Lo).mono ?_
                  rintro _ w23 ⟨psn, psA, psz, psk, psm, psB, psd, psl, pse, rfl, Rs, hb⟩
                  replace KX := KX.on hb
                  replace KY := KY.on hb
                  replace KZ := KZ.on hb
                  replace Kpa := Kpa.on hb
                  replace Kpc := Kpc.on hb
                  replace Kpm := Kpm.on hb
                  replace Kpn := Kpn.on hb
                  replace Kpo := Kpo.on hb
                  replace L1 := L1.on hb
                  replace L2 := L2.on hb
                  replace L3 := L3.on hb
                  replace Rc := Rc.on hb
                  replace La := La.on hb
                  replace Rm := Rm.on hb
                  replace Ln := Ln.on hb
                  replace Lo := Lo.on hb
                  replace BW := BW.trans (hb.mono BW.size)
                  clear hb
                  replace Rs := Rs.to (rat_parts q p s)
                  have hs := Rm.er_eq Rs
                  subst hs
                  have hb : Below w23.heap.size w23 (w23.alloc (.cells #[.bool psn, .slice psA psz.length psk, .bool psm, .slice psB psd.length psl] 26)) := by go_grown
                  have Kps := Box.new w23 [.bool psn, .slice psA psz.length psk, .bool psm, .slice psB psd.length psl] 26
                  replace KX := KX.on hb
                  replace KY := KY.on hb
                  replace KZ := KZ.on hb
                  replace Kpa := Kpa.on hb
                  replace Kpc := Kpc.on hb
                  replace Kpm := Kpm.on hb
                  replace Kpn := Kpn.on hb
                  replace Kpo := Kpo.on hb
                  replace L1 := L1.on hb
                  replace L2 := L2.on hb
                  replace L3 := L3.on hb
                  replace Rc := Rc.on hb
                  replace La := La.on hb
                  replace Rm := Rm.on hb
                  replace Ln := Ln.on hb
                  replace Lo := Lo.on hb
                  replace Rs := Rs.on hb
                  replace BW := BW.trans (hb.mono BW.size)
                  clear hb
                  have KX_0 := KX.c 0 _ rfl
                  have KX_1 := KX.c 1 _ rfl
                  have KX_2 := KX.c 2 _ rfl
                  have KX_3 := KX.c 3 _ rfl
                  have KY_0 := KY.c 0 _ rfl
                  have KY_1 := KY.c 1 _ rfl
                  have KY_2 := KY.c 2 _ rfl
                  have KY_3 := KY.c 3 _ rfl
                  have KZ_0 := KZ.c 0 _ rfl
                  have KZ_1 := KZ.c 1 _ rfl
                  have KZ_2 := KZ.c 2 _ rfl
                  have KZ_3 := KZ.c 3 _ rfl
                  have Kpa_0 := Kpa.c 0 _ rfl
                  have Kpa_1 := Kpa.c 1 _ rfl
                  have Kpa_2 := Kpa.c 2 _ rfl
                  have Kpa_3 := Kpa.c 3 _ rfl
                  have Kpc_0 := Kpc.c 0 _ rfl
                  have Kpc_1 := Kpc.c 1 _ rfl
                  have Kpc_2 := Kpc.c 2 _ rfl
                  have Kpc_3 := Kpc.c 3 _ rfl
                  have Kpm_0 := Kpm.c 0 _ rfl
                  have Kpm_1 := Kpm.c 1 _ rfl
                  have Kpm_2 := Kpm.c 2 _ rfl
                  have Kpm_3 := Kpm.c 3 _ rfl
                  have Kpn_0 := Kpn.c 0 _ rfl
                  have Kpn_1 := Kpn.c 1 _ rfl
                  have Kpn_2 := Kpn.c 2 _ rfl
                  have Kpn_3 := Kpn.c 3 _ rfl
                  have Kpo_0 := Kpo.c 0 _ rfl
                  have Kpo_1 := Kpo.c 1 _ rfl
                  have Kpo_2 := Kpo.c 2 _ rfl
                  have Kpo_3 := Kpo.c 3 _ rfl
                  have Kps_0 := Kps.c 0 _ rfl
                  have Kps_1 := Kps.c 1 _ rfl
                  have Kps_2 := Kps.c 2 _ rfl
                  have Kps_3 := Kps.c 3 _ rfl
                  go_wp2_with fail
                  clear KX_0 KX_1 KX_2 KX_3 KY_0 KY_1 KY_2 KY_3 KZ_0 KZ_1 KZ_2 KZ_3 Kpa_0 Kpa_1 Kpa_2 Kpa_3 Kpc_0 Kpc_1 Kpc_2 Kpc_3 Kpm_0 Kpm_1 Kpm_2 Kpm_3 Kpn_0 Kpn_1 Kpn_2 Kpn_3 Kpo_0 Kpo_1 Kpo_2 Kpo_3 Kps_0 Kps_1 Kps_2 Kps_3
                  generalize (w23.alloc (.cells #[.bool psn, .slice psA psz.length psk, .bool psm, .slice psB psd.length psl] 26)) = Vps at *
                  generalize w23.heap.size = bps at *
                  refine (like_rk ((q + p) * s) _ _ _ _ _ _ _ _ _ _ _ _ _ _ _ _ _ _ _ Rm Rs).mono ?_
                  rintro _ w24 ⟨rfl, hb⟩
                  replace KX := KX.on hb
                  replace KY := KY.on hb
                  replace KZ := KZ.on hb
                  replace Kpa := Kpa.on hb
                  replace Kpc := Kpc.on hb
                  replace Kpm := Kpm.on hb
                  replace Kpn := Kpn.on hb
                  replace Kpo := Kpo.on hb
                  replace Kps := Kps.on hb
                  replace L1 := L1.on hb
                  replace L2 := L2.on hb
                  replace L3 := L3.on hb
                  replace Rc := Rc.on hb
                  replace La := La.on hb
                  replace Rm := Rm.on hb
                  replace Ln := Ln.on hb
                  replace Lo := Lo.on hb
                  replace Rs := Rs.on hb
                  replace BW := BW.trans (hb.mono BW.size)
                  clear hb
                  have KX_0 := KX.c 0 _ rfl
                  have KX_1 := KX.c 1 _ rfl
                  have KX_2 := KX.c 2 _ rfl
                  have KX_3 := KX.c 3 _ rfl
                  have KY_0 := KY.c 0 _ rfl
                  have KY_1 := KY.c 1 _ rfl
                  have KY_2 := KY.c 2 _ rfl
                  have KY_3 := KY.c 3 _ rfl
                  have KZ_0 := KZ.c 0 _ rfl
                  have KZ_1 := KZ.c 1 _ rfl
                  have KZ_2 := KZ.c 2 _ rfl
                  have KZ_3 := KZ.c 3 _ rfl
                  have Kpa_0 := Kpa.c 0 _ rfl
                  have Kpa_1 := Kpa.c 1 _ rfl
                  have Kpa_2 := Kpa.c 2 _ rfl
                  have Kpa_3 := Kpa.c 3 _ rfl
                  have Kpc_0 := Kpc.c 0 _ rfl
                  have Kpc_1 := Kpc.c 1 _ rfl
                  have Kpc_2 := Kpc.c 2 _ rfl
                  have Kpc_3 := Kpc.c 3 _ rfl
                  have Kpm_0 := Kpm.c 0 _ rfl
                  have Kpm_1 := Kpm.c 1 _ rfl
                  have Kpm_2 := Kpm.c 2 _ rfl
                  have Kpm_3 := Kpm.c 3 _ rfl
                  have Kpn_0 := Kpn.c 0 _ rfl
                  have Kpn_1 := Kpn.c 1 _ rfl
                  have Kpn_2 := Kpn.c 2 _ rfl
                  have Kpn_3 := Kpn.c 3 _ rfl
                  have Kpo_0 := Kpo.c 0 _ rfl
                  have Kpo_1 := Kpo.c 1 _ rfl
                  have Kpo_2 := Kpo.c 2 _ rfl
                  have Kpo_3 := Kpo.c 3 _ rfl
                  have Kps_0 := Kps.c 0 _ rfl
                  have Kps_1 := Kps.c 1 _ rfl
                  have Kps_2 := Kps.c 2 _ rfl
                  have Kps_3 := Kps.c 3 _ rfl
                  go_wp2_with fail
                  go_meet
                  exact ⟨rfl, BW, KX, KY, KZ, Kpc, L1, L2, L3, Rc⟩
                · have KX_0 := KX.c 0 _ rfl
                  have KX_1 := KX.c 1 _ rfl
                  have KX_2 := KX.c 2 _ rfl
                  have KX_3 := KX.c 3 _ rfl
                  have KY_0 := KY.c 0 _ rfl
                  have KY_1 := KY.c 1 _ rfl
                  have KY_2 := KY.c 2 _ rfl
                  have KY_3 := KY.c 3 _ rfl
                  have KZ_0 := KZ.c 0 _ rfl
                  have KZ_1 := KZ.c 1 _ rfl
                  have KZ_2 := KZ.c 2 _ rfl
                  have KZ_3 := KZ.c 3 _ rfl
                  have Kpa_0 := Kpa.c 0 _ rfl
                  have Kpa_1 := Kpa.c 1 _ rfl
                  have Kpa_2 := Kpa.c 2 _ rfl
                  have Kpa_3 := Kpa.c 3 _ rfl
                  have Kpc_0 := Kpc.c 0 _ rfl
                  have Kpc_1 := Kpc.c 1 _ rfl
                  have Kpc_2 := Kpc.c 2 _ rfl
                  have Kpc_3 := Kpc.c 3 _ rfl
                  have Kpm_0 := Kpm.c 0 _ rfl
                  have Kpm_1 := Kpm.c 1 _ rfl
                  have Kpm_2 := Kpm.c 2 _ rfl
                  have Kpm_3 := Kpm.c 3 _ rfl
                  have Kpn_0 := Kpn.c 0 _ rfl
                  have Kpn_1 := Kpn.c 1 _ rfl
                  have Kpn_2 := Kpn.c 2 _ rfl
                  have Kpn_3 := Kpn.c 3 _ rfl
                  have Kpo_0 := Kpo.c 0 _ rfl
                  have Kpo_1 := Kpo.c 1 _ rfl
                  have Kpo_2 := Kpo.c 2 _ rfl
                  have Kpo_3 := Kpo.c 3 _ rfl
                  go_wp2_with fail
                  go_meet
                  exact ⟨rfl, BW, KX, KY, KZ, Kpc, L1, L2, L3, Rc⟩
              · have KX_0 := KX.c 0 _ rfl
                have KX_1 := KX.c 1 _ rfl
                have KX_2 := KX.c 2 _ rfl
                have KX_3 := KX.c 3 _ rfl
                have KY_0 := KY.c 0 _ rfl
                have KY_1 := KY.c 1 _ rfl
                have KY_2 := KY.c 2 _ rfl
                have KY_3 := KY.c 3 _ rfl
                have KZ_0 := KZ.c 0 _ rfl
                have KZ_1 := KZ.c 1 _ rfl
                have KZ_2 := KZ.c 2 _ rfl
                have KZ_3 := KZ.c 3 _ rfl
                have Kpa_0 := Kpa.c 0 _ rfl
                have Kpa_1 := Kpa.c 1 _ rfl
                have Kpa_2 := Kpa.c 2 _ rfl
                have Kpa_3 := Kpa.c 3 _ rfl
                have Kpc_0 := Kpc.c 0 _ rfl
                have Kpc_1 := Kpc.c 1 _ rfl
                have Kpc_2 := Kpc.c 2 _ rfl
                have Kpc_3 := Kpc.c 3 _ rfl
                have Kpm_0 := Kpm.c 0 _ rfl
                have Kpm_1 := Kpm.c 1 _ rfl
                have Kpm_2 := Kpm.c 2 _ rfl
                have Kpm_3 := Kpm.c 3 _ rfl
                have Kpn_0 := Kpn.c 0 _ rfl
                have Kpn_1 := Kpn.c 1 _ rfl
                have Kpn_2 := Kpn.c 2 _ rfl
                have Kpn_3 := Kpn.c 3 _ rfl
                have Kpo_0 := Kpo.c 0 _ rfl
                have Kpo_1 := Kpo.c 1 _ rfl
                have Kpo_2 := Kpo.c 2 _ rfl
                have Kpo_3 := Kpo.c 3 _ rfl
                go_wp2_with fail
                go_meet
                exact ⟨rfl, BW, KX, KY, KZ, Kpc, L1, L2, L3, Rc⟩
        · have KX_0 := KX.c 0 _ rfl
          have KX_1 := KX.c 1 _ rfl
          have KX_2 := KX.c 2 _ rfl
          have KX_3 := KX.c 3 _ rfl
          have KY_0 := KY.c 0 _ rfl
          have KY_1 := KY.c 1 _ rfl
          have KY_2 := KY.c 2 _ rfl
          have KY_3 := KY.c 3 _ rfl
          have KZ_0 := KZ.c 0 _ rfl
          have KZ_1 := KZ.c 1 _ rfl
          have KZ_2 := KZ.c 2 _ rfl
          have KZ_3 := KZ.c 3 _ rfl
          have Kpa_0 := Kpa.c 0 _ rfl
          have Kpa_1 := Kpa.c 1 _ rfl
          have Kpa_2 := Kpa.c 2 _ rfl
          have Kpa_3 := Kpa.c 3 _ rfl
          have Kpb_0 := Kpb.c 0 _ rfl
          have Kpb_1 := Kpb.c 1 _ rfl
          have Kpb_2 := Kpb.c 2 _ rfl
          have Kpb_3 := Kpb.c 3 _ rfl
          have Kpc_0 := Kpc.c 0 _ rfl
          have Kpc_1 := Kpc.c 1 _ rfl
          have Kpc_2 := Kpc.c 2 _ rfl
          have Kpc_3 := Kpc.c 3 _ rfl
          have Kpd_0 := Kpd.c 0 _ rfl
          have Kpd_1 := Kpd.c 1 _ rfl
          have Kpd_2 := Kpd.c 2 _ rfl
          have Kpd_3 := Kpd.c 3 _ rfl
          go_wp2_with fail
          go_meet
          exact ⟨rfl, BW, KX, KY, KZ, Kpc, L1, L2, L3, Rc⟩
      case rest =>
        obtain ⟨rfl, BW, KX, KY, KZ, Kpc, L1, L2, L3, Rc⟩ := hcut
        by_cases hg : pce = 0
        · obtain ⟨rfl, Lc⟩ := Rc.lf hg
          subst hg
          clear Rc
          have KX_0 := KX.c 0 _ rfl
          have KX_1 := KX.c 1 _ rfl
          have KX_2 := KX.c 2 _ rfl
          have KX_3 := KX.c 3 _ rfl
          have KY_0 := KY.c 0 _ rfl
          have KY_1 := KY.c 1 _ rfl
          have KY_2 := KY.c 2 _ rfl
          have KY_3 := KY.c 3 _ rfl
          have KZ_0 := KZ.c 0 _ rfl
          have KZ_1 := KZ.c 1 _ rfl
          have KZ_2 := KZ.c 2 _ rfl
          have KZ_3 := KZ.c 3 _ rfl
          have Kpc_0 := Kpc.c 0 _ rfl
          have Kpc_1 := Kpc.c 1 _ rfl
          have Kpc_2 := Kpc.c 2 _ rfl
          have Kpc_3 := Kpc.c 3 _ rfl
          go_wp2_with fail
          clear KX_0 KX_1 KX_2 KX_3 KY_0 KY_1 KY_2 KY_3 KZ_0 KZ_1 KZ_2 KZ_3 Kpc_0 Kpc_1 Kpc_2 Kpc_3
          refine (frac_mul (q * p) s _ _ _ _ _ _ _ _ _ _ _ _ _ _ _ Lc L3).mono ?_
          rintro _ w30 ⟨pun, puA, puz, puk, pum, puB, pud, pul, pue, rfl, Ru, hb⟩
          replace KX := KX.on hb
          replace KY := KY.on hb
          replace KZ := KZ.on hb
          replace Kpc := Kpc.on hb
          replace L1 := L1.on hb
          replace L2 := L2.on hb
          replace L3 := L3.on hb
          replace Lc := Lc.on hb
          replace BW := BW.trans (hb.mono BW.size)
          clear hb
          have hb : Below w30.heap.size w30 (w30.alloc (.cells #[.bool pun, .slice puA puz.length puk, .bool pum, .slice puB pud.length pul] 26)) := by go_grown
          have Kpu := Box.new w30 [.bool pun, .slice puA puz.length puk, .bool pum, .slice puB pud.length pul] 26
          replace KX := KX.on hb
          replace KY := KY.on hb
          replace KZ := KZ.on hb
          replace Kpc := Kpc.on hb
          replace L1 := L1.on hb
          replace L2 := L2.on hb
          replace L3 := L3.on hb
          replace Lc := Lc.on hb
          replace Ru := Ru.on hb
          replace BW := BW.trans (hb.mono BW.size)
          clear hb
          have KX_0 := KX.c 0 _ rfl
          have KX_1 := KX.c 1 _ rfl
          have KX_2 := KX.c 2 _ rfl
          have KX_3 := KX.c 3 _ rfl
          have KY_0 := KY.c 0 _ rfl
          have KY_1 := KY.c 1 _ rfl
          have KY_2 := KY.c 2 _ rfl
          have KY_3 := KY.c 3 _ rfl
          have KZ_0 := KZ.c 0 _ rfl
          have KZ_1 := KZ.c 1 _ rfl
          have KZ_2 := KZ.c 2 _ rfl
          have KZ_3 := KZ.c 3 _ rfl
          have Kpc_0 := Kpc.c 0 _ rfl
          have Kpc_1 := Kpc.c 1 _ rfl
          have Kpc_2 := Kpc.c 2 _ rfl
          have Kpc_3 := Kpc.c 3 _ rfl
          have Kpu_0 := Kpu.c 0 _ rfl
          have Kpu_1 := Kpu.c 1 _ rfl
          have Kpu_2 := Kpu.c 2 _ rfl
          have Kpu_3 := Kpu.c 3 _ rfl
          go_wp2_with fail
          clear KX_0 KX_1 KX_2 KX_3 KY_0 KY_1 KY_2 KY_3 KZ_0 KZ_1 KZ_2 KZ_3 Kpc_0 Kpc_1 Kpc_2 Kpc_3 Kpu_0 Kpu_1 Kpu_2 Kpu_3
          generalize (w30.alloc (.cells #[.bool pun, .slice puA puz.length puk, .bool pum, .slice puB pud.length pul] 26)) = Vpu at *
          generalize w30.heap.size = bpu at *
          refine (frac_mul p s _ _ _ _ _ _ _ _ _ _ _ _ _ _ _ L2 L3).mono ?_
          rintro _ w31 ⟨pvn, pvA, pvz, pvk, pvm, pvB, pvd, pvl, pve, rfl, Rv, hb⟩
          replace KX := KX.on hb
          replace KY := KY.on hb
          replace KZ := KZ.on hb
          replace Kpc := Kpc.on hb
          replace Kpu := Kpu.on hb
          replace L1 := L1.on hb
          replace L2 := L2.on hb
          replace L3 := L3.on hb
          replace Lc := Lc.on hb
          replace Ru := Ru.on hb
          replace BW := BW.trans (hb.mono BW.size)
          clear hb
          have hb : Below w31.heap.size w31 (w31.alloc (.cells #[.bool pvn, .slice pvA pvz.length pvk, .bool pvm, .slice pvB pvd.length pvl] 26)) := by go_grown
          have Kpv := Box.new w31 [.bool pvn, .slice pvA pvz.length pvk, .bool pvm, .slice pvB pvd.length pvl] 26
          replace KX := KX.on hb
          replace KY := KY.on hb
          replace KZ := KZ.on hb
          replace Kpc := Kpc.on hb
          replace Kpu := Kpu.on hb
          replace L1 := L1.on hb
          replace L2 := L2.on hb
          replace L3 := L3.on hb
          replace Lc := Lc.on hb
          replace Ru := Ru.on hb
          replace Rv := Rv.on hb
          replace BW := BW.trans (hb.mono BW.size)
          clear hb
          have KX_0 := KX.c 0 _ rfl
          have KX_1 := KX.c 1 _ rfl
          have KX_2 := KX.c 2 _ rfl
          have KX_3 := KX.c 3 _ rfl
          have KY_0 := KY.c 0 _ rfl
          have KY_1 := KY.c 1 _ rfl
          have KY_2 := KY.c 2 _ rfl
          have KY_3 := KY.c 3 _ rfl
          have KZ_0 := KZ.c 0 _ rfl
          have KZ_1 := KZ.c 1 _ rfl
          have KZ_2 := KZ.c 2 _ rfl
          have KZ_3 := KZ.c 3 _ rfl
          have Kpc_0 := Kpc.c 0 _ rfl
          have Kpc_1 := Kpc.c 1 _ rfl
          have Kpc_2 := Kpc.c 2 _ rfl
          have Kpc_3 := Kpc.c 3 _ rfl
          have Kpu_0 := Kpu.c 0 _ rfl
          have Kpu_1 := Kpu.c 1 _ rfl
          have Kpu_2 := Kpu.c 2 _ rfl
          have Kpu_3 := Kpu.c 3 _ rfl
          have Kpv_0 := Kpv.c 0 _ rfl
          have Kpv_1 := Kpv.c 1 _ rfl
          have Kpv_2 := Kpv.c 2 _ rfl
          have Kpv_3 := Kpv.c 3 _ rfl
          go_wp2_with fail
          clear KX_0 KX_1 KX_2 KX_3 KY_0 KY_1 KY_2 KY_3 KZ_0 KZ_1 KZ_2 KZ_3 Kpc_0 Kpc_1 Kpc_2 Kpc_3 Kpu_0 Kpu_1 Kpu_2 Kpu_3 Kpv_0 Kpv_1 Kpv_2 Kpv_3
          generalize (w31.alloc (.cells #[.bool pvn, .slice pvA pvz.length pvk, .bool pvm, .slice pvB pvd.length pvl] 26)) = Vpv at *
          generalize w31.heap.size = bpv at *
          refine (frac_mul_rj q (p * s) _ _ _ _ _ _ _ _ _ _ _ _ _ _ _ _ _ L1 Rv).mono ?_
          rintro _ w32 ⟨pwn, pwA, pwz, pwk, pwm, pwB, pwd, pwl, pwe, rfl, Rw, hb⟩
          replace KX := KX.on hb
          replace KY := KY.on hb
          replace KZ := KZ.on hb
          replace Kpc := Kpc.on hb
          replace Kpu := Kpu.on hb
          replace Kpv := Kpv.on hb
          replace L1 := L1.on hb
          replace L2 := L2.on hb
          replace L3 := L3.on hb
          replace Lc := Lc.on hb
          replace Ru := Ru.on hb
          replace Rv := Rv.on hb
          replace BW := BW.trans (hb.mono BW.size)
          clear hb
          have hb : Below w32.heap.size w32 (w32.alloc (.cells #[.bool pwn, .slice pwA pwz.length pwk, .bool pwm, .slice pwB pwd.length pwl] 26)) := by go_grown
          have Kpw := Box.new w32 [.bool pwn, .slice pwA pwz.length pwk, .bool pwm, .slice pwB pwd.length pwl] 26
          replace KX := KX.on hb
          replace KY := KY.on hb
          replace KZ := KZ.on hb
          replace Kpc := Kpc.on hb
          replace Kpu := Kpu.on hb
          replace Kpv := Kpv.on hb
          replace L1 := L1.on hb
          replace L2 := L2.on hb
          replace L3 := L3.on hb
          replace Lc := Lc.on hb
          replace Ru := Ru.on hb
          replace Rv := Rv.on hb
          replace Rw := Rw.on hb
          replace BW := BW.trans (hb.mono BW.size)
          clear hb
          have KX_0 := KX.c 0 _ rfl
          have KX_1 := KX.c 1 _ rfl
          have KX_2 := KX.c 2 _ rfl
          have KX_3 := KX.c 3 _ rfl
          have KY_0 := KY.c 0 _ rfl
          have KY_1 := KY.c 1 _ rfl
          have KY_2 := KY.c 2 _ rfl
          have KY_3 := KY.c 3 _ rfl
          have KZ_0 := KZ.c 0 _ rfl
          have KZ_1 := KZ.c 1 _ rfl
          have KZ_2 := KZ.c 2 _ rfl
          have KZ_3 := KZ.c 3 _ rfl
          have Kpc_0 := Kpc.c 0 _ rfl
          have Kpc_1 := Kpc.c 1 _ rfl
          have Kpc_2 := Kpc.c 2 _ rfl
          have Kpc_3 := Kpc.c 3 _ rfl
          have Kpu_0 := Kpu.c 0 _ rfl
          have Kpu_1 := Kpu.c 1 _ rfl
          have Kpu_2 := Kpu.c 2 _ rfl
          have Kpu_3 := Kpu.c 3 _ rfl
          have Kpv_0 := Kpv.c 0 _ rfl
          have Kpv_1 := Kpv.c 1 _ rfl
          have Kpv_2 := Kpv.c 2 _ rfl
          have Kpv_3 := Kpv.c 3 _ rfl
          have Kpw_0 := Kpw.c 0 _ rfl
          have Kpw_1 := Kpw.c 1 _ rfl
          have Kpw_2 := Kpw.c 2 _ rfl
          have Kpw_3 := Kpw.c 3 _ rfl
          go_upto_region 27 with fail
          clear KX_0 KX_1 KX_2 KX_3 KY_0 KY_1 KY_2 KY_3 KZ_0 KZ_1 KZ_2 KZ_3 Kpc_0 Kpc_1 Kpc_2 Kpc_3 Kpu_0 Kpu_1 Kpu_2 Kpu_3 Kpv_0 Kpv_1 Kpv_2 Kpv_3 Kpw_0 Kpw_1 Kpw_2 Kpw_3
          generalize (w32.alloc (.cells #[.bool pwn, .slice pwA pwz.length pwk, .bool pwm, .slice pwB pwd.length pwl] 26)) = Vpw at *
          generalize w32.heap.size = bpw at *
          go_cut [11, 235] (fun s11 s235 wx => s11 = .pointer (some ⟨bpc, 0, none⟩) ∧ s235 = .bool false ∧ Below w.heap.size w wx ∧ Box wx w.heap.size [.bool n1, .slice A1 x1.length c1, .bool false, .slice B1 d1.length l1] ∧ Box wx (w.heap.size + 1) [.bool n2, .slice A2 x2.length c2, .bool false, .slice B2 d2.length l2] ∧ Box wx (w.heap.size + 1 + 1) [.bool n3, .slice A3 x3.length c3, .bool false, .slice B3 d3.length l3] ∧ Box wx bpc [.bool pcn, .slice pcA pcz.length pck, .bool false, .slice pcB pcd.length pcl] ∧ Lf wx q n1 A1 x1 c1 B1 d1 l1 ∧ Lf wx p n2 A2 x2 c2 B2 d2 l2 ∧ Lf wx s n3 A3 x3 c3 B3 d3 l3 ∧ Lf wx (q * p) pcn pcA pcz pck pcB pcd pcl)
          case first =>
            as_aux_lemma =>
              by_cases hj : pve = 0
              · subst hj
                replace Rw := (Rw rfl).to (rat_prods q p s).symm
                have hi := Ru.er_eq Rw
                subst hi
                have KX_0 := KX.c 0 _ rfl
                have KX_1 := KX.c 1 _ rfl
                have KX_2 := KX.c 2 _ rfl
                have KX_3 := KX.c 3 _ rfl
                have KY_0 := KY.c 0 _ rfl
                have KY_1 := KY.c 1 _ rfl
                have KY_2 := KY.c 2 _ rfl
                have KY_3 := KY.c 3 _ rfl
                have KZ_0 := KZ.c 0 _ rfl
                have KZ_1 := KZ.c 1 _ rfl
                have KZ_2 := KZ.c 2 _ rfl
                have KZ_3 := KZ.c 3 _ rfl
                have Kpc_0 := Kpc.c 0 _ rfl
                have Kpc_1 := Kpc.c 1 _ rfl
                have Kpc_2 := Kpc.c 2 _ rfl
                have Kpc_3 := Kpc.c 3 _ rfl
                have Kpu_0 := Kpu.c 0 _ rfl
                have Kpu_1 := Kpu.c 1 _ rfl
                have Kpu_2 := Kpu.c 2 _ rfl
                have Kpu_3 := Kpu.c 3 _ rfl
                have Kpv_0 := Kpv.c 0 _ rfl
                have Kpv_1 := Kpv.c 1 _ rfl
                have Kpv_2 := Kpv.c 2 _ rfl
                have Kpv_3 := Kpv.c 3 _ rfl
                have Kpw_0 := Kpw.c 0 _ rfl
                have Kpw_1 := Kpw.c 1 _ rfl
                have Kpw_2 := Kpw.c 2 _ rfl
                have Kpw_3 := Kpw.c 3 _ rfl
                go_wp2_with fail
                clear KX_0 KX_1 KX_2 KX_3 KY_0 KY_1 KY_2 KY_3 KZ_0 KZ_1 KZ_2 KZ_3 Kpc_0 Kpc_1 Kpc_2 Kpc_3 Kpu_0 Kpu_1 Kpu_2 Kpu_3 Kpv_0 Kpv_1 Kpv_2 Kpv_3 Kpw_0 Kpw_1 Kpw_2 Kpw_3
                refine (like_rk (q * p * s) _ _ _ _ _ _ _ _ _ _ _ _ _ _ _ _ _ _ _ Ru Rw).mono ?_
                rintro _ w33 ⟨rfl, hb⟩
                replace KX := KX.on hb
                replace KY := KY.on hb
                replace KZ := KZ.on hb
                replace Kpc := Kpc.on hb
                replace Kpu := Kpu.on hb
                replace Kpv := Kpv.on hb
                replace Kpw := Kpw.on hb
                replace L1 := L1.on hb
                replace L2 := L2.on hb
                replace L3 := L3.on hb
                replace Lc := Lc.on hb
                replace Ru := Ru.on hb
                replace Rv := Rv.on hb
                replace Rw := Rw.on hb
                replace BW := BW.trans (hb.mono BW.size)
                clear hb
                have KX_0 := KX.c 0 _ rfl
                have KX_1 := KX.c 1 _ rfl
                have KX_2 := KX.c 2 _ rfl
                have KX_3 := KX.c 3 _ rfl
                have KY_0 := KY.c 0 _ rfl
                have KY_1 := KY.c 1 _ rfl
                have KY_2 := KY.c 2 _ rfl
                have KY_3 := KY.c 3 _ rfl
                have KZ_0 := KZ.c 0 _ rfl
                have KZ_1 := KZ.c 1 _ rfl
                have KZ_2 := KZ.c 2 _ rfl
                have KZ_3 := KZ.c 3 _ rfl
                have Kpc_0 := Kpc.c 0 _ rfl
                have Kpc_1 := Kpc.c 1 _ rfl
                have Kpc_2 := Kpc.c 2 _ rfl
                have Kpc_3 := Kpc.c 3 _ rfl
                have Kpu_0 := Kpu.c 0 _ rfl
                have Kpu_1 := Kpu.c 1 _ rfl
                have Kpu_2 := Kpu.c 2 _ rfl
                have Kpu_3 := Kpu.c 3 _ rfl
                have Kpv_0 := Kpv.c 0 _ rfl
                have Kpv_1 := Kpv.c 1 _ rfl
                have Kpv_2 := Kpv.c 2 _ rfl
                have Kpv_3 := Kpv.c 3 _ rfl
                have Kpw_0 := Kpw.c 0 _ rfl
                have Kpw_1 := Kpw.c 1 _ rfl
                have Kpw_2 := Kpw.c 2 _ rfl
                have Kpw_3 := Kpw.c 3 _ rfl
                go_wp2_with fail
                go_meet
                exact ⟨rfl, rfl, BW, KX, KY, KZ, Kpc, L1, L2, L3, Lc⟩
              · clear Rw
                have KX_0 := KX.c 0 _ rfl
                have KX_1 := KX.c 1 _ rfl
                have KX_2 := KX.c 2 _ rfl
                have KX_3 := KX.c 3 _ rfl
                have KY_0 := KY.c 0 _ rfl
                have KY_1 := KY.c 1 _ rfl
                have KY_2 := KY.c 2 _ rfl
                have KY_3 := KY.c 3 _ rfl
                have KZ_0 := KZ.c 0 _ rfl
                have KZ_1 := KZ.c 1 _ rfl
                have KZ_2 := KZ.c 2 _ rfl
                have KZ_3 := KZ.c 3 _ rfl
                have Kpc_0 := Kpc.c 0 _ rfl
                have Kpc_1 := Kpc.c 1 _ rfl
                have Kpc_2 := Kpc.c 2 _ rfl
                have Kpc_3 := Kpc.c 3 _ rfl
                have Kpu_0 := Kpu.c 0 _ rfl
                have Kpu_1 := Kpu.c 1 _ rfl
                have Kpu_2 := Kpu.c 2 _ rfl
                have Kpu_3 := Kpu.c 3 _ rfl
                have Kpv_0 := Kpv.c 0 _ rfl
                have Kpv_1 := Kpv.c 1 _ rfl
                have Kpv_2 := Kpv.c 2 _ rfl
                have Kpv_3 := Kpv.c 3 _ rfl
                have Kpw_0 := Kpw.c 0 _ rfl
                have Kpw_1 := Kpw.c 1 _ rfl
                have Kpw_2 := Kpw.c 2 _ rfl
                have Kpw_3 := Kpw.c 3 _ rfl
                go_wp2_with fail
                go_meet
                exact ⟨rfl, rfl, BW, KX, KY, KZ, Kpc, L1, L2, L3, Lc⟩
          case rest =>
            as_aux_lemma =>
              obtain ⟨rfl, rfl, BW, KX, KY, KZ, Kpc, L1, L2, L3, Lc⟩ := hcut
              have KX_0 := KX.c 0 _ rfl
              have KX_1 := KX.c 1 _ rfl
              have KX_2 := KX.c 2 _ rfl
              have KX_3 := KX.c 3 _ rfl
              have KY_0 := KY.c 0 _ rfl
              have KY_1 := KY.c 1 _ rfl
              have KY_2 := KY.c 2 _ rfl
              have KY_3 := KY.c 3 _ rfl
              have KZ_0 := KZ.c 0 _ rfl
              have KZ_1 := KZ.c 1 _ rfl
              have KZ_2 := KZ.c 2 _ rfl
              have KZ_3 := KZ.c 3 _ rfl
              have Kpc_0 := Kpc.c 0 _ rfl
              have Kpc_1 := Kpc.c 1 _ rfl
              have Kpc_2 := Kpc.c 2 _ rfl
              have Kpc_3 := Kpc.c 3 _ rfl
              go_wp2_with fail
              clear KX_0 KX_1 KX_2 KX_3 KY_0 KY_1 KY_2 KY_3 KZ_0 KZ_1 KZ_2 KZ_3 Kpc_0 Kpc_1 Kpc_2 Kpc_3
              refine (frac_quo (q * p) p _ _ _ _ _ _ _ _ _ _ _ _ _ _ _ Lc L2).mono ?_
              rintro _ w40 ⟨pxn, pxA, pxz, pxk, pxm, pxB, pxd, pxl, pxe, rfl, Rx, hb⟩
              replace KX := KX.on hb
              replace KY := KY.on hb
              replace KZ := KZ.on hb
              replace Kpc := Kpc.on hb
              replace L1 := L1.on hb
              replace L2 := L2.on hb
              replace L3 := L3.on hb
              replace Lc := Lc.on hb
              replace BW := BW.trans (hb.mono BW.size)
              clear hb
              have hb : Below w40.heap.size w40 (w40.alloc (.cells #[.bool pxn, .slice pxA pxz.length pxk, .bool pxm, .slice pxB pxd.length pxl] 26)) := by go_grown
              have Kpx := Box.new w40 [.bool pxn, .slice pxA pxz.length pxk, .bool pxm, .slice pxB pxd.length pxl] 26
              replace KX := KX.on hb
              replace KY := KY.on hb
              replace KZ := KZ.on hb
              replace Kpc := Kpc.on hb
              replace L1 := L1.on hb
              replace L2 := L2.on hb
              replace L3 := L3.on hb
              replace Lc := Lc.on hb
              replace Rx := Rx.on hb
              replace BW := BW.trans (hb.mono BW.size)
              clear hb
              have KX_0 := KX.c 0 _ rfl
              have KX_1 := KX.c 1 _ rfl
              have KX_2 := KX.c 2 _ rfl
              have KX_3 := KX.c 3 _ rfl
              have KY_0 := KY.c 0 _ rfl
              have KY_1 := KY.c 1 _ rfl
              have KY_2 := KY.c 2 _ rfl
              have KY_3 := KY.c 3 _ rfl
              have KZ_0 := KZ.c 0 _ rfl
              have KZ_1 := KZ.c 1 _ rfl
              have KZ_2 := KZ.c 2 _ rfl
              have KZ_3 := KZ.c 3 _ rfl
              have Kpc_0 := Kpc.c 0 _ rfl
              have Kpc_1 := Kpc.c 1 _ rfl
              have Kpc_2 := Kpc.c 2 _ rfl
              have Kpc_3 := Kpc.c 3 _ rfl
              have Kpx_0 := Kpx.c 0 _ rfl
              have Kpx_1 := Kpx.c 1 _ rfl
              have Kpx_2 := Kpx.c 2 _ rfl
              have Kpx_3 := Kpx.c 3 _ rfl
              go_wp2_with fail
              clear KX_0 KX_1 KX_2 KX_3 KY_0 KY_1 KY_2 KY_3 KZ_0 KZ_1 KZ_2 KZ_3 Kpc_0 Kpc_1 Kpc_2 Kpc_3 Kpx_0 Kpx_1 Kpx_2 Kpx_3
              generalize (w40.alloc (.cells #[.bool pxn, .slice pxA pxz.length pxk, .bool pxm, .slice pxB pxd.length pxl] 26)) = Vpx at *
              generalize w40.heap.size = bpx at *
              have HS := Lib.hid (fun W (h : Lf W p n2 A2 x2 c2 B2 d2 l2) => frac_sign p _ _ _ _ _ _ _ W h)
              by_cases hp : p.num = 0
              · have h3 := Rx.bad3 hp
                subst h3
                rw [sgnQ_no p hp] at HS
                clear Rx
                refine (HS.out _ L2).mono ?_
                rintro _ w41 ⟨rfl, hb⟩
                replace KX := KX.on hb
                replace KY := KY.on hb
                replace KZ := KZ.on hb
                replace Kpc := Kpc.on hb
                replace Kpx := Kpx.on hb
                replace L1 := L1.on hb
                replace L2 := L2.on hb
                replace L3 := L3.on hb
                replace Lc := Lc.on hb
                replace BW := BW.trans (hb.mono BW.size)
                clear hb
                have KX_0 := KX.c 0 _ rfl
                have KX_1 := KX.c 1 _ rfl
                have KX_2 := KX.c 2 _ rfl
                have KX_3 := KX.c 3 _ rfl
                have KY_0 := KY.c 0 _ rfl
                have KY_1 := KY.c 1 _ rfl
                have KY_2 := KY.c 2 _ rfl
                have KY_3 := KY.c 3 _ rfl
                have KZ_0 := KZ.c 0 _ rfl
                have KZ_1 := KZ.c 1 _ rfl
                have KZ_2 := KZ.c 2 _ rfl
                have KZ_3 := KZ.c 3 _ rfl
                have Kpc_0 := Kpc.c 0 _ rfl
                have Kpc_1 := Kpc.c 1 _ rfl
                have Kpc_2 := Kpc.c 2 _ rfl
                have Kpc_3 := Kpc.c 3 _ rfl
                have Kpx_0 := Kpx.c 0 _ rfl
                have Kpx_1 := Kpx.c 1 _ rfl
                have Kpx_2 := Kpx.c 2 _ rfl
                have Kpx_3 := Kpx.c 3 _ rfl
                go_wp2_with fail
                clear KX_0 KX_1 KX_2 KX_3 KY_0 KY_1 KY_2 KY_3 KZ_0 KZ_1 KZ_2 KZ_3 Kpc_0 Kpc_1 Kpc_2 Kpc_3 Kpx_0 Kpx_1 Kpx_2 Kpx_3
                refine (HS.out _ L2).mono ?_
                rintro _ w42 ⟨rfl, hb⟩
                replace KX := KX.on hb
                replace KY := KY.on hb
                replace KZ := KZ.on hb
                replace Kpc := Kpc.on hb
                replace Kpx := Kpx.on hb
                replace L1 := L1.on hb
                replace L2 := L2.on hb
                replace L3 := L3.on hb
                replace Lc := Lc.on hb
                replace BW := BW.trans (hb.mono BW.size)
                clear hb
                have KX_0 := KX.c 0 _ rfl
                have KX_1 := KX.c 1 _ rfl
                have KX_2 := KX.c 2 _ rfl
                have KX_3 := KX.c 3 _ rfl
                have KY_0 := KY.c 0 _ rfl
                have KY_1 := KY.c 1 _ rfl
                have KY_2 := KY.c 2 _ rfl
                have KY_3 := KY.c 3 _ rfl
                have KZ_0 := KZ.c 0 _ rfl
                have KZ_1 := KZ.c 1 _ rfl
                have KZ_2 := KZ.c 2 _ rfl
                have KZ_3 := KZ.c 3 _ rfl
                have Kpc_0 := Kpc.c 0 _ rfl
                have Kpc_1 := Kpc.c 1 _ rfl
                have Kpc_2 := Kpc.c 2 _ rfl
                have Kpc_3 := Kpc.c 3 _ rfl
                have Kpx_0 := Kpx.c 0 _ rfl
                have Kpx_1 := Kpx.c 1 _ rfl
                have Kpx_2 := Kpx.c 2 _ rfl
                have Kpx_3 := Kpx.c 3 _ rfl
                go_wp2_with fail
                clear KX_0 KX_1 KX_2 KX_3 KY_0 KY_1 KY_2 KY_3 KZ_0 KZ_1 KZ_2 KZ_3 Kpc_0 Kpc_1 Kpc_2 Kpc_3 Kpx_0 Kpx_1 Kpx_2 Kpx_3
                refine (lives_any _ (tab_below HT.out BW)).mono ?_
                rintro _ wl ⟨rfl, hb⟩
                replace BW := BW.trans (hb.mono BW.size)
                go_wp2
                go_ret
                exact ⟨rfl, BW⟩
              · obtain ⟨sg, hsg⟩ : ∃ sg, sgnQ p = sg := ⟨_, rfl⟩
                have hs0 : sg ≠ 0 := hsg ▸ sgnQ_yes p hp
                rw [hsg] at HS
                clear hsg
                have Ry : Rk Vpx False q pxn pxA pxz pxk pxm pxB pxd pxl pxe := by
                  rcases Rx with ⟨_, h2, h3, h4, h5⟩ | ⟨⟨h1, _⟩ | ⟨_, h2, h3⟩, h4⟩
                  · rw [rat_over q p hp] at h2 h5; exact .inl ⟨not_false, h2, h3, h4, h5⟩
                  · exact absurd h1 hp
                  · rw [rat_over q p hp] at h2; exact .inr ⟨.inr ⟨not_false, h2, h3⟩, h4⟩
                have hl := Ry.yes not_false L1.fitsQ
                subst hl
                clear Rx hp
                refine (HS.out _ L2).mono ?_
                rintro _ w41 ⟨rfl, hb⟩
                replace KX := KX.on hb
                replace KY := KY.on hb
                replace KZ := KZ.on hb
                replace Kpc := Kpc.on hb
                replace Kpx := Kpx.on hb
                replace L1 := L1.on hb
                replace L2 := L2.on hb
                replace L3 := L3.on hb
                replace Lc := Lc.on hb
                replace Ry := Ry.on hb
                replace BW := BW.trans (hb.mono BW.size)
                clear hb
                have KX_0 := KX.c 0 _ rfl
                have KX_1 := KX.c 1 _ rfl
                have KX_2 := KX.c 2 _ rfl
                have KX_3 := KX.c 3 _ rfl
                have KY_0 := KY.c 0 _ rfl
                have KY_1 := KY.c 1 _ rfl
                have KY_2 := KY.c 2 _ rfl
                have KY_3 := KY.c 3 _ rfl
                have KZ_0 := KZ.c 0 _ rfl
                have KZ_1 := KZ.c 1 _ rfl
                have KZ_2 := KZ.c 2 _ rfl
                have KZ_3 := KZ.c 3 _ rfl
                have Kpc_0 := Kpc.c 0 _ rfl
                have Kpc_1 := Kpc.c 1 _ rfl
                have Kpc_2 := Kpc.c 2 _ rfl
                have Kpc_3 := Kpc.c 3 _ rfl
                have Kpx_0 := Kpx.c 0 _ rfl
                have Kpx_1 := Kpx.c 1 _ rfl
                have Kpx_2 := Kpx.c 2 _ rfl
                have Kpx_3 := Kpx.c 3 _ rfl
                go_wp2_with fail
                clear KX_0 KX_1 KX_2 KX_3 KY_0 KY_1 KY_2 KY_3 KZ_0 KZ_1 KZ_2 KZ_3 Kpc_0 Kpc_1 Kpc_2 Kpc_3 Kpx_0 Kpx_1 Kpx_2 Kpx_3
                refine (like_rk q _ _ _ _ _ _ _ _ _ _ _ _ _ _ _ _ _ _ _ Ry L1.rk).mono ?_
                rintro _ w42 ⟨rfl, hb⟩
                replace KX := KX.on hb
                replace KY := KY.on hb
                replace KZ := KZ.on hb
                replace Kpc := Kpc.on hb
                replace Kpx := Kpx.on hb
                replace L1 := L1.on hb
                replace L2 := L2.on hb
                replace L3 := L3.on hb
                replace Lc := Lc.on hb
                replace Ry := Ry.on hb
                replace BW := BW.trans (hb.mono BW.size)
                clear hb
                have KX_0 := KX.c 0 _ rfl
                have KX_1 := KX.c 1 _ rfl
                have KX_2 := KX.c 2 _ rfl
                have KX_3 := KX.c 3 _ rfl
                have KY_0 := KY.c 0 _ rfl
                have KY_1 := KY.c 1 _ rfl
                have KY_2 := KY.c 2 _ rfl
                have KY_3 := KY.c 3 _ rfl
                have KZ_0 := KZ.c 0 _ rfl
                have KZ_1 := KZ.c 1 _ rfl
                have KZ_2 := KZ.c 2 _ rfl
                have KZ_3 := KZ.c 3 _ rfl
                have Kpc_0 := Kpc.c 0 _ rfl
                have Kpc_1 := Kpc.c 1 _ rfl
                have Kpc_2 := Kpc.c 2 _ rfl
                have Kpc_3 := Kpc.c 3 _ rfl
                have Kpx_0 := Kpx.c 0 _ rfl
                have Kpx_1 := Kpx.c 1 _ rfl
                have Kpx_2 := Kpx.c 2 _ rfl
                have Kpx_3 := Kpx.c 3 _ rfl
                go_wp2_with fail
                clear KX_0 KX_1 KX_2 KX_3 KY_0 KY_1 KY_2 KY_3 KZ_0 KZ_1 KZ_2 KZ_3 Kpc_0 Kpc_1 Kpc_2 Kpc_3 Kpx_0 Kpx_1 Kpx_2 Kpx_3
                refine (HS.out _ L2).mono ?_
                rintro _ w43 ⟨rfl, hb⟩
                replace KX := KX.on hb
                replace KY := KY.on hb
                replace KZ := KZ.on hb
                replace Kpc := Kpc.on hb
                replace Kpx := Kpx.on hb
                replace L1 := L1.on hb
                replace L2 := L2.on hb
                replace L3 := L3.on hb
                replace Lc := Lc.on hb
                replace Ry := Ry.on hb
                replace BW := BW.trans (hb.mono BW.size)
                clear hb
                have KX_0 := KX.c 0 _ rfl
                have KX_1 := KX.c 1 _ rfl
                have KX_2 := KX.c 2 _ rfl
                have KX_3 := KX.c 3 _ rfl
                have KY_0 := KY.c 0 _ rfl
                have KY_1 := KY.c 1 _ rfl
                have KY_2 := KY.c 2 _ rfl
                have KY_3 := KY.c 3 _ rfl
                have KZ_0 := KZ.c 0 _ rfl
                have KZ_1 := KZ.c 1 _ rfl
                have KZ_2 := KZ.c 2 _ rfl
                have KZ_3 := KZ.c 3 _ rfl
                have Kpc_0 := Kpc.c 0 _ rfl
                have Kpc_1 := Kpc.c 1 _ rfl
                have Kpc_2 := Kpc.c 2 _ rfl
                have Kpc_3 := Kpc.c 3 _ rfl
                have Kpx_0 := Kpx.c 0 _ rfl
                have Kpx_1 := Kpx.c 1 _ rfl
                have Kpx_2 := Kpx.c 2 _ rfl
                have Kpx_3 := Kpx.c 3 _ rfl
                go_wp2_with fail
                clear KX_0 KX_1 KX_2 KX_3 KY_0 KY_1 KY_2 KY_3 KZ_0 KZ_1 KZ_2 KZ_3 Kpc_0 Kpc_1 Kpc_2 Kpc_3 Kpx_0 Kpx_1 Kpx_2 Kpx_3
                refine (lives_any _ (tab_below HT.out BW)).mono ?_
                rintro _ wl ⟨rfl, hb⟩
                replace BW := BW.trans (hb.mono BW.size)
                go_wp2
                go_ret
                exact ⟨rfl, BW⟩
        · have KX_0 := KX.c 0 _ rfl
          have KX_1 := KX.c 1 _ rfl
          have KX_2 := KX.c 2 _ rfl
          have KX_3 := KX.c 3 _ rfl
          have KY_0 := KY.c 0 _ rfl
          have KY_1 := KY.c 1 _ rfl
          have KY_2 := KY.c 2 _ rfl
          have KY_3 := KY.c 3 _ rfl
          have KZ_0 := KZ.c 0 _ rfl
          have KZ_1 := KZ.c 1 _ rfl
          have KZ_2 := KZ.c 2 _ rfl
          have KZ_3 := KZ.c 3 _ rfl
          have Kpc_0 := Kpc.c 0 _ rfl
          have Kpc_1 := Kpc.c 1 _ rfl
          have Kpc_2 := Kpc.c 2 _ rfl
          have Kpc_3 := Kpc.c 3 _ rfl
          go_wp2_with fail
          clear KX_0 KX_1 KX_2 KX_3 KY_0 KY_1 KY_2 KY_3 KZ_0 KZ_1 KZ_2 KZ_3 Kpc_0 Kpc_1 Kpc_2 Kpc_3
          refine (lives_any _ (tab_below HT.out BW)).mono ?_
          rintro _ wl ⟨rfl, hb⟩
          replace BW := BW.trans (hb.mono BW.size)
          go_wp2
          go_ret
          exact ⟨rfl, BW⟩
end Go.Proofs.YtjilhplonaomoaaGreatDoor
