/-
 What span's Square returns. Condition: floats of 64 bits.
-/
import Derived.Test.YtghcoijinihlnaaGreatSpg
import Derived.Outline
import Derived.Deep.RegionHeld3
import Derived.Deep.DeepCutAuto
namespace Go.Proofs.YtghcoijinihlnaaGreat.Fl
open Go.RowKit Ieee
/-- A span in a cell of the call's own, the answer's cell, and what stays. -/
structure Sqk (w W' : World) (l h : Nat) : Prop where
 below : Below w.heap.size w W'
 lt : w.heap.size + 1 < W'.heap.size
 a0 : W'.cell? ⟨w.heap.size, 0, none⟩ = some (.float .f64 l)
 a1 : W'.cell? ⟨w.heap.size, 1, none⟩ = some (.float .f64 h)
 r0 : W'.cell? ⟨w.heap.size + 1, 0, none⟩ = some (.float .f64 0)
 r1 : W'.cell? ⟨w.heap.size + 1, 1, none⟩ = some (.float .f64 0)
 f0 : W'.frozen? ⟨w.heap.size + 1, 0, none⟩ = false
 f1 : W'.frozen? ⟨w.heap.size + 1, 1, none⟩ = false
theorem Sqk.of {w W' W'' : World} {l h : Nat} (k : Sqk w W' l h) (hb : Below w.heap.size w W'') (hz : W'.heap.size ≤ W''.heap.size) (hc : ∀ b o, b ≤ w.heap.size + 1 → W''.cell? ⟨b, o, none⟩ = W'.cell? ⟨b, o, none⟩) (hf : ∀ b o, b ≤ w.heap.size + 1 → W''.frozen? ⟨b, o, none⟩ = W'.frozen? ⟨b, o, none⟩) : Sqk w W'' l h :=
 ⟨hb, Nat.lt_of_lt_of_le k.lt hz,
  (hc _ _ (by omega)).trans k.a0, (hc _ _ (by omega)).trans k.a1, (hc _ _ (by omega)).trans k.r0, (hc _ _ (by omega)).trans k.r1, (hf _ _ (by omega)).trans k.f0, (hf _ _ (by omega)).trans k.f1⟩
theorem Sqk.on {w W' W'' : World} {l h : Nat} (k : Sqk w W' l h) (hb : Below W'.heap.size W' W'') : Sqk w W'' l h :=
 have hl := k.lt
 k.of (k.below.trans (hb.mono (by omega))) hb.size (fun b o hbb => hb.cell (p := ⟨b, o, none⟩) (Nat.lt_of_le_of_lt hbb hl)) (fun b o hbb => hb.frozen (p := ⟨b, o, none⟩) (Nat.lt_of_le_of_lt hbb hl))
theorem Zr.new2 (W : World) (t : TypeId) : Zr (W.alloc (.cells #[.float .f64 0, .float .f64 0] t)) W.heap.size [0, 0] := by
 refine ⟨by simp, fun j hj => ?_, fun j => World.frozen?_alloc_at _ _ _ _ rfl⟩
 rw [World.cell?_alloc_new]
 match j, hj with
 | 0, _ => rfl
 | 1, _ => rfl
theorem Zr.put2 {W : World} {g a b : Nat} (h : Zr W g [a, b]) (x y : Nat) : Zr ((W.setCell ⟨g, 0, none⟩ (.float .f64 x)).setCell ⟨g, 1, none⟩ (.float .f64 y)) g [x, y] := by
 have c0 := h.at_ 0 a rfl
 have c1 := h.at_ 1 b rfl
 have q0 := h.f 0
 have q1 := h.f 1
 refine ⟨by simpa using h.lt, fun j hj => ?_, fun j => by simpa using h.f j⟩
 match j, hj with
 | 0, _ =>
  show _ = some (Value.float .f64 x)
  go_cell
 | 1, _ =>
  show _ = some (Value.float .f64 y)
  go_cell
theorem Zr.far {W : World} {g p : Nat} {L : List Nat} (h : Zr W g L) (hne : g ≠ p) (u v : Value) : Zr ((W.setCell ⟨p, 0, none⟩ u).setCell ⟨p, 1, none⟩ v) g L :=
 ⟨by simpa using h.lt, fun j hj => by rw [far2 hne]; exact h.c j hj, fun j => by simpa using h.f j⟩
theorem Sqk.far {w W : World} {l h p : Nat} (k : Sqk w W l h) (hp : w.heap.size + 1 < p) (u v : Value) : Sqk w ((W.setCell ⟨p, 0, none⟩ u).setCell ⟨p, 1, none⟩ v) l h :=
 k.of ((k.below.setCell (p := ⟨p, 0, none⟩) (by show w.heap.size ≤ p; omega) u).setCell (p := ⟨p, 1, none⟩) (by show w.heap.size ≤ p; omega) v) (by simp) (fun b o hbb => by rw [far2 (by omega)]) (fun b o hbb => by simp)
/-- The list that Square's least is asked of. -/
def sqL (b : Bool) (d u : Nat) : List (Nat × Nat) := if b then [(d, u), (0, 0)] else [(d, u)]
theorem lies_two {w : World} {g l h m k : Nat} (h0 : w.cell? ⟨g, 0, none⟩ = some (.float .f64 l)) (h1 : w.cell? ⟨g, 1, none⟩ = some (.float .f64 h)) (h2 : w.cell? ⟨g, 2, none⟩ = some (.float .f64 m)) (h3 : w.cell? ⟨g, 3, none⟩ = some (.float .f64 k)) : Lies w g 0 [(l, h), (m, k)] := fun j hj => by
 match j, hj with
 | 0, _ => exact ⟨h0, h1⟩
 | 1, _ => exact ⟨h2, h3⟩
set_option maxHeartbeats 8000000 in
theorem spansq_ok (l h : Nat) (w : World) (h1 : l < 18446744073709551616) (h2 : h < 18446744073709551616) (hs : Spn l h) :
  Calls Tryz.prog 27 #[spv l h] w fun e w' => ∃ d1 u1 d2 u2, ProIs l l d1 u1 ∧ ProIs h h d2 u2 ∧ (Flt d1 ∧ Flt u1 ∧ Flt d2 ∧ Flt u2) ∧
   e = .returned (.tuple #[spv (leaLo d1 u1 (sqL (hasN l h) d2 u2)) (leaHi d1 u1 (sqL (hasN l h) d2 u2)), .int .i64 (leaE d1 u1 (sqL (hasN l h) d2 u2))]) ∧ Below w.heap.size w w' := by
 have HC := Lib.hid (fun W => check_span l h W h1)
 have HD1 := Lib.hid (fun W => pro_call W h1 h1 hs.1 hs.1)
 have HD2 := Lib.hid (fun W => pro_call W h2 h2 hs.2.1 hs.2.1)
 have HB := Lib.hid (fun x y W => between_any x y W)
 have HN := Lib.hid (fun W => hasNought_any l h W hs)
 have hsf := @run_store_f Tryz.prog .f64
 rw [spE_ok hs] at HC
 generalize hasN l h = b at *
 clear h1 h2 hs
 go_enter Tryz.func27, Tryz.ntmps27
 go_wp2_with fail
 refine (HC.out _).mono ?_
 rintro e w1 ⟨rfl, rfl⟩
 have R : Sqk w (((w.alloc (Obj.cells #[Value.float FloatKind.f64 l, Value.float FloatKind.f64 h] 44)).alloc
     (Obj.cells #[Value.float FloatKind.f64 0, Value.float FloatKind.f64 0] 44)).alloc
   (Obj.cells #[Value.float FloatKind.f64 l, Value.float FloatKind.f64 h] 44)) l h :=
  ⟨by (repeat (first | exact below_self _ _ | assumption | refine below_dn ?_ _ | refine Below.drew ?_ | refine Below.setCell ?_ (by (try simp) <;> (try omega)) _ | refine Below.alloc ?_ (by (try simp) <;> (try omega)) _)), by simp, by go_cell, by go_cell, by go_cell, by go_cell, by go_cell, by go_cell⟩
 go_wp2
 generalize (((w.alloc (Obj.cells #[Value.float FloatKind.f64 l, Value.float FloatKind.f64 h] 44)).alloc
     (Obj.cells #[Value.float FloatKind.f64 0, Value.float FloatKind.f64 0] 44)).alloc
   (Obj.cells #[Value.float FloatKind.f64 l, Value.float FloatKind.f64 h] 44)) = w1 at *
 clear HC
 go_cut [5, 6] (fun s5 s6 wx => ∃ (g5 g6 d1 u1 d2 u2 : Nat), s5 = .pointer (some ⟨g5, 0, none⟩) ∧ s6 = .pointer (some ⟨g6, 0, none⟩) ∧ ProIs l l d1 u1 ∧ ProIs h h d2 u2 ∧ (Flt d1 ∧ Flt u1 ∧ Flt d2 ∧ Flt u2) ∧ Zr wx g5 [d1, u1] ∧ Zr wx g6 [d2, u2] ∧ Sqk w wx l h)
 case first =>
  refine wp_region_noPanic ?_
  replace R := R.on (Below.drew (Below.refl _ _))
  refine wp_region_held_drew (S := (fun wx => wx.cell? ⟨w.heap.size, 0, none⟩ = some (.float .f64 l) ∧ wx.cell? ⟨w.heap.size, 1, none⟩ = some (.float .f64 h))) (by kernel_rfl) ⟨R.a0, R.a1⟩ (fun hHeld => ?_)
  generalize w1.drew = Vd at *
  refine pT 0 ?_
  (try simp only [p0, p1, p2, p3])
  refine pT 1 ?_
  (try simp only [p0, p1, p2, p3])
  refine pT 2 ?_
  (try simp only [p0, p1, p2, p3])
  refine pT 3 ?_
  (try simp only [p0, p1, p2, p3])
  refine pT 8 ?_
  (try simp only [p0, p1, p2, p3])
  refine pT 9 ?_
  (try simp only [p0, p1, p2, p3])
  refine pT 10 ?_
  (try simp only [p0, p1, p2, p3])
  refine pT 11 ?_
  (try simp only [p0, p1, p2, p3])
  refine pR3 4 16 17 (fun K hK => ?_) (fun K hK => ?_) (fun K hK => ?_)
  ·go_simp
   (go_at_call 60; with_reducible refine (HD1.out _).mono ?_)
   rintro e0 w2 ⟨d1, u1, rfl, hb, fd1, fu1, hr1⟩
   (try go_wp2_with fail)
   replace R := R.on hb
   clear hb
   refine hK.out _ _ ⟨R.a0, R.a1⟩ (fun hHeld => ?_)
   clear hK
   (try simp only [p0, p1, p2, p3])
   refine pT 5 ?_
   (try simp only [p0, p1, p2, p3])
   refine pT 6 ?_
   (try simp only [p0, p1, p2, p3])
   refine pR3 7 16 17 (fun K hK => ?_) (fun K hK => ?_) (fun K hK => ?_)
   ·go_simp
    (go_at_call 68; with_reducible refine (HB.out _ _ _).mono ?_)
    rintro e1 w3 ⟨rfl, hb⟩
    (try go_wp2_with fail)
    replace R := R.on hb
    clear hb
    refine hK.out _ _ ⟨R.a0, R.a1⟩ (fun hHeld => ?_)
    clear hK
    (try simp only [p0, p1, p2, p3])
    refine pR3 12 16 17 (fun K hK => ?_) (fun K hK => ?_) (fun K hK => ?_)
    ·go_simp
     (go_at_call 60; with_reducible refine (HD2.out _).mono ?_)
     rintro e2 w4 ⟨d2, u2, rfl, hb, fd2, fu2, hr2⟩
     (try go_wp2_with fail)
     replace R := R.on hb
     clear hb
     refine hK.out _ _ ⟨R.a0, R.a1⟩ (fun hHeld => ?_)
     clear hK
     (try simp only [p0, p1, p2, p3])
     refine pT 13 ?_
     (try simp only [p0, p1, p2, p3])
     refine pT 14 ?_
     (try simp only [p0, p1, p2, p3])
     refine pR3 15 16 17 (fun K hK => ?_) (fun K hK => ?_) (fun K hK => ?_)
     ·go_simp
      (go_at_call 68; with_reducible refine (HB.out _ _ _).mono ?_)
      rintro e3 w5 ⟨rfl, hb⟩
      (try go_wp2_with fail)
      replace R := R.on hb
      clear hb
      refine hK.out _ _ ⟨R.a0, R.a1⟩ (fun hHeld => ?_)
      clear hK
      (try simp only [p0, p1, p2, p3])
      refine pR2 16 17 (fun K hK => ?_) (fun K hK => ?_)
      ·go_simp
       have Z16 := Zr.new2 w5 44
       have hg16 := R.lt
       have hbz : Below w5.heap.size w5 (w5.alloc (.cells #[.float .f64 0, .float .f64 0] 44)) := Below.alloc (Below.refl _ _) (Nat.le_refl _) _
       replace R := R.on hbz
       clear hbz
       generalize w5.heap.size = g16 at *
       generalize (w5.alloc (.cells #[.float .f64 0, .float .f64 0] 44)) = wa1640 at *
       refine hK.out _ _ ⟨R.a0, R.a1⟩ (fun hHeld => ?_)
       clear hK
       (try simp only [p0, p1, p2, p3])
       refine pR1 17 (fun K hK => ?_)
       go_simp
       have Z17 := Zr.new2 wa1640 44
       have hg17 := R.lt
       have hbz : Below wa1640.heap.size wa1640 (wa1640.alloc (.cells #[.float .f64 0, .float .f64 0] 44)) := Below.alloc (Below.refl _ _) (Nat.le_refl _) _
       have hne16 := Nat.ne_of_lt Z16.lt
       replace Z16 := Z16.on hbz
       replace R := R.on hbz
       clear hbz
       generalize wa1640.heap.size = g17 at *
       generalize (wa1640.alloc (.cells #[.float .f64 0, .float .f64 0] 44)) = wa1741 at *
       refine hK.out _ _ ⟨R.a0, R.a1⟩ (fun hHeld => ?_)
       clear hK
       (try simp only [p0, p1, p2, p3])
       have hd : g16 ≠ g17 := by first | exact hne16 | exact hne17.symm
       have x0 := Z16.at_ 0 0 rfl
       have x1 := Z16.at_ 1 0 rfl
       have y0 := Z16.f 0
       have y1 := Z16.f 1
       refine pR1 18 (fun K hK => ?_)
       go_simp
       replace R := R.far hg16 (.float .f64 d1) (.float .f64 u1)
       replace Z17 := Z17.far hd.symm (.float .f64 d1) (.float .f64 u1)
       replace Z16 := Z16.put2 d1 u1
       clear x0 x1 y0 y1
       generalize ((wa1741.setCell ⟨g16, 0, none⟩ (.float .f64 d1)).setCell ⟨g16, 1, none⟩ (.float .f64 u1)) = Ws at *
       refine hK.out _ _ ⟨R.a0, R.a1⟩ (fun hHeld => ?_)
       clear hK
       (try simp only [p0, p1, p2, p3])
       have x0 := Z17.at_ 0 0 rfl
       have x1 := Z17.at_ 1 0 rfl
       have y0 := Z17.f 0
       have y1 := Z17.f 1
       refine pR1 19 (fun K hK => ?_)
       go_simp
       replace R := R.far hg17 (.float .f64 d2) (.float .f64 u2)
       replace Z16 := Z16.far hd (.float .f64 d2) (.float .f64 u2)
       replace Z17 := Z17.put2 d2 u2
       clear x0 x1 y0 y1
       generalize ((Ws.setCell ⟨g17, 0, none⟩ (.float .f64 d2)).setCell ⟨g17, 1, none⟩ (.float .f64 u2)) = Wt at *
       refine hK.out _ _ ⟨R.a0, R.a1⟩ (fun hHeld => ?_)
       clear hK
       (try simp only [p0, p1, p2, p3])
       refine wpAnyH_done (by kernel_rfl) (NoPanic.normal ?_) _
       go_wp2
       go_meet
       exact ⟨_, _, _, _, _, _, rfl, rfl, hr1, hr2, ⟨fd1, fu1, fd2, fu2⟩, Z16, Z17, R⟩
      ·go_simp
       have Z17 := Zr.new2 w5 44
       have hg17 := R.lt
       have hbz : Below w5.heap.size w5 (w5.alloc (.cells #[.float .f64 0, .float .f64 0] 44)) := Below.alloc (Below.refl _ _) (Nat.le_refl _) _
       replace R := R.on hbz
       clear hbz
       generalize w5.heap.size = g17 at *
       generalize (w5.alloc (.cells #[.float .f64 0, .float .f64 0] 44)) = wa1740 at *
       refine hK.out _ _ ⟨R.a0, R.a1⟩ (fun hHeld => ?_)
       clear hK
       (try simp only [p0, p1, p2, p3])
       refine pR1 16 (fun K hK => ?_)
       go_simp
       have Z16 := Zr.new2 wa1740 44
       have hg16 := R.lt
       have hbz : Below wa1740.heap.size wa1740 (wa1740.alloc (.cells #[.float .f64 0, .float .f64 0] 44)) := Below.alloc (Below.refl _ _) (Nat.le_refl _) _
       have hne17 := Nat.ne_of_lt Z17.lt
       replace Z17 := Z17.on hbz
       replace R := R.on hbz
       clear hbz
       generalize wa1740.heap.size = g16 at *
       generalize (wa1740.alloc (.cells #[.float .f64 0, .float .f64 0] 44)) = wa1641 at *
       refine hK.out _ _ ⟨R.a0, R.a1⟩ (fun hHeld => ?_)
       clear hK
       (try simp only [p0, p1, p2, p3])
       have hd : g16 ≠ g17 := by first | exact hne16 | exact hne17.symm
       have x0 := Z16.at_ 0 0 rfl
       have x1 := Z16.at_ 1 0 rfl
       have y0 := Z16.f 0
       have y1 := Z16.f 1
       refine pR1 18 (fun K hK => ?_)
       go_simp
       replace R := R.far hg16 (.float .f64 d1) (.float .f64 u1)
       replace Z17 := Z17.far hd.symm (.float .f64 d1) (.float .f64 u1)
       replace Z16 := Z16.put2 d1 u1
       clear x0 x1 y0 y1
       generalize ((wa1641.setCell ⟨g16, 0, none⟩ (.float .f64 d1)).setCell ⟨g16, 1, none⟩ (.float .f64 u1)) = Ws at *
       refine hK.out _ _ ⟨R.a0, R.a1⟩ (fun hHeld => ?_)
       clear hK
       (try simp only [p0, p1, p2, p3])
       have x0 := Z17.at_ 0 0 rfl
       have x1 := Z17.at_ 1 0 rfl
       have y0 := Z17.f 0
       have y1 := Z17.f 1
       refine pR1 19 (fun K hK => ?_)
       go_simp
       replace R := R.far hg17 (.float .f64 d2) (.float .f64 u2)
       replace Z16 := Z16.far hd (.float .f64 d2) (.float .f64 u2)
       replace Z17 := Z17.put2 d2 u2
       clear x0 x1 y0 y1
       generalize ((Ws.setCell ⟨g17, 0, none⟩ (.float .f64 d2)).setCell ⟨g17, 1, none⟩ (.float .f64 u2)) = Wt at *
       refine hK.out _ _ ⟨R.a0, R.a1⟩ (fun hHeld => ?_)
       clear hK
       (try simp only [p0, p1, p2, p3])
       refine wpAnyH_done (by kernel_rfl) (NoPanic.normal ?_) _
       go_wp2
       go_meet
       exact ⟨_, _, _, _, _, _, rfl, rfl, hr1, hr2, ⟨fd1, fu1, fd2, fu2⟩, Z16, Z17, R⟩
     ·go_simp
      have Z16 := Zr.new2 w4 44
      have hg16 := R.lt
      have hbz : Below w4.heap.size w4 (w4.alloc (.cells #[.float .f64 0, .float .f64 0] 44)) := Below.alloc (Below.refl _ _) (Nat.le_refl _) _
      replace R := R.on hbz
      clear hbz
      generalize w4.heap.size = g16 at *
      generalize (w4.alloc (.cells #[.float .f64 0, .float .f64 0] 44)) = wa1630 at *
      refine hK.out _ _ ⟨R.a0, R.a1⟩ (fun hHeld => ?_)
      clear hK
      (try simp only [p0, p1, p2, p3])
      refine pR2 15 17 (fun K hK => ?_) (fun K hK => ?_)
      ·go_simp
       (go_at_call 68; with_reducible refine (HB.out _ _ _).mono ?_)
       rintro e3 w5z16 ⟨rfl, hb⟩
       (try go_wp2_with fail)
       replace R := R.on hb
       replace Z16 := Z16.on hb
       clear hb
       refine hK.out _ _ ⟨R.a0, R.a1⟩ (fun hHeld => ?_)
       clear hK
       (try simp only [p0, p1, p2, p3])
       refine pR1 17 (fun K hK => ?_)
       go_simp
       have Z17 := Zr.new2 w5z16 44
       have hg17 := R.lt
       have hbz : Below w5z16.heap.size w5z16 (w5z16.alloc (.cells #[.float .f64 0, .float .f64 0] 44)) := Below.alloc (Below.refl _ _) (Nat.le_refl _) _
       have hne16 := Nat.ne_of_lt Z16.lt
       replace Z16 := Z16.on hbz
       replace R := R.on hbz
       clear hbz
       generalize w5z16.heap.size = g17 at *
       generalize (w5z16.alloc (.cells #[.float .f64 0, .float .f64 0] 44)) = wa1741 at *
       refine hK.out _ _ ⟨R.a0, R.a1⟩ (fun hHeld => ?_)
       clear hK
       (try simp only [p0, p1, p2, p3])
       have hd : g16 ≠ g17 := by first | exact hne16 | exact hne17.symm
       have x0 := Z16.at_ 0 0 rfl
       have x1 := Z16.at_ 1 0 rfl
       have y0 := Z16.f 0
       have y1 := Z16.f 1
       refine pR1 18 (fun K hK => ?_)
       go_simp
       replace R := R.far hg16 (.float .f64 d1) (.float .f64 u1)
       replace Z17 := Z17.far hd.symm (.float .f64 d1) (.float .f64 u1)
       replace Z16 := Z16.put2 d1 u1
       clear x0 x1 y0 y1
       generalize ((wa1741.setCell ⟨g16, 0, none⟩ (.float .f64 d1)).setCell ⟨g16, 1, none⟩ (.float .f64 u1)) = Ws at *
       refine hK.out _ _ ⟨R.a0, R.a1⟩ (fun hHeld => ?_)
       clear hK
       (try simp only [p0, p1, p2, p3])
       have x0 := Z17.at_ 0 0 rfl
       have x1 := Z17.at_ 1 0 rfl
       have y0 := Z17.f 0
       have y1 := Z17.f 1
       refine pR1 19 (fun K hK => ?_)
       go_simp
       replace R := R.far hg17 (.float .f64 d2) (.float .f64 u2)
       replace Z16 := Z16.far hd (.float .f64 d2) (.float .f64 u2)
       replace Z17 := Z17.put2 d2 u2
       clear x0 x1 y0 y1
       generalize ((Ws.setCell ⟨g17, 0, none⟩ (.float .f64 d2)).setCell ⟨g17, 1, none⟩ (.float .f64 u2)) = Wt at *
       refine hK.out _ _ ⟨R.a0, R.a1⟩ (fun hHeld => ?_)
       clear hK
       (try simp only [p0, p1, p2, p3])
       refine wpAnyH_done (by kernel_rfl) (NoPanic.normal ?_) _
       go_wp2
       go_meet
       exact ⟨_, _, _, _, _, _, rfl, rfl, hr1, hr2, ⟨fd1, fu1, fd2, fu2⟩, Z16, Z17, R⟩
      ·go_simp
       have Z17 := Zr.new2 wa1630 44
       have hg17 := R.lt
       have hbz : Below wa1630.heap.size wa1630 (wa1630.alloc (.cells #[.float .f64 0, .float .f64 0] 44)) := Below.alloc (Below.refl _ _) (Nat.le_refl _) _
       have hne16 := Nat.ne_of_lt Z16.lt
       replace Z16 := Z16.on hbz
       replace R := R.on hbz
       clear hbz
       generalize wa1630.heap.size = g17 at *
       generalize (wa1630.alloc (.cells #[.float .f64 0, .float .f64 0] 44)) = wa1731 at *
       refine hK.out _ _ ⟨R.a0, R.a1⟩ (fun hHeld => ?_)
       clear hK
       (try simp only [p0, p1, p2, p3])
       refine pR1 15 (fun K hK => ?_)
       go_simp
       (go_at_call 68; with_reducible refine (HB.out _ _ _).mono ?_)
       rintro e3 w5z16z17 ⟨rfl, hb⟩
       (try go_wp2_with fail)
       replace R := R.on hb
       replace Z16 := Z16.on hb
       replace Z17 := Z17.on hb
       clear hb
       refine hK.out _ _ ⟨R.a0, R.a1⟩ (fun hHeld => ?_)
       clear hK
       (try simp only [p0, p1, p2, p3])
       have hd : g16 ≠ g17 := by first | exact hne16 | exact hne17.symm
       have x0 := Z16.at_ 0 0 rfl
       have x1 := Z16.at_ 1 0 rfl
       have y0 := Z16.f 0
       have y1 := Z16.f 1
       refine pR1 18 (fun K hK => ?_)
       go_simp
       replace R := R.far hg16 (.float .f64 d1) (.float .f64 u1)
       replace Z17 := Z17.far hd.symm (.float .f64 d1) (.float .f64 u1)
       replace Z16 := Z16.put2 d1 u1
       clear x0 x1 y0 y1
       generalize ((w5z16z17.setCell ⟨g16, 0, none⟩ (.float .f64 d1)).setCell ⟨g16, 1, none⟩ (.float .f64 u1)) = Ws at *
       refine hK.out _ _ ⟨R.a0, R.a1⟩ (fun hHeld => ?_)
       clear hK
       (try simp only [p0, p1, p2, p3])
       have x0 := Z17.at_ 0 0 rfl
       have x1 := Z17.at_ 1 0 rfl
       have y0 := Z17.f 0
       have y1 := Z17.f 1
       refine pR1 19 (fun K hK => ?_)
       go_simp
       replace R := R.far hg17 (.float .f64 d2) (.float .f64 u2)
       replace Z16 := Z16.far hd (.float .f64 d2) (.float .f64 u2)
       replace Z17 := Z17.put2 d2 u2
       clear x0 x1 y0 y1
       generalize ((Ws.setCell ⟨g17, 0, none⟩ (.float .f64 d2)).setCell ⟨g17, 1, none⟩ (.float .f64 u2)) = Wt at *
       refine hK.out _ _ ⟨R.a0, R.a1⟩ (fun hHeld => ?_)
       clear hK
       (try simp only [p0, p1, p2, p3])
       refine wpAnyH_done (by kernel_rfl) (NoPanic.normal ?_) _
       go_wp2
       go_meet
       exact ⟨_, _, _, _, _, _, rfl, rfl, hr1, hr2, ⟨fd1, fu1, fd2, fu2⟩, Z16, Z17, R⟩
     ·go_simp
      have Z17 := Zr.new2 w4 44
      have hg17 := R.lt
      have hbz : Below w4.heap.size w4 (w4.alloc (.cells #[.float .f64 0, .float .f64 0] 44)) := Below.alloc (Below.refl _ _) (Nat.le_refl _) _
      replace R := R.on hbz
      clear hbz
      generalize w4.heap.size = g17 at *
      generalize (w4.alloc (.cells #[.float .f64 0, .float .f64 0] 44)) = wa1730 at *
      refine hK.out _ _ ⟨R.a0, R.a1⟩ (fun hHeld => ?_)
      clear hK
      (try simp only [p0, p1, p2, p3])
      refine pR2 15 16 (fun K hK => ?_) (fun K hK => ?_)
      ·go_simp
       (go_at_call 68; with_reducible refine (HB.out _ _ _).mono ?_)
       rintro e3 w5z17 ⟨rfl, hb⟩
       (try go_wp2_with fail)
       replace R := R.on hb
       replace Z17 := Z17.on hb
       clear hb
       refine hK.out _ _ ⟨R.a0, R.a1⟩ (fun hHeld => ?_)
       clear hK
       (try simp only [p0, p1, p2, p3])
       refine pR1 16 (fun K hK => ?_)
       go_simp
       have Z16 := Zr.new2 w5z17 44
       have hg16 := R.lt
       have hbz : Below w5z17.heap.size w5z17 (w5z17.alloc (.cells #[.float .f64 0, .float .f64 0] 44)) := Below.alloc (Below.refl _ _) (Nat.le_refl _) _
       have hne17 := Nat.ne_of_lt Z17.lt
       replace Z17 := Z17.on hbz
       replace R := R.on hbz
       clear hbz
       generalize w5z17.heap.size = g16 at *
       generalize (w5z17.alloc (.cells #[.float .f64 0, .float .f64 0] 44)) = wa1641 at *
       refine hK.out _ _ ⟨R.a0, R.a1⟩ (fun hHeld => ?_)
       clear hK
       (try simp only [p0, p1, p2, p3])
       have hd : g16 ≠ g17 := by first | exact hne16 | exact hne17.symm
       have x0 := Z16.at_ 0 0 rfl
       have x1 := Z16.at_ 1 0 rfl
       have y0 := Z16.f 0
       have y1 := Z16.f 1
       refine pR1 18 (fun K hK => ?_)
       go_simp
       replace R := R.far hg16 (.float .f64 d1) (.float .f64 u1)
       replace Z17 := Z17.far hd.symm (.float .f64 d1) (.float .f64 u1)
       replace Z16 := Z16.put2 d1 u1
       clear x0 x1 y0 y1
       generalize ((wa1641.setCell ⟨g16, 0, none⟩ (.float .f64 d1)).setCell ⟨g16, 1, none⟩ (.float .f64 u1)) = Ws at *
       refine hK.out _ _ ⟨R.a0, R.a1⟩ (fun hHeld => ?_)
       clear hK
       (try simp only [p0, p1, p2, p3])
       have x0 := Z17.at_ 0 0 rfl
       have x1 := Z17.at_ 1 0 rfl
       have y0 := Z17.f 0
       have y1 := Z17.f 1
       refine pR1 19 (fun K hK => ?_)
       go_simp
       replace R := R.far hg17 (.float .f64 d2) (.float .f64 u2)
       replace Z16 := Z16.far hd (.float .f64 d2) (.float .f64 u2)
       replace Z17 := Z17.put2 d2 u2
       clear x0 x1 y0 y1
       generalize ((Ws.setCell ⟨g17, 0, none⟩ (.float .f64 d2)).setCell ⟨g17, 1, none⟩ (.float .f64 u2)) = Wt at *
       refine hK.out _ _ ⟨R.a0, R.a1⟩ (fun hHeld => ?_)
       clear hK
       (try simp only [p0, p1, p2, p3])
       refine wpAnyH_done (by kernel_rfl) (NoPanic.normal ?_) _
       go_wp2
       go_meet
       exact ⟨_, _, _, _, _, _, rfl, rfl, hr1, hr2, ⟨fd1, fu1, fd2, fu2⟩, Z16, Z17, R⟩
      ·go_simp
       have Z16 := Zr.new2 wa1730 44
       have hg16 := R.lt
       have hbz : Below wa1730.heap.size wa1730 (wa1730.alloc (.cells #[.float .f64 0, .float .f64 0] 44)) := Below.alloc (Below.refl _ _) (Nat.le_refl _) _
       have hne17 := Nat.ne_of_lt Z17.lt
       replace Z17 := Z17.on hbz
       replace R := R.on hbz
       clear hbz
       generalize wa1730.heap.size = g16 at *
       generalize (wa1730.alloc (.cells #[.float .f64 0, .float .f64 0] 44)) = wa1631 at *
       refine hK.out _ _ ⟨R.a0, R.a1⟩ (fun hHeld => ?_)
       clear hK
       (try simp only [p0, p1, p2, p3])
       refine pR1 15 (fun K hK => ?_)
       go_simp
       (go_at_call 68; with_reducible refine (HB.out _ _ _).mono ?_)
       rintro e3 w5z17z16 ⟨rfl, hb⟩
       (try go_wp2_with fail)
       replace R := R.on hb
       replace Z17 := Z17.on hb
       replace Z16 := Z16.on hb
       clear hb
       refine hK.out _ _ ⟨R.a0, R.a1⟩ (fun hHeld => ?_)
       clear hK
       (try simp only [p0, p1, p2, p3])
       have hd : g16 ≠ g17 := by first | exact hne16 | exact hne17.symm
       have x0 := Z16.at_ 0 0 rfl
       have x1 := Z16.at_ 1 0 rfl
       have y0 := Z16.f 0
       have y1 := Z16.f 1
       refine pR1 18 (fun K hK => ?_)
       go_simp
       replace R := R.far hg16 (.float .f64 d1) (.float .f64 u1)
       replace Z17 := Z17.far hd.symm (.float .f64 d1) (.float .f64 u1)
       replace Z16 := Z16.put2 d1 u1
       clear x0 x1 y0 y1
       generalize ((w5z17z16.setCell ⟨g16, 0, none⟩ (.float .f64 d1)).setCell ⟨g16, 1, none⟩ (.float .f64 u1)) = Ws at *
       refine hK.out _ _ ⟨R.a0, R.a1⟩ (fun hHeld => ?_)
       clear hK
       (try simp only [p0, p1, p2, p3])
       have x0 := Z17.at_ 0 0 rfl
       have x1 := Z17.at_ 1 0 rfl
       have y0 := Z17.f 0
       have y1 := Z17.f 1
       refine pR1 19 (fun K hK => ?_)
       go_simp
       replace R := R.far hg17 (.float .f64 d2) (.float .f64 u2)
       replace Z16 := Z16.far hd (.float .f64 d2) (.float .f64 u2)
       replace Z17 := Z17.put2 d2 u2
       clear x0 x1 y0 y1
       generalize ((Ws.setCell ⟨g17, 0, none⟩ (.float .f64 d2)).setCell ⟨g17, 1, none⟩ (.float .f64 u2)) = Wt at *
       refine hK.out _ _ ⟨R.a0, R.a1⟩ (fun hHeld => ?_)
       clear hK
       (try simp only [p0, p1, p2, p3])
       refine wpAnyH_done (by kernel_rfl) (NoPanic.normal ?_) _
       go_wp2
       go_meet
       exact ⟨_, _, _, _, _, _, rfl, rfl, hr1, hr2, ⟨fd1, fu1, fd2, fu2⟩, Z16, Z17, R⟩
    ·go_simp
     have Z16 := Zr.new2 w3 44
     have hg16 := R.lt
     have hbz : Below w3.heap.size w3 (w3.alloc (.cells #[.float .f64 0, .float .f64 0] 44)) := Below.alloc (Below.refl _ _) (Nat.le_refl _) _
     replace R := R.on hbz
     clear hbz
     generalize w3.heap.size = g16 at *
     generalize (w3.alloc (.cells #[.float .f64 0, .float .f64 0] 44)) = wa1620 at *
     refine hK.out _ _ ⟨R.a0, R.a1⟩ (fun hHeld => ?_)
     clear hK
     (try simp only [p0, p1, p2, p3])
     refine pR2 12 17 (fun K hK => ?_) (fun K hK => ?_)
     ·go_simp
      (go_at_call 60; with_reducible refine (HD2.out _).mono ?_)
      rintro e2 w4z16 ⟨d2, u2, rfl, hb, fd2, fu2, hr2⟩
      (try go_wp2_with fail)
      replace R := R.on hb
      replace Z16 := Z16.on hb
      clear hb
      refine hK.out _ _ ⟨R.a0, R.a1⟩ (fun hHeld => ?_)
      clear hK
      (try simp only [p0, p1, p2, p3])
      refine pT 13 ?_
      (try simp only [p0, p1, p2, p3])
      refine pT 14 ?_
      (try simp only [p0, p1, p2, p3])
      refine pR2 15 17 (fun K hK => ?_) (fun K hK => ?_)
      ·go_simp
       (go_at_call 68; with_reducible refine (HB.out _ _ _).mono ?_)
       rintro e3 w5z16 ⟨rfl, hb⟩
       (try go_wp2_with fail)
       replace R := R.on hb
       replace Z16 := Z16.on hb
       clear hb
       refine hK.out _ _ ⟨R.a0, R.a1⟩ (fun hHeld => ?_)
       clear hK
       (try simp only [p0, p1, p2, p3])
       refine pR1 17 (fun K hK => ?_)
       go_simp
       have Z17 := Zr.new2 w5z16 44
       have hg17 := R.lt
       have hbz : Below w5z16.heap.size w5z16 (w5z16.alloc (.cells #[.float .f64 0, .float .f64 0] 44)) := Below.alloc (Below.refl _ _) (Nat.le_refl _) _
       have hne16 := Nat.ne_of_lt Z16.lt
       replace Z16 := Z16.on hbz
       replace R := R.on hbz
       clear hbz
       generalize w5z16.heap.size = g17 at *
       generalize (w5z16.alloc (.cells #[.float .f64 0, .float .f64 0] 44)) = wa1741 at *
       refine hK.out _ _ ⟨R.a0, R.a1⟩ (fun hHeld => ?_)
       clear hK
       (try simp only [p0, p1, p2, p3])
       have hd : g16 ≠ g17 := by first | exact hne16 | exact hne17.symm
       have x0 := Z16.at_ 0 0 rfl
       have x1 := Z16.at_ 1 0 rfl
       have y0 := Z16.f 0
       have y1 := Z16.f 1
       refine pR1 18 (fun K hK => ?_)
       go_simp
       replace R := R.far hg16 (.float .f64 d1) (.float .f64 u1)
       replace Z17 := Z17.far hd.symm (.float .f64 d1) (.float .f64 u1)
       replace Z16 := Z16.put2 d1 u1
       clear x0 x1 y0 y1
       generalize ((wa1741.setCell ⟨g16, 0, none⟩ (.float .f64 d1)).setCell ⟨g16, 1, none⟩ (.float .f64 u1)) = Ws at *
       refine hK.out _ _ ⟨R.a0, R.a1⟩ (fun hHeld => ?_)
       clear hK
       (try simp only [p0, p1, p2, p3])
       have x0 := Z17.at_ 0 0 rfl
       have x1 := Z17.at_ 1 0 rfl
       have y0 := Z17.f 0
       have y1 := Z17.f 1
       refine pR1 19 (fun K hK => ?_)
       go_simp
       replace R := R.far hg17 (.float .f64 d2) (.float .f64 u2)
       replace Z16 := Z16.far hd (.float .f64 d2) (.float .f64 u2)
       replace Z17 := Z17.put2 d2 u2
       clear x0 x1 y0 y1
       generalize ((Ws.setCell ⟨g17, 0, none⟩ (.float .f64 d2)).setCell ⟨g17, 1, none⟩ (.float .f64 u2)) = Wt at *
       refine hK.out _ _ ⟨R.a0, R.a1⟩ (fun hHeld => ?_)
       clear hK
       (try simp only [p0, p1, p2, p3])
       refine wpAnyH_done (by kernel_rfl) (NoPanic.normal ?_) _
       go_wp2
       go_meet
       exact ⟨_, _, _, _, _, _, rfl, rfl, hr1, hr2, ⟨fd1, fu1, fd2, fu2⟩, Z16, Z17, R⟩
      ·go_simp
       have Z17 := Zr.new2 w4z16 44
       have hg17 := R.lt
       have hbz : Below w4z16.heap.size w4z16 (w4z16.alloc (.cells #[.float .f64 0, .float .f64 0] 44)) := Below.alloc (Below.refl _ _) (Nat.le_refl _) _
       have hne16 := Nat.ne_of_lt Z16.lt
       replace Z16 := Z16.on hbz
       replace R := R.on hbz
       clear hbz
       generalize w4z16.heap.size = g17 at *
       generalize (w4z16.alloc (.cells #[.float .f64 0, .float .f64 0] 44)) = wa1731 at *
       refine hK.out _ _ ⟨R.a0, R.a1⟩ (fun hHeld => ?_)
       clear hK
       (try simp only [p0, p1, p2, p3])
       refine pR1 15 (fun K hK => ?_)
       go_simp
       (go_at_call 68; with_reducible refine (HB.out _ _ _).mono ?_)
       rintro e3 w5z16z17 ⟨rfl, hb⟩
       (try go_wp2_with fail)
       replace R := R.on hb
       replace Z16 := Z16.on hb
       replace Z17 := Z17.on hb
       clear hb
       refine hK.out _ _ ⟨R.a0, R.a1⟩ (fun hHeld => ?_)
       clear hK
       (try simp only [p0, p1, p2, p3])
       have hd : g16 ≠ g17 := by first | exact hne16 | exact hne17.symm
       have x0 := Z16.at_ 0 0 rfl
       have x1 := Z16.at_ 1 0 rfl
       have y0 := Z16.f 0
       have y1 := Z16.f 1
       refine pR1 18 (fun K hK => ?_)
       go_simp
       replace R := R.far hg16 (.float .f64 d1) (.float .f64 u1)
       replace Z17 := Z17.far hd.symm (.float .f64 d1) (.float .f64 u1)
       replace Z16 := Z16.put2 d1 u1
       clear x0 x1 y0 y1
       generalize ((w5z16z17.setCell ⟨g16, 0, none⟩ (.float .f64 d1)).setCell ⟨g16, 1, none⟩ (.float .f64 u1)) = Ws at *
       refine hK.out _ _ ⟨R.a0, R.a1⟩ (fun hHeld => ?_)
       clear hK
       (try simp only [p0, p1, p2, p3])
       have x0 := Z17.at_ 0 0 rfl
       have x1 := Z17.at_ 1 0 rfl
       have y0 := Z17.f 0
       have y1 := Z17.f 1
       refine pR1 19 (fun K hK => ?_)
       go_simp
       replace R := R.far hg17 (.float .f64 d2) (.float .f64 u2)
       replace Z16 := Z16.far hd (.float .f64 d2) (.float .f64 u2)
       replace Z17 := Z17.put2 d2 u2
       clear x0 x1 y0 y1
       generalize ((Ws.setCell ⟨g17, 0, none⟩ (.float .f64 d2)).setCell ⟨g17, 1, none⟩ (.float .f64 u2)) = Wt at *
       refine hK.out _ _ ⟨R.a0, R.a1⟩ (fun hHeld => ?_)
       clear hK
       (try simp only [p0, p1, p2, p3])
       refine wpAnyH_done (by kernel_rfl) (NoPanic.normal ?_) _
       go_wp2
       go_meet
       exact ⟨_, _, _, _, _, _, rfl, rfl, hr1, hr2, ⟨fd1, fu1, fd2, fu2⟩, Z16, Z17, R⟩
     ·go_simp
      have Z17 := Zr.new2 wa1620 44
      have hg17 := R.lt
      have hbz : Below wa1620.heap.size wa1620 (wa1620.alloc (.cells #[.float .f64 0, .float .f64 0] 44)) := Below.alloc (Below.refl _ _) (Nat.le_refl _) _
      have hne16 := Nat.ne_of_lt Z16.lt
      replace Z16 := Z16.on hbz
      replace R := R.on hbz
      clear hbz
      generalize wa1620.heap.size = g17 at *
      generalize (wa1620.alloc (.cells #[.float .f64 0, .float .f64 0] 44)) = wa1721 at *
      refine hK.out _ _ ⟨R.a0, R.a1⟩ (fun hHeld => ?_)
      clear hK
      (try simp only [p0, p1, p2, p3])
      refine pR1 12 (fun K hK => ?_)
      go_simp
      (go_at_call 60; with_reducible refine (HD2.out _).mono ?_)
      rintro e2 w4z16z17 ⟨d2, u2, rfl, hb, fd2, fu2, hr2⟩
      (try go_wp2_with fail)
      replace R := R.on hb
      replace Z16 := Z16.on hb
      replace Z17 := Z17.on hb
      clear hb
      refine hK.out _ _ ⟨R.a0, R.a1⟩ (fun hHeld => ?_)
      clear hK
      (try simp only [p0, p1, p2, p3])
      refine pT 13 ?_
      (try simp only [p0, p1, p2, p3])
      refine pT 14 ?_
      (try simp only [p0, p1, p2, p3])
      refine pR1 15 (fun K hK => ?_)
      go_simp
      (go_at_call 68; with_reducible refine (HB.out _ _ _).mono ?_)
      rintro e3 w5z16z17 ⟨rfl, hb⟩
      (try go_wp2_with fail)
      replace R := R.on hb
      replace Z16 := Z16.on hb
      replace Z17 := Z17.on hb
      clear hb
      refine hK.out _ _ ⟨R.a0, R.a1⟩ (fun hHeld => ?_)
      clear hK
      (try simp only [p0, p1, p2, p3])
      have hd : g16 ≠ g17 := by first | exact hne16 | exact hne17.symm
      have x0 := Z16.at_ 0 0 rfl
      have x1 := Z16.at_ 1 0 rfl
      have y0 := Z16.f 0
      have y1 := Z16.f 1
      refine pR1 18 (fun K hK => ?_)
      go_simp
      replace R := R.far hg16 (.float .f64 d1) (.float .f64 u1)
      replace Z17 := Z17.far hd.symm (.float .f64 d1) (.float .f64 u1)
      replace Z16 := Z16.put2 d1 u1
      clear x0 x1 y0 y1
      generalize ((w5z16z17.setCell ⟨g16, 0, none⟩ (.float .f64 d1)).setCell ⟨g16, 1, none⟩ (.float .f64 u1)) = Ws at *
      refine hK.out _ _ ⟨R.a0, R.a1⟩ (fun hHeld => ?_)
      clear hK
      (try simp only [p0, p1, p2, p3])
      have x0 := Z17.at_ 0 0 rfl
      have x1 := Z17.at_ 1 0 rfl
      have y0 := Z17.f 0
      have y1 := Z17.f 1
      refine pR1 19 (fun K hK => ?_)
      go_simp
      replace R := R.far hg17 (.float .f64 d2) (.float .f64 u2)
      replace Z16 := Z16.far hd (.float .f64 d2) (.float .f64 u2)
      replace Z17 := Z17.put2 d2 u2
      clear x0 x1 y0 y1
      generalize ((Ws.setCell ⟨g17, 0, none⟩ (.float .f64 d2)).setCell ⟨g17, 1, none⟩ (.float .f64 u2)) = Wt at *
      refine hK.out _ _ ⟨R.a0, R.a1⟩ (fun hHeld => ?_)
      clear hK
      (try simp only [p0, p1, p2, p3])
      refine wpAnyH_done (by kernel_rfl) (NoPanic.normal ?_) _
      go_wp2
      go_meet
      exact ⟨_, _, _, _, _, _, rfl, rfl, hr1, hr2, ⟨fd1, fu1, fd2, fu2⟩, Z16, Z17, R⟩
    ·go_simp
     have Z17 := Zr.new2 w3 44
     have hg17 := R.lt
     have hbz : Below w3.heap.size w3 (w3.alloc (.cells #[.float .f64 0, .float .f64 0] 44)) := Below.alloc (Below.refl _ _) (Nat.le_refl _) _
     replace R := R.on hbz
     clear hbz
     generalize w3.heap.size = g17 at *
     generalize (w3.alloc (.cells #[.float .f64 0, .float .f64 0] 44)) = wa1720 at *
     refine hK.out _ _ ⟨R.a0, R.a1⟩ (fun hHeld => ?_)
     clear hK
     (try simp only [p0, p1, p2, p3])
     refine pR2 12 16 (fun K hK => ?_) (fun K hK => ?_)
     ·go_simp
      (go_at_call 60; with_reducible refine (HD2.out _).mono ?_)
      rintro e2 w4z17 ⟨d2, u2, rfl, hb, fd2, fu2, hr2⟩
      (try go_wp2_with fail)
      replace R := R.on hb
      replace Z17 := Z17.on hb
      clear hb
      refine hK.out _ _ ⟨R.a0, R.a1⟩ (fun hHeld => ?_)
      clear hK
      (try simp only [p0, p1, p2, p3])
      refine pT 13 ?_
      (try simp only [p0, p1, p2, p3])
      refine pT 14 ?_
      (try simp only [p0, p1, p2, p3])
      refine pR2 15 16 (fun K hK => ?_) (fun K hK => ?_)
      ·go_simp
       (go_at_call 68; with_reducible refine (HB.out _ _ _).mono ?_)
       rintro e3 w5z17 ⟨rfl, hb⟩
       (try go_wp2_with fail)
       replace R := R.on hb
       replace Z17 := Z17.on hb
       clear hb
       refine hK.out _ _ ⟨R.a0, R.a1⟩ (fun hHeld => ?_)
       clear hK
       (try simp only [p0, p1, p2, p3])
       refine pR1 16 (fun K hK => ?_)
       go_simp
       have Z16 := Zr.new2 w5z17 44
       have hg16 := R.lt
       have hbz : Below w5z17.heap.size w5z17 (w5z17.alloc (.cells #[.float .f64 0, .float .f64 0] 44)) := Below.alloc (Below.refl _ _) (Nat.le_refl _) _
       have hne17 := Nat.ne_of_lt Z17.lt
       replace Z17 := Z17.on hbz
       replace R := R.on hbz
       clear hbz
       generalize w5z17.heap.size = g16 at *
       generalize (w5z17.alloc (.cells #[.float .f64 0, .float .f64 0] 44)) = wa1641 at *
       refine hK.out _ _ ⟨R.a0, R.a1⟩ (fun hHeld => ?_)
       clear hK
       (try simp only [p0, p1, p2, p3])
       have hd : g16 ≠ g17 := by first | exact hne16 | exact hne17.symm
       have x0 := Z16.at_ 0 0 rfl
       have x1 := Z16.at_ 1 0 rfl
       have y0 := Z16.f 0
       have y1 := Z16.f 1
       refine pR1 18 (fun K hK => ?_)
       go_simp
       replace R := R.far hg16 (.float .f64 d1) (.float .f64 u1)
       replace Z17 := Z17.far hd.symm (.float .f64 d1) (.float .f64 u1)
       replace Z16 := Z16.put2 d1 u1
       clear x0 x1 y0 y1
       generalize ((wa1641.setCell ⟨g16, 0, none⟩ (.float .f64 d1)).setCell ⟨g16, 1, none⟩ (.float .f64 u1)) = Ws at *
       refine hK.out _ _ ⟨R.a0, R.a1⟩ (fun hHeld => ?_)
       clear hK
       (try simp only [p0, p1, p2, p3])
       have x0 := Z17.at_ 0 0 rfl
       have x1 := Z17.at_ 1 0 rfl
       have y0 := Z17.f 0
       have y1 := Z17.f 1
       refine pR1 19 (fun K hK => ?_)
       go_simp
       replace R := R.far hg17 (.float .f64 d2) (.float .f64 u2)
       replace Z16 := Z16.far hd (.float .f64 d2) (.float .f64 u2)
       replace Z17 := Z17.put2 d2 u2
       clear x0 x1 y0 y1
       generalize ((Ws.setCell ⟨g17, 0, none⟩ (.float .f64 d2)).setCell ⟨g17, 1, none⟩ (.float .f64 u2)) = Wt at *
       refine hK.out _ _ ⟨R.a0, R.a1⟩ (fun hHeld => ?_)
       clear hK
       (try simp only [p0, p1, p2, p3])
       refine wpAnyH_done (by kernel_rfl) (NoPanic.normal ?_) _
       go_wp2
       go_meet
       exact ⟨_, _, _, _, _, _, rfl, rfl, hr1, hr2, ⟨fd1, fu1, fd2, fu2⟩, Z16, Z17, R⟩
      ·go_simp
       have Z16 := Zr.new2 w4z17 44
       have hg16 := R.lt
       have hbz : Below w4z17.heap.size w4z17 (w4z17.alloc (.cells #[.float .f64 0, .float .f64 0] 44)) := Below.alloc (Below.refl _ _) (Nat.le_refl _) _
       have hne17 := Nat.ne_of_lt Z17.lt
       replace Z17 := Z17.on hbz
       replace R := R.on hbz
       clear hbz
       generalize w4z17.heap.size = g16 at *
       generalize (w4z17.alloc (.cells #[.float .f64 0, .float .f64 0] 44)) = wa1631 at *
       refine hK.out _ _ ⟨R.a0, R.a1⟩ (fun hHeld => ?_)
       clear hK
       (try simp only [p0, p1, p2, p3])
       refine pR1 15 (fun K hK => ?_)
       go_simp
       (go_at_call 68; with_reducible refine (HB.out _ _ _).mono ?_)
       rintro e3 w5z17z16 ⟨rfl, hb⟩
       (try go_wp2_with fail)
       replace R := R.on hb
       replace Z17 := Z17.on hb
       replace Z16 := Z16.on hb
       clear hb
       refine hK.out _ _ ⟨R.a0, R.a1⟩ (fun hHeld => ?_)
       clear hK
       (try simp only [p0, p1, p2, p3])
       have hd : g16 ≠ g17 := by first | exact hne16 | exact hne17.symm
       have x0 := Z16.at_ 0 0 rfl
       have x1 := Z16.at_ 1 0 rfl
       have y0 := Z16.f 0
       have y1 := Z16.f 1
       refine pR1 18 (fun K hK => ?_)
       go_simp
       replace R := R.far hg16 (.float .f64 d1) (.float .f64 u1)
       replace Z17 := Z17.far hd.symm (.float .f64 d1) (.float .f64 u1)
       replace Z16 := Z16.put2 d1 u1
       clear x0 x1 y0 y1
       generalize ((w5z17z16.setCell ⟨g16, 0, none⟩ (.float .f64 d1)).setCell ⟨g16, 1, none⟩ (.float .f64 u1)) = Ws at *
       refine hK.out _ _ ⟨R.a0, R.a1⟩ (fun hHeld => ?_)
       clear hK
       (try simp only [p0, p1, p2, p3])
       have x0 := Z17.at_ 0 0 rfl
       have x1 := Z17.at_ 1 0 rfl
       have y0 := Z17.f 0
       have y1 := Z17.f 1
       refine pR1 19 (fun K hK => ?_)
       go_simp
       replace R := R.far hg17 (.float .f64 d2) (.float .f64 u2)
       replace Z16 := Z16.far hd (.float .f64 d2) (.float .f64 u2)
       replace Z17 := Z17.put2 d2 u2
       clear x0 x1 y0 y1
       generalize ((Ws.setCell ⟨g17, 0, none⟩ (.float .f64 d2)).setCell ⟨g17, 1, none⟩ (.float .f64 u2)) = Wt at *
       refine hK.out _ _ ⟨R.a0, R.a1⟩ (fun hHeld => ?_)
       clear hK
       (try simp only [p0, p1, p2, p3])
       refine wpAnyH_done (by kernel_rfl) (NoPanic.normal ?_) _
       go_wp2
       go_meet
       exact ⟨_, _, _, _, _, _, rfl, rfl, hr1, hr2, ⟨fd1, fu1, fd2, fu2⟩, Z16, Z17, R⟩
     ·go_simp
      have Z16 := Zr.new2 wa1720 44
      have hg16 := R.lt
      have hbz : Below wa1720.heap.size wa1720 (wa1720.alloc (.cells #[.float .f64 0, .float .f64 0] 44)) := Below.alloc (Below.refl _ _) (Nat.le_refl _) _
      have hne17 := Nat.ne_of_lt Z17.lt
      replace Z17 := Z17.on hbz
      replace R := R.on hbz
      clear hbz
      generalize wa1720.heap.size = g16 at *
      generalize (wa1720.alloc (.cells #[.float .f64 0, .float .f64 0] 44)) = wa1621 at *
      refine hK.out _ _ ⟨R.a0, R.a1⟩ (fun hHeld => ?_)
      clear hK
      (try simp only [p0, p1, p2, p3])
      refine pR1 12 (fun K hK => ?_)
      go_simp
      (go_at_call 60; with_reducible refine (HD2.out _).mono ?_)
      rintro e2 w4z17z16 ⟨d2, u2, rfl, hb, fd2, fu2, hr2⟩
      (try go_wp2_with fail)
      replace R := R.on hb
      replace Z17 := Z17.on hb
      replace Z16 := Z16.on hb
      clear hb
      refine hK.out _ _ ⟨R.a0, R.a1⟩ (fun hHeld => ?_)
      clear hK
      (try simp only [p0, p1, p2, p3])
      refine pT 13 ?_
      (try simp only [p0, p1, p2, p3])
      refine pT 14 ?_
      (try simp only [p0, p1, p2, p3])
      refine pR1 15 (fun K hK => ?_)
      go_simp
      (go_at_call 68; with_reducible refine (HB.out _ _ _).mono ?_)
      rintro e3 w5z17z16 ⟨rfl, hb⟩
      (try go_wp2_with fail)
      replace R := R.on hb
      replace Z17 := Z17.on hb
      replace Z16 := Z16.on hb
      clear hb
      refine hK.out _ _ ⟨R.a0, R.a1⟩ (fun hHeld => ?_)
      clear hK
      (try simp only [p0, p1, p2, p3])
      have hd : g16 ≠ g17 := by first | exact hne16 | exact hne17.symm
      have x0 := Z16.at_ 0 0 rfl
      have x1 := Z16.at_ 1 0 rfl
      have y0 := Z16.f 0
      have y1 := Z16.f 1
      refine pR1 18 (fun K hK => ?_)
      go_simp
      replace R := R.far hg16 (.float .f64 d1) (.float .f64 u1)
      replace Z17 := Z17.far hd.symm (.float .f64 d1) (.float .f64 u1)
      replace Z16 := Z16.put2 d1 u1
      clear x0 x1 y0 y1
      generalize ((w5z17z16.setCell ⟨g16, 0, none⟩ (.float .f64 d1)).setCell ⟨g16, 1, none⟩ (.float .f64 u1)) = Ws at *
      refine hK.out _ _ ⟨R.a0, R.a1⟩ (fun hHeld => ?_)
      clear hK
      (try simp only [p0, p1, p2, p3])
      have x0 := Z17.at_ 0 0 rfl
      have x1 := Z17.at_ 1 0 rfl
      have y0 := Z17.f 0
      have y1 := Z17.f 1
      refine pR1 19 (fun K hK => ?_)
      go_simp
      replace R := R.far hg17 (.float .f64 d2) (.float .f64 u2)
      replace Z16 := Z16.far hd (.float .f64 d2) (.float .f64 u2)
      replace Z17 := Z17.put2 d2 u2
      clear x0 x1 y0 y1
      generalize ((Ws.setCell ⟨g17, 0, none⟩ (.float .f64 d2)).setCell ⟨g17, 1, none⟩ (.float .f64 u2)) = Wt at *
      refine hK.out _ _ ⟨R.a0, R.a1⟩ (fun hHeld => ?_)
      clear hK
      (try simp only [p0, p1, p2, p3])
      refine wpAnyH_done (by kernel_rfl) (NoPanic.normal ?_) _
      go_wp2
      go_meet
      exact ⟨_, _, _, _, _, _, rfl, rfl, hr1, hr2, ⟨fd1, fu1, fd2, fu2⟩, Z16, Z17, R⟩
   ·go_simp
    have Z16 := Zr.new2 w2 44
    have hg16 := R.lt
    have hbz : Below w2.heap.size w2 (w2.alloc (.cells #[.float .f64 0, .float .f64 0] 44)) := Below.alloc (Below.refl _ _) (Nat.le_refl _) _
    replace R := R.on hbz
    clear hbz
    generalize w2.heap.size = g16 at *
    generalize (w2.alloc (.cells #[.float .f64 0, .float .f64 0] 44)) = wa1610 at *
    refine hK.out _ _ ⟨R.a0, R.a1⟩ (fun hHeld => ?_)
    clear hK
    (try simp only [p0, p1, p2, p3])
    refine pR2 7 17 (fun K hK => ?_) (fun K hK => ?_)
    ·go_simp
     (go_at_call 68; with_reducible refine (HB.out _ _ _).mono ?_)
     rintro e1 w3z16 ⟨rfl, hb⟩
     (try go_wp2_with fail)
     replace R := R.on hb
     replace Z16 := Z16.on hb
     clear hb
     refine hK.out _ _ ⟨R.a0, R.a1⟩ (fun hHeld => ?_)
     clear hK
     (try simp only [p0, p1, p2, p3])
     refine pR2 12 17 (fun K hK => ?_) (fun K hK => ?_)
     ·go_simp
      (go_at_call 60; with_reducible refine (HD2.out _).mono ?_)
      rintro e2 w4z16 ⟨d2, u2, rfl, hb, fd2, fu2, hr2⟩
      (try go_wp2_with fail)
      replace R := R.on hb
      replace Z16 := Z16.on hb
      clear hb
      refine hK.out _ _ ⟨R.a0, R.a1⟩ (fun hHeld => ?_)
      clear hK
      (try simp only [p0, p1, p2, p3])
      refine pT 13 ?_
      (try simp only [p0, p1, p2, p3])
      refine pT 14 ?_
      (try simp only [p0, p1, p2, p3])
      refine pR2 15 17 (fun K hK => ?_) (fun K hK => ?_)
      ·go_simp
       (go_at_call 68; with_reducible refine (HB.out _ _ _).mono ?_)
       rintro e3 w5z16 ⟨rfl, hb⟩
       (try go_wp2_with fail)
       replace R := R.on hb
       replace Z16 := Z16.on hb
       clear hb
       refine hK.out _ _ ⟨R.a0, R.a1⟩ (fun hHeld => ?_)
       clear hK
       (try simp only [p0, p1, p2, p3])
       refine pR1 17 (fun K hK => ?_)
       go_simp
       have Z17 := Zr.new2 w5z16 44
       have hg17 := R.lt
       have hbz : Below w5z16.heap.size w5z16 (w5z16.alloc (.cells #[.float .f64 0, .float .f64 0] 44)) := Below.alloc (Below.refl _ _) (Nat.le_refl _) _
       have hne16 := Nat.ne_of_lt Z16.lt
       replace Z16 := Z16.on hbz
       replace R := R.on hbz
       clear hbz
       generalize w5z16.heap.size = g17 at *
       generalize (w5z16.alloc (.cells #[.float .f64 0, .float .f64 0] 44)) = wa1741 at *
       refine hK.out _ _ ⟨R.a0, R.a1⟩ (fun hHeld => ?_)
       clear hK
       (try simp only [p0, p1, p2, p3])
       have hd : g16 ≠ g17 := by first | exact hne16 | exact hne17.symm
       have x0 := Z16.at_ 0 0 rfl
       have x1 := Z16.at_ 1 0 rfl
       have y0 := Z16.f 0
       have y1 := Z16.f 1
       refine pR1 18 (fun K hK => ?_)
       go_simp
       replace R := R.far hg16 (.float .f64 d1) (.float .f64 u1)
       replace Z17 := Z17.far hd.symm (.float .f64 d1) (.float .f64 u1)
       replace Z16 := Z16.put2 d1 u1
       clear x0 x1 y0 y1
       generalize ((wa1741.setCell ⟨g16, 0, none⟩ (.float .f64 d1)).setCell ⟨g16, 1, none⟩ (.float .f64 u1)) = Ws at *
       refine hK.out _ _ ⟨R.a0, R.a1⟩ (fun hHeld => ?_)
       clear hK
       (try simp only [p0, p1, p2, p3])
       have x0 := Z17.at_ 0 0 rfl
       have x1 := Z17.at_ 1 0 rfl
       have y0 := Z17.f 0
       have y1 := Z17.f 1
       refine pR1 19 (fun K hK => ?_)
       go_simp
       replace R := R.far hg17 (.float .f64 d2) (.float .f64 u2)
       replace Z16 := Z16.far hd (.float .f64 d2) (.float .f64 u2)
       replace Z17 := Z17.put2 d2 u2
       clear x0 x1 y0 y1
       generalize ((Ws.setCell ⟨g17, 0, none⟩ (.float .f64 d2)).setCell ⟨g17, 1, none⟩ (.float .f64 u2)) = Wt at *
       refine hK.out _ _ ⟨R.a0, R.a1⟩ (fun hHeld => ?_)
       clear hK
       (try simp only [p0, p1, p2, p3])
       refine wpAnyH_done (by kernel_rfl) (NoPanic.normal ?_) _
       go_wp2
       go_meet
       exact ⟨_, _, _, _, _, _, rfl, rfl, hr1, hr2, ⟨fd1, fu1, fd2, fu2⟩, Z16, Z17, R⟩
      ·go_simp
       have Z17 := Zr.new2 w4z16 44
       have hg17 := R.lt
       have hbz : Below w4z16.heap.size w4z16 (w4z16.alloc (.cells #[.float .f64 0, .float .f64 0] 44)) := Below.alloc (Below.refl _ _) (Nat.le_refl _) _
       have hne16 := Nat.ne_of_lt Z16.lt
       replace Z16 := Z16.on hbz
       replace R := R.on hbz
       clear hbz
       generalize w4z16.heap.size = g17 at *
       generalize (w4z16.alloc (.cells #[.float .f64 0, .float .f64 0] 44)) = wa1731 at *
       refine hK.out _ _ ⟨R.a0, R.a1⟩ (fun hHeld => ?_)
       clear hK
       (try simp only [p0, p1, p2, p3])
       refine pR1 15 (fun K hK => ?_)
       go_simp
       (go_at_call 68; with_reducible refine (HB.out _ _ _).mono ?_)
       rintro e3 w5z16z17 ⟨rfl, hb⟩
       (try go_wp2_with fail)
       replace R := R.on hb
       replace Z16 := Z16.on hb
       replace Z17 := Z17.on hb
       clear hb
       refine hK.out _ _ ⟨R.a0, R.a1⟩ (fun hHeld => ?_)
       clear hK
       (try simp only [p0, p1, p2, p3])
       have hd : g16 ≠ g17 := by first | exact hne16 | exact hne17.symm
       have x0 := Z16.at_ 0 0 rfl
       have x1 := Z16.at_ 1 0 rfl
       have y0 := Z16.f 0
       have y1 := Z16.f 1
       refine pR1 18 (fun K hK => ?_)
       go_simp
       replace R := R.far hg16 (.float .f64 d1) (.float .f64 u1)
       replace Z17 := Z17.far hd.symm (.float .f64 d1) (.float .f64 u1)
       replace Z16 := Z16.put2 d1 u1
       clear x0 x1 y0 y1
       generalize ((w5z16z17.setCell ⟨g16, 0, none⟩ (.float .f64 d1)).setCell ⟨g16, 1, none⟩ (.float .f64 u1)) = Ws at *
       refine hK.out _ _ ⟨R.a0, R.a1⟩ (fun hHeld => ?_)
       clear hK
       (try simp only [p0, p1, p2, p3])
       have x0 := Z17.at_ 0 0 rfl
       have x1 := Z17.at_ 1 0 rfl
       have y0 := Z17.f 0
       have y1 := Z17.f 1
       refine pR1 19 (fun K hK => ?_)
       go_simp
       replace R := R.far hg17 (.float .f64 d2) (.float .f64 u2)
       replace Z16 := Z16.far hd (.float .f64 d2) (.float .f64 u2)
       replace Z17 := Z17.put2 d2 u2
       clear x0 x1 y0 y1
       generalize ((Ws.setCell ⟨g17, 0, none⟩ (.float .f64 d2)).setCell ⟨g17, 1, none⟩ (.float .f64 u2)) = Wt at *
       refine hK.out _ _ ⟨R.a0, R.a1⟩ (fun hHeld => ?_)
       clear hK
       (try simp only [p0, p1, p2, p3])
       refine wpAnyH_done (by kernel_rfl) (NoPanic.normal ?_) _
       go_wp2
       go_meet
       exact ⟨_, _, _, _, _, _, rfl, rfl, hr1, hr2, ⟨fd1, fu1, fd2, fu2⟩, Z16, Z17, R⟩
     ·go_simp
      have Z17 := Zr.new2 w3z16 44
      have hg17 := R.lt
      have hbz : Below w3z16.heap.size w3z16 (w3z16.alloc (.cells #[.float .f64 0, .float .f64 0] 44)) := Below.alloc (Below.refl _ _) (Nat.le_refl _) _
      have hne16 := Nat.ne_of_lt Z16.lt
      replace Z16 := Z16.on hbz
      replace R := R.on hbz
      clear hbz
      generalize w3z16.heap.size = g17 at *
      generalize (w3z16.alloc (.cells #[.float .f64 0, .float .f64 0] 44)) = wa1721 at *
      refine hK.out _ _ ⟨R.a0, R.a1⟩ (fun hHeld => ?_)
      clear hK
      (try simp only [p0, p1, p2, p3])
      refine pR1 12 (fun K hK => ?_)
      go_simp
      (go_at_call 60; with_reducible refine (HD2.out _).mono ?_)
      rintro e2 w4z16z17 ⟨d2, u2, rfl, hb, fd2, fu2, hr2⟩
      (try go_wp2_with fail)
      replace R := R.on hb
      replace Z16 := Z16.on hb
      replace Z17 := Z17.on hb
      clear hb
      refine hK.out _ _ ⟨R.a0, R.a1⟩ (fun hHeld => ?_)
      clear hK
      (try simp only [p0, p1, p2, p3])
      refine pT 13 ?_
      (try simp only [p0, p1, p2, p3])
      refine pT 14 ?_
      (try simp only [p0, p1, p2, p3])
      refine pR1 15 (fun K hK => ?_)
      go_simp
      (go_at_call 68; with_reducible refine (HB.out _ _ _).mono ?_)
      rintro e3 w5z16z17 ⟨rfl, hb⟩
      (try go_wp2_with fail)
      replace R := R.on hb
      replace Z16 := Z16.on hb
      replace Z17 := Z17.on hb
      clear hb
      refine hK.out _ _ ⟨R.a0, R.a1⟩ (fun hHeld => ?_)
      clear hK
      (try simp only [p0, p1, p2, p3])
      have hd : g16 ≠ g17 := by first | exact hne16 | exact hne17.symm
      have x0 := Z16.at_ 0 0 rfl
      have x1 := Z16.at_ 1 0 rfl
      have y0 := Z16.f 0
      have y1 := Z16.f 1
      refine pR1 18 (fun K hK => ?_)
      go_simp
      replace R := R.far hg16 (.float .f64 d1) (.float .f64 u1)
      replace Z17 := Z17.far hd.symm (.float .f64 d1) (.float .f64 u1)
      replace Z16 := Z16.put2 d1 u1
      clear x0 x1 y0 y1
      generalize ((w5z16z17.setCell ⟨g16, 0, none⟩ (.float .f64 d1)).setCell ⟨g16, 1, none⟩ (.float .f64 u1)) = Ws at *
      refine hK.out _ _ ⟨R.a0, R.a1⟩ (fun hHeld => ?_)
      clear hK
      (try simp only [p0, p1, p2, p3])
      have x0 := Z17.at_ 0 0 rfl
      have x1 := Z17.at_ 1 0 rfl
      have y0 := Z17.f 0
      have y1 := Z17.f 1
      refine pR1 19 (fun K hK => ?_)
      go_simp
      replace R := R.far hg17 (.float .f64 d2) (.float .f64 u2)
      replace Z16 := Z16.far hd (.float .f64 d2) (.float .f64 u2)
      replace Z17 := Z17.put2 d2 u2
      clear x0 x1 y0 y1
      generalize ((Ws.setCell ⟨g17, 0, none⟩ (.float .f64 d2)).setCell ⟨g17, 1, none⟩ (.float .f64 u2)) = Wt at *
      refine hK.out _ _ ⟨R.a0, R.a1⟩ (fun hHeld => ?_)
      clear hK
      (try simp only [p0, p1, p2, p3])
      refine wpAnyH_done (by kernel_rfl) (NoPanic.normal ?_) _
      go_wp2
      go_meet
      exact ⟨_, _, _, _, _, _, rfl, rfl, hr1, hr2, ⟨fd1, fu1, fd2, fu2⟩, Z16, Z17, R⟩
    ·go_simp
     have Z17 := Zr.new2 wa1610 44
     have hg17 := R.lt
     have hbz : Below wa1610.heap.size wa1610 (wa1610.alloc (.cells #[.float .f64 0, .float .f64 0] 44)) := Below.alloc (Below.refl _ _) (Nat.le_refl _) _
     have hne16 := Nat.ne_of_lt Z16.lt
     replace Z16 := Z16.on hbz
     replace R := R.on hbz
     clear hbz
     generalize wa1610.heap.size = g17 at *
     generalize (wa1610.alloc (.cells #[.float .f64 0, .float .f64 0] 44)) = wa1711 at *
     refine hK.out _ _ ⟨R.a0, R.a1⟩ (fun hHeld => ?_)
     clear hK
     (try simp only [p0, p1, p2, p3])
     refine pR1 7 (fun K hK => ?_)
     go_simp
     (go_at_call 68; with_reducible refine (HB.out _ _ _).mono ?_)
     rintro e1 w3z16z17 ⟨rfl, hb⟩
     (try go_wp2_with fail)
     replace R := R.on hb
     replace Z16 := Z16.on hb
     replace Z17 := Z17.on hb
     clear hb
     refine hK.out _ _ ⟨R.a0, R.a1⟩ (fun hHeld => ?_)
     clear hK
     (try simp only [p0, p1, p2, p3])
     refine pR1 12 (fun K hK => ?_)
     go_simp
     (go_at_call 60; with_reducible refine (HD2.out _).mono ?_)
     rintro e2 w4z16z17 ⟨d2, u2, rfl, hb, fd2, fu2, hr2⟩
     (try go_wp2_with fail)
     replace R := R.on hb
     replace Z16 := Z16.on hb
     replace Z17 := Z17.on hb
     clear hb
     refine hK.out _ _ ⟨R.a0, R.a1⟩ (fun hHeld => ?_)
     clear hK
     (try simp only [p0, p1, p2, p3])
     refine pT 13 ?_
     (try simp only [p0, p1, p2, p3])
     refine pT 14 ?_
     (try simp only [p0, p1, p2, p3])
     refine pR1 15 (fun K hK => ?_)
     go_simp
     (go_at_call 68; with_reducible refine (HB.out _ _ _).mono ?_)
     rintro e3 w5z16z17 ⟨rfl, hb⟩
     (try go_wp2_with fail)
     replace R := R.on hb
     replace Z16 := Z16.on hb
     replace Z17 := Z17.on hb
     clear hb
     refine hK.out _ _ ⟨R.a0, R.a1⟩ (fun hHeld => ?_)
     clear hK
     (try simp only [p0, p1, p2, p3])
     have hd : g16 ≠ g17 := by first | exact hne16 | exact hne17.symm
     have x0 := Z16.at_ 0 0 rfl
     have x1 := Z16.at_ 1 0 rfl
     have y0 := Z16.f 0
     have y1 := Z16.f 1
     refine pR1 18 (fun K hK => ?_)
     go_simp
     replace R := R.far hg16 (.float .f64 d1) (.float .f64 u1)
     replace Z17 := Z17.far hd.symm (.float .f64 d1) (.float .f64 u1)
     replace Z16 := Z16.put2 d1 u1
     clear x0 x1 y0 y1
     generalize ((w5z16z17.setCell ⟨g16, 0, none⟩ (.float .f64 d1)).setCell ⟨g16, 1, none⟩ (.float .f64 u1)) = Ws at *
     refine hK.out _ _ ⟨R.a0, R.a1⟩ (fun hHeld => ?_)
     clear hK
     (try simp only [p0, p1, p2, p3])
     have x0 := Z17.at_ 0 0 rfl
     have x1 := Z17.at_ 1 0 rfl
     have y0 := Z17.f 0
     have y1 := Z17.f 1
     refine pR1 19 (fun K hK => ?_)
     go_simp
     replace R := R.far hg17 (.float .f64 d2) (.float .f64 u2)
     replace Z16 := Z16.far hd (.float .f64 d2) (.float .f64 u2)
     replace Z17 := Z17.put2 d2 u2
     clear x0 x1 y0 y1
     generalize ((Ws.setCell ⟨g17, 0, none⟩ (.float .f64 d2)).setCell ⟨g17, 1, none⟩ (.float .f64 u2)) = Wt at *
     refine hK.out _ _ ⟨R.a0, R.a1⟩ (fun hHeld => ?_)
     clear hK
     (try simp only [p0, p1, p2, p3])
     refine wpAnyH_done (by kernel_rfl) (NoPanic.normal ?_) _
     go_wp2
     go_meet
     exact ⟨_, _, _, _, _, _, rfl, rfl, hr1, hr2, ⟨fd1, fu1, fd2, fu2⟩, Z16, Z17, R⟩
   ·go_simp
    have Z17 := Zr.new2 w2 44
    have hg17 := R.lt
    have hbz : Below w2.heap.size w2 (w2.alloc (.cells #[.float .f64 0, .float .f64 0] 44)) := Below.alloc (Below.refl _ _) (Nat.le_refl _) _
    replace R := R.on hbz
    clear hbz
    generalize w2.heap.size = g17 at *
    generalize (w2.alloc (.cells #[.float .f64 0, .float .f64 0] 44)) = wa1710 at *
    refine hK.out _ _ ⟨R.a0, R.a1⟩ (fun hHeld => ?_)
    clear hK
    (try simp only [p0, p1, p2, p3])
    refine pR2 7 16 (fun K hK => ?_) (fun K hK => ?_)
    ·go_simp
     (go_at_call 68; with_reducible refine (HB.out _ _ _).mono ?_)
     rintro e1 w3z17 ⟨rfl, hb⟩
     (try go_wp2_with fail)
     replace R := R.on hb
     replace Z17 := Z17.on hb
     clear hb
     refine hK.out _ _ ⟨R.a0, R.a1⟩ (fun hHeld => ?_)
     clear hK
     (try simp only [p0, p1, p2, p3])
     refine pR2 12 16 (fun K hK => ?_) (fun K hK => ?_)
     ·go_simp
      (go_at_call 60; with_reducible refine (HD2.out _).mono ?_)
      rintro e2 w4z17 ⟨d2, u2, rfl, hb, fd2, fu2, hr2⟩
      (try go_wp2_with fail)
      replace R := R.on hb
      replace Z17 := Z17.on hb
      clear hb
      refine hK.out _ _ ⟨R.a0, R.a1⟩ (fun hHeld => ?_)
      clear hK
      (try simp only [p0, p1, p2, p3])
      refine pT 13 ?_
      (try simp only [p0, p1, p2, p3])
      refine pT 14 ?_
      (try simp only [p0, p1, p2, p3])
      refine pR2 15 16 (fun K hK => ?_) (fun K hK => ?_)
      ·go_simp
       (go_at_call 68; with_reducible refine (HB.out _ _ _).mono ?_)
       rintro e3 w5z17 ⟨rfl, hb⟩
       (try go_wp2_with fail)
       replace R := R.on hb
       replace Z17 := Z17.on hb
       clear hb
       refine hK.out _ _ ⟨R.a0, R.a1⟩ (fun hHeld => ?_)
       clear hK
       (try simp only [p0, p1, p2, p3])
       refine pR1 16 (fun K hK => ?_)
       go_simp
       have Z16 := Zr.new2 w5z17 44
       have hg16 := R.lt
       have hbz : Below w5z17.heap.size w5z17 (w5z17.alloc (.cells #[.float .f64 0, .float .f64 0] 44)) := Below.alloc (Below.refl _ _) (Nat.le_refl _) _
       have hne17 := Nat.ne_of_lt Z17.lt
       replace Z17 := Z17.on hbz
       replace R := R.on hbz
       clear hbz
       generalize w5z17.heap.size = g16 at *
       generalize (w5z17.alloc (.cells #[.float .f64 0, .float .f64 0] 44)) = wa1641 at *
       refine hK.out _ _ ⟨R.a0, R.a1⟩ (fun hHeld => ?_)
       clear hK
       (try simp only [p0, p1, p2, p3])
       have hd : g16 ≠ g17 := by first | exact hne16 | exact hne17.symm
       have x0 := Z16.at_ 0 0 rfl
       have x1 := Z16.at_ 1 0 rfl
       have y0 := Z16.f 0
       have y1 := Z16.f 1
       refine pR1 18 (fun K hK => ?_)
       go_simp
       replace R := R.far hg16 (.float .f64 d1) (.float .f64 u1)
       replace Z17 := Z17.far hd.symm (.float .f64 d1) (.float .f64 u1)
       replace Z16 := Z16.put2 d1 u1
       clear x0 x1 y0 y1
       generalize ((wa1641.setCell ⟨g16, 0, none⟩ (.float .f64 d1)).setCell ⟨g16, 1, none⟩ (.float .f64 u1)) = Ws at *
       refine hK.out _ _ ⟨R.a0, R.a1⟩ (fun hHeld => ?_)
       clear hK
       (try simp only [p0, p1, p2, p3])
       have x0 := Z17.at_ 0 0 rfl
       have x1 := Z17.at_ 1 0 rfl
       have y0 := Z17.f 0
       have y1 := Z17.f 1
       refine pR1 19 (fun K hK => ?_)
       go_simp
       replace R := R.far hg17 (.float .f64 d2) (.float .f64 u2)
       replace Z16 := Z16.far hd (.float .f64 d2) (.float .f64 u2)
       replace Z17 := Z17.put2 d2 u2
       clear x0 x1 y0 y1
       generalize ((Ws.setCell ⟨g17, 0, none⟩ (.float .f64 d2)).setCell ⟨g17, 1, none⟩ (.float .f64 u2)) = Wt at *
       refine hK.out _ _ ⟨R.a0, R.a1⟩ (fun hHeld => ?_)
       clear hK
       (try simp only [p0, p1, p2, p3])
       refine wpAnyH_done (by kernel_rfl) (NoPanic.normal ?_) _
       go_wp2
       go_meet
       exact ⟨_, _, _, _, _, _, rfl, rfl, hr1, hr2, ⟨fd1, fu1, fd2, fu2⟩, Z16, Z17, R⟩
      ·go_simp
       have Z16 := Zr.new2 w4z17 44
       have hg16 := R.lt
       have hbz : Below w4z17.heap.size w4z17 (w4z17.alloc (.cells #[.float .f64 0, .float .f64 0] 44)) := Below.alloc (Below.refl _ _) (Nat.le_refl _) _
       have hne17 := Nat.ne_of_lt Z17.lt
       replace Z17 := Z17.on hbz
       replace R := R.on hbz
       clear hbz
       generalize w4z17.heap.size = g16 at *
       generalize (w4z17.alloc (.cells #[.float .f64 0, .float .f64 0] 44)) = wa1631 at *
       refine hK.out _ _ ⟨R.a0, R.a1⟩ (fun hHeld => ?_)
       clear hK
       (try simp only [p0, p1, p2, p3])
       refine pR1 15 (fun K hK => ?_)
       go_simp
       (go_at_call 68; with_reducible refine (HB.out _ _ _).mono ?_)
       rintro e3 w5z17z16 ⟨rfl, hb⟩
       (try go_wp2_with fail)
       replace R := R.on hb
       replace Z17 := Z17.on hb
       replace Z16 := Z16.on hb
       clear hb
       refine hK.out _ _ ⟨R.a0, R.a1⟩ (fun hHeld => ?_)
       clear hK
       (try simp only [p0, p1, p2, p3])
       have hd : g16 ≠ g17 := by first | exact hne16 | exact hne17.symm
       have x0 := Z16.at_ 0 0 rfl
       have x1 := Z16.at_ 1 0 rfl
       have y0 := Z16.f 0
       have y1 := Z16.f 1
       refine pR1 18 (fun K hK => ?_)
       go_simp
       replace R := R.far hg16 (.float .f64 d1) (.float .f64 u1)
       replace Z17 := Z17.far hd.symm (.float .f64 d1) (.float .f64 u1)
       replace Z16 := Z16.put2 d1 u1
       clear x0 x1 y0 y1
       generalize ((w5z17z16.setCell ⟨g16, 0, none⟩ (.float .f64 d1)).setCell ⟨g16, 1, none⟩ (.float .f64 u1)) = Ws at *
       refine hK.out _ _ ⟨R.a0, R.a1⟩ (fun hHeld => ?_)
       clear hK
       (try simp only [p0, p1, p2, p3])
       have x0 := Z17.at_ 0 0 rfl
       have x1 := Z17.at_ 1 0 rfl
       have y0 := Z17.f 0
       have y1 := Z17.f 1
       refine pR1 19 (fun K hK => ?_)
       go_simp
       replace R := R.far hg17 (.float .f64 d2) (.float .f64 u2)
       replace Z16 := Z16.far hd (.float .f64 d2) (.float .f64 u2)
       replace Z17 := Z17.put2 d2 u2
       clear x0 x1 y0 y1
       generalize ((Ws.setCell ⟨g17, 0, none⟩ (.float .f64 d2)).setCell ⟨g17, 1, none⟩ (.float .f64 u2)) = Wt at *
       refine hK.out _ _ ⟨R.a0, R.a1⟩ (fun hHeld => ?_)
       clear hK
       (try simp only [p0, p1, p2, p3])
       refine wpAnyH_done (by kernel_rfl) (NoPanic.normal ?_) _
       go_wp2
       go_meet
       exact ⟨_, _, _, _, _, _, rfl, rfl, hr1, hr2, ⟨fd1, fu1, fd2, fu2⟩, Z16, Z17, R⟩
     ·go_simp
      have Z16 := Zr.new2 w3z17 44
      have hg16 := R.lt
      have hbz : Below w3z17.heap.size w3z17 (w3z17.alloc (.cells #[.float .f64 0, .float .f64 0] 44)) := Below.alloc (Below.refl _ _) (Nat.le_refl _) _
      have hne17 := Nat.ne_of_lt Z17.lt
      replace Z17 := Z17.on hbz
      replace R := R.on hbz
      clear hbz
      generalize w3z17.heap.size = g16 at *
      generalize (w3z17.alloc (.cells #[.float .f64 0, .float .f64 0] 44)) = wa1621 at *
      refine hK.out _ _ ⟨R.a0, R.a1⟩ (fun hHeld => ?_)
      clear hK
      (try simp only [p0, p1, p2, p3])
      refine pR1 12 (fun K hK => ?_)
      go_simp
      (go_at_call 60; with_reducible refine (HD2.out _).mono ?_)
      rintro e2 w4z17z16 ⟨d2, u2, rfl, hb, fd2, fu2, hr2⟩
      (try go_wp2_with fail)
      replace R := R.on hb
      replace Z17 := Z17.on hb
      replace Z16 := Z16.on hb
      clear hb
      refine hK.out _ _ ⟨R.a0, R.a1⟩ (fun hHeld => ?_)
      clear hK
      (try simp only [p0, p1, p2, p3])
      refine pT 13 ?_
      (try simp only [p0, p1, p2, p3])
      refine pT 14 ?_
      (try simp only [p0, p1, p2, p3])
      refine pR1 15 (fun K hK => ?_)
      go_simp
      (go_at_call 68; with_reducible refine (HB.out _ _ _).mono ?_)
      rintro e3 w5z17z16 ⟨rfl, hb⟩
      (try go_wp2_with fail)
      replace R := R.on hb
      replace Z17 := Z17.on hb
      replace Z16 := Z16.on hb
      clear hb
      refine hK.out _ _ ⟨R.a0, R.a1⟩ (fun hHeld => ?_)
      clear hK
      (try simp only [p0, p1, p2, p3])
      have hd : g16 ≠ g17 := by first | exact hne16 | exact hne17.symm
      have x0 := Z16.at_ 0 0 rfl
      have x1 := Z16.at_ 1 0 rfl
      have y0 := Z16.f 0
      have y1 := Z16.f 1
      refine pR1 18 (fun K hK => ?_)
      go_simp
      replace R := R.far hg16 (.float .f64 d1) (.float .f64 u1)
      replace Z17 := Z17.far hd.symm (.float .f64 d1) (.float .f64 u1)
      replace Z16 := Z16.put2 d1 u1
      clear x0 x1 y0 y1
      generalize ((w5z17z16.setCell ⟨g16, 0, none⟩ (.float .f64 d1)).setCell ⟨g16, 1, none⟩ (.float .f64 u1)) = Ws at *
      refine hK.out _ _ ⟨R.a0, R.a1⟩ (fun hHeld => ?_)
      clear hK
      (try simp only [p0, p1, p2, p3])
      have x0 := Z17.at_ 0 0 rfl
      have x1 := Z17.at_ 1 0 rfl
      have y0 := Z17.f 0
      have y1 := Z17.f 1
      refine pR1 19 (fun K hK => ?_)
      go_simp
      replace R := R.far hg17 (.float .f64 d2) (.float .f64 u2)
      replace Z16 := Z16.far hd (.float .f64 d2) (.float .f64 u2)
      replace Z17 := Z17.put2 d2 u2
      clear x0 x1 y0 y1
      generalize ((Ws.setCell ⟨g17, 0, none⟩ (.float .f64 d2)).setCell ⟨g17, 1, none⟩ (.float .f64 u2)) = Wt at *
      refine hK.out _ _ ⟨R.a0, R.a1⟩ (fun hHeld => ?_)
      clear hK
      (try simp only [p0, p1, p2, p3])
      refine wpAnyH_done (by kernel_rfl) (NoPanic.normal ?_) _
      go_wp2
      go_meet
      exact ⟨_, _, _, _, _, _, rfl, rfl, hr1, hr2, ⟨fd1, fu1, fd2, fu2⟩, Z16, Z17, R⟩
    ·go_simp
     have Z16 := Zr.new2 wa1710 44
     have hg16 := R.lt
     have hbz : Below wa1710.heap.size wa1710 (wa1710.alloc (.cells #[.float .f64 0, .float .f64 0] 44)) := Below.alloc (Below.refl _ _) (Nat.le_refl _) _
     have hne17 := Nat.ne_of_lt Z17.lt
     replace Z17 := Z17.on hbz
     replace R := R.on hbz
     clear hbz
     generalize wa1710.heap.size = g16 at *
     generalize (wa1710.alloc (.cells #[.float .f64 0, .float .f64 0] 44)) = wa1611 at *
     refine hK.out _ _ ⟨R.a0, R.a1⟩ (fun hHeld => ?_)
     clear hK
     (try simp only [p0, p1, p2, p3])
     refine pR1 7 (fun K hK => ?_)
     go_simp
     (go_at_call 68; with_reducible refine (HB.out _ _ _).mono ?_)
     rintro e1 w3z17z16 ⟨rfl, hb⟩
     (try go_wp2_with fail)
     replace R := R.on hb
     replace Z17 := Z17.on hb
     replace Z16 := Z16.on hb
     clear hb
     refine hK.out _ _ ⟨R.a0, R.a1⟩ (fun hHeld => ?_)
     clear hK
     (try simp only [p0, p1, p2, p3])
     refine pR1 12 (fun K hK => ?_)
     go_simp
     (go_at_call 60; with_reducible refine (HD2.out _).mono ?_)
     rintro e2 w4z17z16 ⟨d2, u2, rfl, hb, fd2, fu2, hr2⟩
     (try go_wp2_with fail)
     replace R := R.on hb
     replace Z17 := Z17.on hb
     replace Z16 := Z16.on hb
     clear hb
     refine hK.out _ _ ⟨R.a0, R.a1⟩ (fun hHeld => ?_)
     clear hK
     (try simp only [p0, p1, p2, p3])
     refine pT 13 ?_
     (try simp only [p0, p1, p2, p3])
     refine pT 14 ?_
     (try simp only [p0, p1, p2, p3])
     refine pR1 15 (fun K hK => ?_)
     go_simp
     (go_at_call 68; with_reducible refine (HB.out _ _ _).mono ?_)
     rintro e3 w5z17z16 ⟨rfl, hb⟩
     (try go_wp2_with fail)
     replace R := R.on hb
     replace Z17 := Z17.on hb
     replace Z16 := Z16.on hb
     clear hb
     refine hK.out _ _ ⟨R.a0, R.a1⟩ (fun hHeld => ?_)
     clear hK
     (try simp only [p0, p1, p2, p3])
     have hd : g16 ≠ g17 := by first | exact hne16 | exact hne17.symm
     have x0 := Z16.at_ 0 0 rfl
     have x1 := Z16.at_ 1 0 rfl
     have y0 := Z16.f 0
     have y1 := Z16.f 1
     refine pR1 18 (fun K hK => ?_)
     go_simp
     replace R := R.far hg16 (.float .f64 d1) (.float .f64 u1)
     replace Z17 := Z17.far hd.symm (.float .f64 d1) (.float .f64 u1)
     replace Z16 := Z16.put2 d1 u1
     clear x0 x1 y0 y1
     generalize ((w5z17z16.setCell ⟨g16, 0, none⟩ (.float .f64 d1)).setCell ⟨g16, 1, none⟩ (.float .f64 u1)) = Ws at *
     refine hK.out _ _ ⟨R.a0, R.a1⟩ (fun hHeld => ?_)
     clear hK
     (try simp only [p0, p1, p2, p3])
     have x0 := Z17.at_ 0 0 rfl
     have x1 := Z17.at_ 1 0 rfl
     have y0 := Z17.f 0
     have y1 := Z17.f 1
     refine pR1 19 (fun K hK => ?_)
     go_simp
     replace R := R.far hg17 (.float .f64 d2) (.float .f64 u2)
     replace Z16 := Z16.far hd (.float .f64 d2) (.float .f64 u2)
     replace Z17 := Z17.put2 d2 u2
     clear x0 x1 y0 y1
     generalize ((Ws.setCell ⟨g17, 0, none⟩ (.float .f64 d2)).setCell ⟨g17, 1, none⟩ (.float .f64 u2)) = Wt at *
     refine hK.out _ _ ⟨R.a0, R.a1⟩ (fun hHeld => ?_)
     clear hK
     (try simp only [p0, p1, p2, p3])
     refine wpAnyH_done (by kernel_rfl) (NoPanic.normal ?_) _
     go_wp2
     go_meet
     exact ⟨_, _, _, _, _, _, rfl, rfl, hr1, hr2, ⟨fd1, fu1, fd2, fu2⟩, Z16, Z17, R⟩
  ·go_simp
   have Z16 := Zr.new2 Vd 44
   have hg16 := R.lt
   have hbz : Below Vd.heap.size Vd (Vd.alloc (.cells #[.float .f64 0, .float .f64 0] 44)) := Below.alloc (Below.refl _ _) (Nat.le_refl _) _
   replace R := R.on hbz
   clear hbz
   generalize Vd.heap.size = g16 at *
   generalize (Vd.alloc (.cells #[.float .f64 0, .float .f64 0] 44)) = wa1600 at *
   refine hK.out _ _ ⟨R.a0, R.a1⟩ (fun hHeld => ?_)
   clear hK
   (try simp only [p0, p1, p2, p3])
   refine pR2 4 17 (fun K hK => ?_) (fun K hK => ?_)
   ·go_simp
    (go_at_call 60; with_reducible refine (HD1.out _).mono ?_)
    rintro e0 w2z16 ⟨d1, u1, rfl, hb, fd1, fu1, hr1⟩
    (try go_wp2_with fail)
    replace R := R.on hb
    replace Z16 := Z16.on hb
    clear hb
    refine hK.out _ _ ⟨R.a0, R.a1⟩ (fun hHeld => ?_)
    clear hK
    (try simp only [p0, p1, p2, p3])
    refine pT 5 ?_
    (try simp only [p0, p1, p2, p3])
    refine pT 6 ?_
    (try simp only [p0, p1, p2, p3])
    refine pR2 7 17 (fun K hK => ?_) (fun K hK => ?_)
    ·go_simp
     (go_at_call 68; with_reducible refine (HB.out _ _ _).mono ?_)
     rintro e1 w3z16 ⟨rfl, hb⟩
     (try go_wp2_with fail)
     replace R := R.on hb
     replace Z16 := Z16.on hb
     clear hb
     refine hK.out _ _ ⟨R.a0, R.a1⟩ (fun hHeld => ?_)
     clear hK
     (try simp only [p0, p1, p2, p3])
     refine pR2 12 17 (fun K hK => ?_) (fun K hK => ?_)
     ·go_simp
      (go_at_call 60; with_reducible refine (HD2.out _).mono ?_)
      rintro e2 w4z16 ⟨d2, u2, rfl, hb, fd2, fu2, hr2⟩
      (try go_wp2_with fail)
      replace R := R.on hb
      replace Z16 := Z16.on hb
      clear hb
      refine hK.out _ _ ⟨R.a0, R.a1⟩ (fun hHeld => ?_)
      clear hK
      (try simp only [p0, p1, p2, p3])
      refine pT 13 ?_
      (try simp only [p0, p1, p2, p3])
      refine pT 14 ?_
      (try simp only [p0, p1, p2, p3])
      refine pR2 15 17 (fun K hK => ?_) (fun K hK => ?_)
      ·go_simp
       (go_at_call 68; with_reducible refine (HB.out _ _ _).mono ?_)
       rintro e3 w5z16 ⟨rfl, hb⟩
       (try go_wp2_with fail)
       replace R := R.on hb
       replace Z16 := Z16.on hb
       clear hb
       refine hK.out _ _ ⟨R.a0, R.a1⟩ (fun hHeld => ?_)
       clear hK
       (try simp only [p0, p1, p2, p3])
       refine pR1 17 (fun K hK => ?_)
       go_simp
       have Z17 := Zr.new2 w5z16 44
       have hg17 := R.lt
       have hbz : Below w5z16.heap.size w5z16 (w5z16.alloc (.cells #[.float .f64 0, .float .f64 0] 44)) := Below.alloc (Below.refl _ _) (Nat.le_refl _) _
       have hne16 := Nat.ne_of_lt Z16.lt
       replace Z16 := Z16.on hbz
       replace R := R.on hbz
       clear hbz
       generalize w5z16.heap.size = g17 at *
       generalize (w5z16.alloc (.cells #[.float .f64 0, .float .f64 0] 44)) = wa1741 at *
       refine hK.out _ _ ⟨R.a0, R.a1⟩ (fun hHeld => ?_)
       clear hK
       (try simp only [p0, p1, p2, p3])
       have hd : g16 ≠ g17 := by first | exact hne16 | exact hne17.symm
       have x0 := Z16.at_ 0 0 rfl
       have x1 := Z16.at_ 1 0 rfl
       have y0 := Z16.f 0
       have y1 := Z16.f 1
       refine pR1 18 (fun K hK => ?_)
       go_simp
       replace R := R.far hg16 (.float .f64 d1) (.float .f64 u1)
       replace Z17 := Z17.far hd.symm (.float .f64 d1) (.float .f64 u1)
       replace Z16 := Z16.put2 d1 u1
       clear x0 x1 y0 y1
       generalize ((wa1741.setCell ⟨g16, 0, none⟩ (.float .f64 d1)).setCell ⟨g16, 1, none⟩ (.float .f64 u1)) = Ws at *
       refine hK.out _ _ ⟨R.a0, R.a1⟩ (fun hHeld => ?_)
       clear hK
       (try simp only [p0, p1, p2, p3])
       have x0 := Z17.at_ 0 0 rfl
       have x1 := Z17.at_ 1 0 rfl
       have y0 := Z17.f 0
       have y1 := Z17.f 1
       refine pR1 19 (fun K hK => ?_)
       go_simp
       replace R := R.far hg17 (.float .f64 d2) (.float .f64 u2)
       replace Z16 := Z16.far hd (.float .f64 d2) (.float .f64 u2)
       replace Z17 := Z17.put2 d2 u2
       clear x0 x1 y0 y1
       generalize ((Ws.setCell ⟨g17, 0, none⟩ (.float .f64 d2)).setCell ⟨g17, 1, none⟩ (.float .f64 u2)) = Wt at *
       refine hK.out _ _ ⟨R.a0, R.a1⟩ (fun hHeld => ?_)
       clear hK
       (try simp only [p0, p1, p2, p3])
       refine wpAnyH_done (by kernel_rfl) (NoPanic.normal ?_) _
       go_wp2
       go_meet
       exact ⟨_, _, _, _, _, _, rfl, rfl, hr1, hr2, ⟨fd1, fu1, fd2, fu2⟩, Z16, Z17, R⟩
      ·go_simp
       have Z17 := Zr.new2 w4z16 44
       have hg17 := R.lt
       have hbz : Below w4z16.heap.size w4z16 (w4z16.alloc (.cells #[.float .f64 0, .float .f64 0] 44)) := Below.alloc (Below.refl _ _) (Nat.le_refl _) _
       have hne16 := Nat.ne_of_lt Z16.lt
       replace Z16 := Z16.on hbz
       replace R := R.on hbz
       clear hbz
       generalize w4z16.heap.size = g17 at *
       generalize (w4z16.alloc (.cells #[.float .f64 0, .float .f64 0] 44)) = wa1731 at *
       refine hK.out _ _ ⟨R.a0, R.a1⟩ (fun hHeld => ?_)
       clear hK
       (try simp only [p0, p1, p2, p3])
       refine pR1 15 (fun K hK => ?_)
       go_simp
       (go_at_call 68; with_reducible refine (HB.out _ _ _).mono ?_)
       rintro e3 w5z16z17 ⟨rfl, hb⟩
       (try go_wp2_with fail)
       replace R := R.on hb
       replace Z16 := Z16.on hb
       replace Z17 := Z17.on hb
       clear hb
       refine hK.out _ _ ⟨R.a0, R.a1⟩ (fun hHeld => ?_)
       clear hK
       (try simp only [p0, p1, p2, p3])
       have hd : g16 ≠ g17 := by first | exact hne16 | exact hne17.symm
       have x0 := Z16.at_ 0 0 rfl
       have x1 := Z16.at_ 1 0 rfl
       have y0 := Z16.f 0
       have y1 := Z16.f 1
       refine pR1 18 (fun K hK => ?_)
       go_simp
       replace R := R.far hg16 (.float .f64 d1) (.float .f64 u1)
       replace Z17 := Z17.far hd.symm (.float .f64 d1) (.float .f64 u1)
       replace Z16 := Z16.put2 d1 u1
       clear x0 x1 y0 y1
       generalize ((w5z16z17.setCell ⟨g16, 0, none⟩ (.float .f64 d1)).setCell ⟨g16, 1, none⟩ (.float .f64 u1)) = Ws at *
       refine hK.out _ _ ⟨R.a0, R.a1⟩ (fun hHeld => ?_)
       clear hK
       (try simp only [p0, p1, p2, p3])
       have x0 := Z17.at_ 0 0 rfl
       have x1 := Z17.at_ 1 0 rfl
       have y0 := Z17.f 0
       have y1 := Z17.f 1
       refine pR1 19 (fun K hK => ?_)
       go_simp
       replace R := R.far hg17 (.float .f64 d2) (.float .f64 u2)
       replace Z16 := Z16.far hd (.float .f64 d2) (.float .f64 u2)
       replace Z17 := Z17.put2 d2 u2
       clear x0 x1 y0 y1
       generalize ((Ws.setCell ⟨g17, 0, none⟩ (.float .f64 d2)).setCell ⟨g17, 1, none⟩ (.float .f64 u2)) = Wt at *
       refine hK.out _ _ ⟨R.a0, R.a1⟩ (fun hHeld => ?_)
       clear hK
       (try simp only [p0, p1, p2, p3])
       refine wpAnyH_done (by kernel_rfl) (NoPanic.normal ?_) _
       go_wp2
       go_meet
       exact ⟨_, _, _, _, _, _, rfl, rfl, hr1, hr2, ⟨fd1, fu1, fd2, fu2⟩, Z16, Z17, R⟩
     ·go_simp
      have Z17 := Zr.new2 w3z16 44
      have hg17 := R.lt
      have hbz : Below w3z16.heap.size w3z16 (w3z16.alloc (.cells #[.float .f64 0, .float .f64 0] 44)) := Below.alloc (Below.refl _ _) (Nat.le_refl _) _
      have hne16 := Nat.ne_of_lt Z16.lt
      replace Z16 := Z16.on hbz
      replace R := R.on hbz
      clear hbz
      generalize w3z16.heap.size = g17 at *
      generalize (w3z16.alloc (.cells #[.float .f64 0, .float .f64 0] 44)) = wa1721 at *
      refine hK.out _ _ ⟨R.a0, R.a1⟩ (fun hHeld => ?_)
      clear hK
      (try simp only [p0, p1, p2, p3])
      refine pR1 12 (fun K hK => ?_)
      go_simp
      (go_at_call 60; with_reducible refine (HD2.out _).mono ?_)
      rintro e2 w4z16z17 ⟨d2, u2, rfl, hb, fd2, fu2, hr2⟩
      (try go_wp2_with fail)
      replace R := R.on hb
      replace Z16 := Z16.on hb
      replace Z17 := Z17.on hb
      clear hb
      refine hK.out _ _ ⟨R.a0, R.a1⟩ (fun hHeld => ?_)
      clear hK
      (try simp only [p0, p1, p2, p3])
      refine pT 13 ?_
      (try simp only [p0, p1, p2, p3])
      refine pT 14 ?_
      (try simp only [p0, p1, p2, p3])
      refine pR1 15 (fun K hK => ?_)
      go_simp
      (go_at_call 68; with_reducible refine (HB.out _ _ _).mono ?_)
      rintro e3 w5z16z17 ⟨rfl, hb⟩
      (try go_wp2_with fail)
      replace R := R.on hb
      replace Z16 := Z16.on hb
      replace Z17 := Z17.on hb
      clear hb
      refine hK.out _ _ ⟨R.a0, R.a1⟩ (fun hHeld => ?_)
      clear hK
      (try simp only [p0, p1, p2, p3])
      have hd : g16 ≠ g17 := by first | exact hne16 | exact hne17.symm
      have x0 := Z16.at_ 0 0 rfl
      have x1 := Z16.at_ 1 0 rfl
      have y0 := Z16.f 0
      have y1 := Z16.f 1
      refine pR1 18 (fun K hK => ?_)
      go_simp
      replace R := R.far hg16 (.float .f64 d1) (.float .f64 u1)
      replace Z17 := Z17.far hd.symm (.float .f64 d1) (.float .f64 u1)
      replace Z16 := Z16.put2 d1 u1
      clear x0 x1 y0 y1
      generalize ((w5z16z17.setCell ⟨g16, 0, none⟩ (.float .f64 d1)).setCell ⟨g16, 1, none⟩ (.float .f64 u1)) = Ws at *
      refine hK.out _ _ ⟨R.a0, R.a1⟩ (fun hHeld => ?_)
      clear hK
      (try simp only [p0, p1, p2, p3])
      have x0 := Z17.at_ 0 0 rfl
      have x1 := Z17.at_ 1 0 rfl
      have y0 := Z17.f 0
      have y1 := Z17.f 1
      refine pR1 19 (fun K hK => ?_)
      go_simp
      replace R := R.far hg17 (.float .f64 d2) (.float .f64 u2)
      replace Z16 := Z16.far hd (.float .f64 d2) (.float .f64 u2)
      replace Z17 := Z17.put2 d2 u2
      clear x0 x1 y0 y1
      generalize ((Ws.setCell ⟨g17, 0, none⟩ (.float .f64 d2)).setCell ⟨g17, 1, none⟩ (.float .f64 u2)) = Wt at *
      refine hK.out _ _ ⟨R.a0, R.a1⟩ (fun hHeld => ?_)
      clear hK
      (try simp only [p0, p1, p2, p3])
      refine wpAnyH_done (by kernel_rfl) (NoPanic.normal ?_) _
      go_wp2
      go_meet
      exact ⟨_, _, _, _, _, _, rfl, rfl, hr1, hr2, ⟨fd1, fu1, fd2, fu2⟩, Z16, Z17, R⟩
    ·go_simp
     have Z17 := Zr.new2 w2z16 44
     have hg17 := R.lt
     have hbz : Below w2z16.heap.size w2z16 (w2z16.alloc (.cells #[.float .f64 0, .float .f64 0] 44)) := Below.alloc (Below.refl _ _) (Nat.le_refl _) _
     have hne16 := Nat.ne_of_lt Z16.lt
     replace Z16 := Z16.on hbz
     replace R := R.on hbz
     clear hbz
     generalize w2z16.heap.size = g17 at *
     generalize (w2z16.alloc (.cells #[.float .f64 0, .float .f64 0] 44)) = wa1711 at *
     refine hK.out _ _ ⟨R.a0, R.a1⟩ (fun hHeld => ?_)
     clear hK
     (try simp only [p0, p1, p2, p3])
     refine pR1 7 (fun K hK => ?_)
     go_simp
     (go_at_call 68; with_reducible refine (HB.out _ _ _).mono ?_)
     rintro e1 w3z16z17 ⟨rfl, hb⟩
     (try go_wp2_with fail)
     replace R := R.on hb
     replace Z16 := Z16.on hb
     replace Z17 := Z17.on hb
     clear hb
     refine hK.out _ _ ⟨R.a0, R.a1⟩ (fun hHeld => ?_)
     clear hK
     (try simp only [p0, p1, p2, p3])
     refine pR1 12 (fun K hK => ?_)
     go_simp
     (go_at_call 60; with_reducible refine (HD2.out _).mono ?_)
     rintro e2 w4z16z17 ⟨d2, u2, rfl, hb, fd2, fu2, hr2⟩
     (try go_wp2_with fail)
     replace R := R.on hb
     replace Z16 := Z16.on hb
     replace Z17 := Z17.on hb
     clear hb
     refine hK.out _ _ ⟨R.a0, R.a1⟩ (fun hHeld => ?_)
     clear hK
     (try simp only [p0, p1, p2, p3])
     refine pT 13 ?_
     (try simp only [p0, p1, p2, p3])
     refine pT 14 ?_
     (try simp only [p0, p1, p2, p3])
     refine pR1 15 (fun K hK => ?_)
     go_simp
     (go_at_call 68; with_reducible refine (HB.out _ _ _).mono ?_)
     rintro e3 w5z16z17 ⟨rfl, hb⟩
     (try go_wp2_with fail)
     replace R := R.on hb
     replace Z16 := Z16.on hb
     replace Z17 := Z17.on hb
     clear hb
     refine hK.out _ _ ⟨R.a0, R.a1⟩ (fun hHeld => ?_)
     clear hK
     (try simp only [p0, p1, p2, p3])
     have hd : g16 ≠ g17 := by first | exact hne16 | exact hne17.symm
     have x0 := Z16.at_ 0 0 rfl
     have x1 := Z16.at_ 1 0 rfl
     have y0 := Z16.f 0
     have y1 := Z16.f 1
     refine pR1 18 (fun K hK => ?_)
     go_simp
     replace R := R.far hg16 (.float .f64 d1) (.float .f64 u1)
     replace Z17 := Z17.far hd.symm (.float .f64 d1) (.float .f64 u1)
     replace Z16 := Z16.put2 d1 u1
     clear x0 x1 y0 y1
     generalize ((w5z16z17.setCell ⟨g16, 0, none⟩ (.float .f64 d1)).setCell ⟨g16, 1, none⟩ (.float .f64 u1)) = Ws at *
     refine hK.out _ _ ⟨R.a0, R.a1⟩ (fun hHeld => ?_)
     clear hK
     (try simp only [p0, p1, p2, p3])
     have x0 := Z17.at_ 0 0 rfl
     have x1 := Z17.at_ 1 0 rfl
     have y0 := Z17.f 0
     have y1 := Z17.f 1
     refine pR1 19 (fun K hK => ?_)
     go_simp
     replace R := R.far hg17 (.float .f64 d2) (.float .f64 u2)
     replace Z16 := Z16.far hd (.float .f64 d2) (.float .f64 u2)
     replace Z17 := Z17.put2 d2 u2
     clear x0 x1 y0 y1
     generalize ((Ws.setCell ⟨g17, 0, none⟩ (.float .f64 d2)).setCell ⟨g17, 1, none⟩ (.float .f64 u2)) = Wt at *
     refine hK.out _ _ ⟨R.a0, R.a1⟩ (fun hHeld => ?_)
     clear hK
     (try simp only [p0, p1, p2, p3])
     refine wpAnyH_done (by kernel_rfl) (NoPanic.normal ?_) _
     go_wp2
     go_meet
     exact ⟨_, _, _, _, _, _, rfl, rfl, hr1, hr2, ⟨fd1, fu1, fd2, fu2⟩, Z16, Z17, R⟩
   ·go_simp
    have Z17 := Zr.new2 wa1600 44
    have hg17 := R.lt
    have hbz : Below wa1600.heap.size wa1600 (wa1600.alloc (.cells #[.float .f64 0, .float .f64 0] 44)) := Below.alloc (Below.refl _ _) (Nat.le_refl _) _
    have hne16 := Nat.ne_of_lt Z16.lt
    replace Z16 := Z16.on hbz
    replace R := R.on hbz
    clear hbz
    generalize wa1600.heap.size = g17 at *
    generalize (wa1600.alloc (.cells #[.float .f64 0, .float .f64 0] 44)) = wa1701 at *
    refine hK.out _ _ ⟨R.a0, R.a1⟩ (fun hHeld => ?_)
    clear hK
    (try simp only [p0, p1, p2, p3])
    refine pR1 4 (fun K hK => ?_)
    go_simp
    (go_at_call 60; with_reducible refine (HD1.out _).mono ?_)
    rintro e0 w2z16z17 ⟨d1, u1, rfl, hb, fd1, fu1, hr1⟩
    (try go_wp2_with fail)
    replace R := R.on hb
    replace Z16 := Z16.on hb
    replace Z17 := Z17.on hb
    clear hb
    refine hK.out _ _ ⟨R.a0, R.a1⟩ (fun hHeld => ?_)
    clear hK
    (try simp only [p0, p1, p2, p3])
    refine pT 5 ?_
    (try simp only [p0, p1, p2, p3])
    refine pT 6 ?_
    (try simp only [p0, p1, p2, p3])
    refine pR1 7 (fun K hK => ?_)
    go_simp
    (go_at_call 68; with_reducible refine (HB.out _ _ _).mono ?_)
    rintro e1 w3z16z17 ⟨rfl, hb⟩
    (try go_wp2_with fail)
    replace R := R.on hb
    replace Z16 := Z16.on hb
    replace Z17 := Z17.on hb
    clear hb
    refine hK.out _ _ ⟨R.a0, R.a1⟩ (fun hHeld => ?_)
    clear hK
    (try simp only [p0, p1, p2, p3])
    refine pR1 12 (fun K hK => ?_)
    go_simp
    (go_at_call 60; with_reducible refine (HD2.out _).mono ?_)
    rintro e2 w4z16z17 ⟨d2, u2, rfl, hb, fd2, fu2, hr2⟩
    (try go_wp2_with fail)
    replace R := R.on hb
    replace Z16 := Z16.on hb
    replace Z17 := Z17.on hb
    clear hb
    refine hK.out _ _ ⟨R.a0, R.a1⟩ (fun hHeld => ?_)
    clear hK
    (try simp only [p0, p1, p2, p3])
    refine pT 13 ?_
    (try simp only [p0, p1, p2, p3])
    refine pT 14 ?_
    (try simp only [p0, p1, p2, p3])
    refine pR1 15 (fun K hK => ?_)
    go_simp
    (go_at_call 68; with_reducible refine (HB.out _ _ _).mono ?_)
    rintro e3 w5z16z17 ⟨rfl, hb⟩
    (try go_wp2_with fail)
    replace R := R.on hb
    replace Z16 := Z16.on hb
    replace Z17 := Z17.on hb
    clear hb
    refine hK.out _ _ ⟨R.a0, R.a1⟩ (fun hHeld => ?_)
    clear hK
    (try simp only [p0, p1, p2, p3])
    have hd : g16 ≠ g17 := by first | exact hne16 | exact hne17.symm
    have x0 := Z16.at_ 0 0 rfl
    have x1 := Z16.at_ 1 0 rfl
    have y0 := Z16.f 0
    have y1 := Z16.f 1
    refine pR1 18 (fun K hK => ?_)
    go_simp
    replace R := R.far hg16 (.float .f64 d1) (.float .f64 u1)
    replace Z17 := Z17.far hd.symm (.float .f64 d1) (.float .f64 u1)
    replace Z16 := Z16.put2 d1 u1
    clear x0 x1 y0 y1
    generalize ((w5z16z17.setCell ⟨g16, 0, none⟩ (.float .f64 d1)).setCell ⟨g16, 1, none⟩ (.float .f64 u1)) = Ws at *
    refine hK.out _ _ ⟨R.a0, R.a1⟩ (fun hHeld => ?_)
    clear hK
    (try simp only [p0, p1, p2, p3])
    have x0 := Z17.at_ 0 0 rfl
    have x1 := Z17.at_ 1 0 rfl
    have y0 := Z17.f 0
    have y1 := Z17.f 1
    refine pR1 19 (fun K hK => ?_)
    go_simp
    replace R := R.far hg17 (.float .f64 d2) (.float .f64 u2)
    replace Z16 := Z16.far hd (.float .f64 d2) (.float .f64 u2)
    replace Z17 := Z17.put2 d2 u2
    clear x0 x1 y0 y1
    generalize ((Ws.setCell ⟨g17, 0, none⟩ (.float .f64 d2)).setCell ⟨g17, 1, none⟩ (.float .f64 u2)) = Wt at *
    refine hK.out _ _ ⟨R.a0, R.a1⟩ (fun hHeld => ?_)
    clear hK
    (try simp only [p0, p1, p2, p3])
    refine wpAnyH_done (by kernel_rfl) (NoPanic.normal ?_) _
    go_wp2
    go_meet
    exact ⟨_, _, _, _, _, _, rfl, rfl, hr1, hr2, ⟨fd1, fu1, fd2, fu2⟩, Z16, Z17, R⟩
  ·go_simp
   have Z17 := Zr.new2 Vd 44
   have hg17 := R.lt
   have hbz : Below Vd.heap.size Vd (Vd.alloc (.cells #[.float .f64 0, .float .f64 0] 44)) := Below.alloc (Below.refl _ _) (Nat.le_refl _) _
   replace R := R.on hbz
   clear hbz
   generalize Vd.heap.size = g17 at *
   generalize (Vd.alloc (.cells #[.float .f64 0, .float .f64 0] 44)) = wa1700 at *
   refine hK.out _ _ ⟨R.a0, R.a1⟩ (fun hHeld => ?_)
   clear hK
   (try simp only [p0, p1, p2, p3])
   refine pR2 4 16 (fun K hK => ?_) (fun K hK => ?_)
   ·go_simp
    (go_at_call 60; with_reducible refine (HD1.out _).mono ?_)
    rintro e0 w2z17 ⟨d1, u1, rfl, hb, fd1, fu1, hr1⟩
    (try go_wp2_with fail)
    replace R := R.on hb
    replace Z17 := Z17.on hb
    clear hb
    refine hK.out _ _ ⟨R.a0, R.a1⟩ (fun hHeld => ?_)
    clear hK
    (try simp only [p0, p1, p2, p3])
    refine pT 5 ?_
    (try simp only [p0, p1, p2, p3])
    refine pT 6 ?_
    (try simp only [p0, p1, p2, p3])
    refine pR2 7 16 (fun K hK => ?_) (fun K hK => ?_)
    ·go_simp
     (go_at_call 68; with_reducible refine (HB.out _ _ _).mono ?_)
     rintro e1 w3z17 ⟨rfl, hb⟩
     (try go_wp2_with fail)
     replace R := R.on hb
     replace Z17 := Z17.on hb
     clear hb
     refine hK.out _ _ ⟨R.a0, R.a1⟩ (fun hHeld => ?_)
     clear hK
     (try simp only [p0, p1, p2, p3])
     refine pR2 12 16 (fun K hK => ?_) (fun K hK => ?_)
     ·go_simp
      (go_at_call 60; with_reducible refine (HD2.out _).mono ?_)
      rintro e2 w4z17 ⟨d2, u2, rfl, hb, fd2, fu2, hr2⟩
      (try go_wp2_with fail)
      replace R := R.on hb
      replace Z17 := Z17.on hb
      clear hb
      refine hK.out _ _ ⟨R.a0, R.a1⟩ (fun hHeld => ?_)
      clear hK
      (try simp only [p0, p1, p2, p3])
      refine pT 13 ?_
      (try simp only [p0, p1, p2, p3])
      refine pT 14 ?_
      (try simp only [p0, p1, p2, p3])
      refine pR2 15 16 (fun K hK => ?_) (fun K hK => ?_)
      ·go_simp
       (go_at_call 68; with_reducible refine (HB.out _ _ _).mono ?_)
       rintro e3 w5z17 ⟨rfl, hb⟩
       (try go_wp2_with fail)
       replace R := R.on hb
       replace Z17 := Z17.on hb
       clear hb
       refine hK.out _ _ ⟨R.a0, R.a1⟩ (fun hHeld => ?_)
       clear hK
       (try simp only [p0, p1, p2, p3])
       refine pR1 16 (fun K hK => ?_)
       go_simp
       have Z16 := Zr.new2 w5z17 44
       have hg16 := R.lt
       have hbz : Below w5z17.heap.size w5z17 (w5z17.alloc (.cells #[.float .f64 0, .float .f64 0] 44)) := Below.alloc (Below.refl _ _) (Nat.le_refl _) _
       have hne17 := Nat.ne_of_lt Z17.lt
       replace Z17 := Z17.on hbz
       replace R := R.on hbz
       clear hbz
       generalize w5z17.heap.size = g16 at *
       generalize (w5z17.alloc (.cells #[.float .f64 0, .float .f64 0] 44)) = wa1641 at *
       refine hK.out _ _ ⟨R.a0, R.a1⟩ (fun hHeld => ?_)
       clear hK
       (try simp only [p0, p1, p2, p3])
       have hd : g16 ≠ g17 := by first | exact hne16 | exact hne17.symm
       have x0 := Z16.at_ 0 0 rfl
       have x1 := Z16.at_ 1 0 rfl
       have y0 := Z16.f 0
       have y1 := Z16.f 1
       refine pR1 18 (fun K hK => ?_)
       go_simp
       replace R := R.far hg16 (.float .f64 d1) (.float .f64 u1)
       replace Z17 := Z17.far hd.symm (.float .f64 d1) (.float .f64 u1)
       replace Z16 := Z16.put2 d1 u1
       clear x0 x1 y0 y1
       generalize ((wa1641.setCell ⟨g16, 0, none⟩ (.float .f64 d1)).setCell ⟨g16, 1, none⟩ (.float .f64 u1)) = Ws at *
       refine hK.out _ _ ⟨R.a0, R.a1⟩ (fun hHeld => ?_)
       clear hK
       (try simp only [p0, p1, p2, p3])
       have x0 := Z17.at_ 0 0 rfl
       have x1 := Z17.at_ 1 0 rfl
       have y0 := Z17.f 0
       have y1 := Z17.f 1
       refine pR1 19 (fun K hK => ?_)
       go_simp
       replace R := R.far hg17 (.float .f64 d2) (.float .f64 u2)
       replace Z16 := Z16.far hd (.float .f64 d2) (.float .f64 u2)
       replace Z17 := Z17.put2 d2 u2
       clear x0 x1 y0 y1
       generalize ((Ws.setCell ⟨g17, 0, none⟩ (.float .f64 d2)).setCell ⟨g17, 1, none⟩ (.float .f64 u2)) = Wt at *
       refine hK.out _ _ ⟨R.a0, R.a1⟩ (fun hHeld => ?_)
       clear hK
       (try simp only [p0, p1, p2, p3])
       refine wpAnyH_done (by kernel_rfl) (NoPanic.normal ?_) _
       go_wp2
       go_meet
       exact ⟨_, _, _, _, _, _, rfl, rfl, hr1, hr2, ⟨fd1, fu1, fd2, fu2⟩, Z16, Z17, R⟩
      ·go_simp
       have Z16 := Zr.new2 w4z17 44
       have hg16 := R.lt
       have hbz : Below w4z17.heap.size w4z17 (w4z17.alloc (.cells #[.float .f64 0, .float .f64 0] 44)) := Below.alloc (Below.refl _ _) (Nat.le_refl _) _
       have hne17 := Nat.ne_of_lt Z17.lt
       replace Z17 := Z17.on hbz
       replace R := R.on hbz
       clear hbz
       generalize w4z17.heap.size = g16 at *
       generalize (w4z17.alloc (.cells #[.float .f64 0, .float .f64 0] 44)) = wa1631 at *
       refine hK.out _ _ ⟨R.a0, R.a1⟩ (fun hHeld => ?_)
       clear hK
       (try simp only [p0, p1, p2, p3])
       refine pR1 15 (fun K hK => ?_)
       go_simp
       (go_at_call 68; with_reducible refine (HB.out _ _ _).mono ?_)
       rintro e3 w5z17z16 ⟨rfl, hb⟩
       (try go_wp2_with fail)
       replace R := R.on hb
       replace Z17 := Z17.on hb
       replace Z16 := Z16.on hb
       clear hb
       refine hK.out _ _ ⟨R.a0, R.a1⟩ (fun hHeld => ?_)
       clear hK
       (try simp only [p0, p1, p2, p3])
       have hd : g16 ≠ g17 := by first | exact hne16 | exact hne17.symm
       have x0 := Z16.at_ 0 0 rfl
       have x1 := Z16.at_ 1 0 rfl
       have y0 := Z16.f 0
       have y1 := Z16.f 1
       refine pR1 18 (fun K hK => ?_)
       go_simp
       replace R := R.far hg16 (.float .f64 d1) (.float .f64 u1)
       replace Z17 := Z17.far hd.symm (.float .f64 d1) (.float .f64 u1)
       replace Z16 := Z16.put2 d1 u1
       clear x0 x1 y0 y1
       generalize ((w5z17z16.setCell ⟨g16, 0, none⟩ (.float .f64 d1)).setCell ⟨g16, 1, none⟩ (.float .f64 u1)) = Ws at *
       refine hK.out _ _ ⟨R.a0, R.a1⟩ (fun hHeld => ?_)
       clear hK
       (try simp only [p0, p1, p2, p3])
       have x0 := Z17.at_ 0 0 rfl
       have x1 := Z17.at_ 1 0 rfl
       have y0 := Z17.f 0
       have y1 := Z17.f 1
       refine pR1 19 (fun K hK => ?_)
       go_simp
       replace R := R.far hg17 (.float .f64 d2) (.float .f64 u2)
       replace Z16 := Z16.far hd (.float .f64 d2) (.float .f64 u2)
       replace Z17 := Z17.put2 d2 u2
       clear x0 x1 y0 y1
       generalize ((Ws.setCell ⟨g17, 0, none⟩ (.float .f64 d2)).setCell ⟨g17, 1, none⟩ (.float .f64 u2)) = Wt at *
       refine hK.out _ _ ⟨R.a0, R.a1⟩ (fun hHeld => ?_)
       clear hK
       (try simp only [p0, p1, p2, p3])
       refine wpAnyH_done (by kernel_rfl) (NoPanic.normal ?_) _
       go_wp2
       go_meet
       exact ⟨_, _, _, _, _, _, rfl, rfl, hr1, hr2, ⟨fd1, fu1, fd2, fu2⟩, Z16, Z17, R⟩
     ·go_simp
      have Z16 := Zr.new2 w3z17 44
      have hg16 := R.lt
      have hbz : Below w3z17.heap.size w3z17 (w3z17.alloc (.cells #[.float .f64 0, .float .f64 0] 44)) := Below.alloc (Below.refl _ _) (Nat.le_refl _) _
      have hne17 := Nat.ne_of_lt Z17.lt
      replace Z17 := Z17.on hbz
      replace R := R.on hbz
      clear hbz
      generalize w3z17.heap.size = g16 at *
      generalize (w3z17.alloc (.cells #[.float .f64 0, .float .f64 0] 44)) = wa1621 at *
      refine hK.out _ _ ⟨R.a0, R.a1⟩ (fun hHeld => ?_)
      clear hK
      (try simp only [p0, p1, p2, p3])
      refine pR1 12 (fun K hK => ?_)
      go_simp
      (go_at_call 60; with_reducible refine (HD2.out _).mono ?_)
      rintro e2 w4z17z16 ⟨d2, u2, rfl, hb, fd2, fu2, hr2⟩
      (try go_wp2_with fail)
      replace R := R.on hb
      replace Z17 := Z17.on hb
      replace Z16 := Z16.on hb
      clear hb
      refine hK.out _ _ ⟨R.a0, R.a1⟩ (fun hHeld => ?_)
      clear hK
      (try simp only [p0, p1, p2, p3])
      refine pT 13 ?_
      (try simp only [p0, p1, p2, p3])
      refine pT 14 ?_
      (try simp only [p0, p1, p2, p3])
      refine pR1 15 (fun K hK => ?_)
      go_simp
      (go_at_call 68; with_reducible refine (HB.out _ _ _).mono ?_)
      rintro e3 w5z17z16 ⟨rfl, hb⟩
      (try go_wp2_with fail)
      replace R := R.on hb
      replace Z17 := Z17.on hb
      replace Z16 := Z16.on hb
      clear hb
      refine hK.out _ _ ⟨R.a0, R.a1⟩ (fun hHeld => ?_)
      clear hK
      (try simp only [p0, p1, p2, p3])
      have hd : g16 ≠ g17 := by first | exact hne16 | exact hne17.symm
      have x0 := Z16.at_ 0 0 rfl
      have x1 := Z16.at_ 1 0 rfl
      have y0 := Z16.f 0
      have y1 := Z16.f 1
      refine pR1 18 (fun K hK => ?_)
      go_simp
      replace R := R.far hg16 (.float .f64 d1) (.float .f64 u1)
      replace Z17 := Z17.far hd.symm (.float .f64 d1) (.float .f64 u1)
      replace Z16 := Z16.put2 d1 u1
      clear x0 x1 y0 y1
      generalize ((w5z17z16.setCell ⟨g16, 0, none⟩ (.float .f64 d1)).setCell ⟨g16, 1, none⟩ (.float .f64 u1)) = Ws at *
      refine hK.out _ _ ⟨R.a0, R.a1⟩ (fun hHeld => ?_)
      clear hK
      (try simp only [p0, p1, p2, p3])
      have x0 := Z17.at_ 0 0 rfl
      have x1 := Z17.at_ 1 0 rfl
      have y0 := Z17.f 0
      have y1 := Z17.f 1
      refine pR1 19 (fun K hK => ?_)
      go_simp
      replace R := R.far hg17 (.float .f64 d2) (.float .f64 u2)
      replace Z16 := Z16.far hd (.float .f64 d2) (.float .f64 u2)
      replace Z17 := Z17.put2 d2 u2
      clear x0 x1 y0 y1
      generalize ((Ws.setCell ⟨g17, 0, none⟩ (.float .f64 d2)).setCell ⟨g17, 1, none⟩ (.float .f64 u2)) = Wt at *
      refine hK.out _ _ ⟨R.a0, R.a1⟩ (fun hHeld => ?_)
      clear hK
      (try simp only [p0, p1, p2, p3])
      refine wpAnyH_done (by kernel_rfl) (NoPanic.normal ?_) _
      go_wp2
      go_meet
      exact ⟨_, _, _, _, _, _, rfl, rfl, hr1, hr2, ⟨fd1, fu1, fd2, fu2⟩, Z16, Z17, R⟩
    ·go_simp
     have Z16 := Zr.new2 w2z17 44
     have hg16 := R.lt
     have hbz : Below w2z17.heap.size w2z17 (w2z17.alloc (.cells #[.float .f64 0, .float .f64 0] 44)) := Below.alloc (Below.refl _ _) (Nat.le_refl _) _
     have hne17 := Nat.ne_of_lt Z17.lt
     replace Z17 := Z17.on hbz
     replace R := R.on hbz
     clear hbz
     generalize w2z17.heap.size = g16 at *
     generalize (w2z17.alloc (.cells #[.float .f64 0, .float .f64 0] 44)) = wa1611 at *
     refine hK.out _ _ ⟨R.a0, R.a1⟩ (fun hHeld => ?_)
     clear hK
     (try simp only [p0, p1, p2, p3])
     refine pR1 7 (fun K hK => ?_)
     go_simp
     (go_at_call 68; with_reducible refine (HB.out _ _ _).mono ?_)
     rintro e1 w3z17z16 ⟨rfl, hb⟩
     (try go_wp2_with fail)
     replace R := R.on hb
     replace Z17 := Z17.on hb
     replace Z16 := Z16.on hb
     clear hb
     refine hK.out _ _ ⟨R.a0, R.a1⟩ (fun hHeld => ?_)
     clear hK
     (try simp only [p0, p1, p2, p3])
     refine pR1 12 (fun K hK => ?_)
     go_simp
     (go_at_call 60; with_reducible refine (HD2.out _).mono ?_)
     rintro e2 w4z17z16 ⟨d2, u2, rfl, hb, fd2, fu2, hr2⟩
     (try go_wp2_with fail)
     replace R := R.on hb
     replace Z17 := Z17.on hb
     replace Z16 := Z16.on hb
     clear hb
     refine hK.out _ _ ⟨R.a0, R.a1⟩ (fun hHeld => ?_)
     clear hK
     (try simp only [p0, p1, p2, p3])
     refine pT 13 ?_
     (try simp only [p0, p1, p2, p3])
     refine pT 14 ?_
     (try simp only [p0, p1, p2, p3])
     refine pR1 15 (fun K hK => ?_)
     go_simp
     (go_at_call 68; with_reducible refine (HB.out _ _ _).mono ?_)
     rintro e3 w5z17z16 ⟨rfl, hb⟩
     (try go_wp2_with fail)
     replace R := R.on hb
     replace Z17 := Z17.on hb
     replace Z16 := Z16.on hb
     clear hb
     refine hK.out _ _ ⟨R.a0, R.a1⟩ (fun hHeld => ?_)
     clear hK
     (try simp only [p0, p1, p2, p3])
     have hd : g16 ≠ g17 := by first | exact hne16 | exact hne17.symm
     have x0 := Z16.at_ 0 0 rfl
     have x1 := Z16.at_ 1 0 rfl
     have y0 := Z16.f 0
     have y1 := Z16.f 1
     refine pR1 18 (fun K hK => ?_)
     go_simp
     replace R := R.far hg16 (.float .f64 d1) (.float .f64 u1)
     replace Z17 := Z17.far hd.symm (.float .f64 d1) (.float .f64 u1)
     replace Z16 := Z16.put2 d1 u1
     clear x0 x1 y0 y1
     generalize ((w5z17z16.setCell ⟨g16, 0, none⟩ (.float .f64 d1)).setCell ⟨g16, 1, none⟩ (.float .f64 u1)) = Ws at *
     refine hK.out _ _ ⟨R.a0, R.a1⟩ (fun hHeld => ?_)
     clear hK
     (try simp only [p0, p1, p2, p3])
     have x0 := Z17.at_ 0 0 rfl
     have x1 := Z17.at_ 1 0 rfl
     have y0 := Z17.f 0
     have y1 := Z17.f 1
     refine pR1 19 (fun K hK => ?_)
     go_simp
     replace R := R.far hg17 (.float .f64 d2) (.float .f64 u2)
     replace Z16 := Z16.far hd (.float .f64 d2) (.float .f64 u2)
     replace Z17 := Z17.put2 d2 u2
     clear x0 x1 y0 y1
     generalize ((Ws.setCell ⟨g17, 0, none⟩ (.float .f64 d2)).setCell ⟨g17, 1, none⟩ (.float .f64 u2)) = Wt at *
     refine hK.out _ _ ⟨R.a0, R.a1⟩ (fun hHeld => ?_)
     clear hK
     (try simp only [p0, p1, p2, p3])
     refine wpAnyH_done (by kernel_rfl) (NoPanic.normal ?_) _
     go_wp2
     go_meet
     exact ⟨_, _, _, _, _, _, rfl, rfl, hr1, hr2, ⟨fd1, fu1, fd2, fu2⟩, Z16, Z17, R⟩
   ·go_simp
    have Z16 := Zr.new2 wa1700 44
    have hg16 := R.lt
    have hbz : Below wa1700.heap.size wa1700 (wa1700.alloc (.cells #[.float .f64 0, .float .f64 0] 44)) := Below.alloc (Below.refl _ _) (Nat.le_refl _) _
    have hne17 := Nat.ne_of_lt Z17.lt
    replace Z17 := Z17.on hbz
    replace R := R.on hbz
    clear hbz
    generalize wa1700.heap.size = g16 at *
    generalize (wa1700.alloc (.cells #[.float .f64 0, .float .f64 0] 44)) = wa1601 at *
    refine hK.out _ _ ⟨R.a0, R.a1⟩ (fun hHeld => ?_)
    clear hK
    (try simp only [p0, p1, p2, p3])
    refine pR1 4 (fun K hK => ?_)
    go_simp
    (go_at_call 60; with_reducible refine (HD1.out _).mono ?_)
    rintro e0 w2z17z16 ⟨d1, u1, rfl, hb, fd1, fu1, hr1⟩
    (try go_wp2_with fail)
    replace R := R.on hb
    replace Z17 := Z17.on hb
    replace Z16 := Z16.on hb
    clear hb
    refine hK.out _ _ ⟨R.a0, R.a1⟩ (fun hHeld => ?_)
    clear hK
    (try simp only [p0, p1, p2, p3])
    refine pT 5 ?_
    (try simp only [p0, p1, p2, p3])
    refine pT 6 ?_
    (try simp only [p0, p1, p2, p3])
    refine pR1 7 (fun K hK => ?_)
    go_simp
    (go_at_call 68; with_reducible refine (HB.out _ _ _).mono ?_)
    rintro e1 w3z17z16 ⟨rfl, hb⟩
    (try go_wp2_with fail)
    replace R := R.on hb
    replace Z17 := Z17.on hb
    replace Z16 := Z16.on hb
    clear hb
    refine hK.out _ _ ⟨R.a0, R.a1⟩ (fun hHeld => ?_)
    clear hK
    (try simp only [p0, p1, p2, p3])
    refine pR1 12 (fun K hK => ?_)
    go_simp
    (go_at_call 60; with_reducible refine (HD2.out _).mono ?_)
    rintro e2 w4z17z16 ⟨d2, u2, rfl, hb, fd2, fu2, hr2⟩
    (try go_wp2_with fail)
    replace R := R.on hb
    replace Z17 := Z17.on hb
    replace Z16 := Z16.on hb
    clear hb
    refine hK.out _ _ ⟨R.a0, R.a1⟩ (fun hHeld => ?_)
    clear hK
    (try simp only [p0, p1, p2, p3])
    refine pT 13 ?_
    (try simp only [p0, p1, p2, p3])
    refine pT 14 ?_
    (try simp only [p0, p1, p2, p3])
    refine pR1 15 (fun K hK => ?_)
    go_simp
    (go_at_call 68; with_reducible refine (HB.out _ _ _).mono ?_)
    rintro e3 w5z17z16 ⟨rfl, hb⟩
    (try go_wp2_with fail)
    replace R := R.on hb
    replace Z17 := Z17.on hb
    replace Z16 := Z16.on hb
    clear hb
    refine hK.out _ _ ⟨R.a0, R.a1⟩ (fun hHeld => ?_)
    clear hK
    (try simp only [p0, p1, p2, p3])
    have hd : g16 ≠ g17 := by first | exact hne16 | exact hne17.symm
    have x0 := Z16.at_ 0 0 rfl
    have x1 := Z16.at_ 1 0 rfl
    have y0 := Z16.f 0
    have y1 := Z16.f 1
    refine pR1 18 (fun K hK => ?_)
    go_simp
    replace R := R.far hg16 (.float .f64 d1) (.float .f64 u1)
    replace Z17 := Z17.far hd.symm (.float .f64 d1) (.float .f64 u1)
    replace Z16 := Z16.put2 d1 u1
    clear x0 x1 y0 y1
    generalize ((w5z17z16.setCell ⟨g16, 0, none⟩ (.float .f64 d1)).setCell ⟨g16, 1, none⟩ (.float .f64 u1)) = Ws at *
    refine hK.out _ _ ⟨R.a0, R.a1⟩ (fun hHeld => ?_)
    clear hK
    (try simp only [p0, p1, p2, p3])
    have x0 := Z17.at_ 0 0 rfl
    have x1 := Z17.at_ 1 0 rfl
    have y0 := Z17.f 0
    have y1 := Z17.f 1
    refine pR1 19 (fun K hK => ?_)
    go_simp
    replace R := R.far hg17 (.float .f64 d2) (.float .f64 u2)
    replace Z16 := Z16.far hd (.float .f64 d2) (.float .f64 u2)
    replace Z17 := Z17.put2 d2 u2
    clear x0 x1 y0 y1
    generalize ((Ws.setCell ⟨g17, 0, none⟩ (.float .f64 d2)).setCell ⟨g17, 1, none⟩ (.float .f64 u2)) = Wt at *
    refine hK.out _ _ ⟨R.a0, R.a1⟩ (fun hHeld => ?_)
    clear hK
    (try simp only [p0, p1, p2, p3])
    refine wpAnyH_done (by kernel_rfl) (NoPanic.normal ?_) _
    go_wp2
    go_meet
    exact ⟨_, _, _, _, _, _, rfl, rfl, hr1, hr2, ⟨fd1, fu1, fd2, fu2⟩, Z16, Z17, R⟩
 case rest =>
  obtain ⟨g5, g6, d1, u1, d2, u2, rfl, rfl, hr1, hr2, hfl, Z5, Z6, R⟩ := hcut
  have HR1 := Lib.hid hr1
  have HR2 := Lib.hid hr2
  have HF := Lib.hid hfl
  have hL : Flts (sqL b d2 u2) := by
   intro s k
   cases b
   ·simp [sqL] at k; subst k; exact ⟨hfl.2.2.1, hfl.2.2.2⟩
   ·simp [sqL] at k
    rcases k with rfl | rfl
    ·exact ⟨hfl.2.2.1, hfl.2.2.2⟩
    ·exact ⟨⟨by decide, by decide⟩, ⟨by decide, by decide⟩⟩
  have HL := Lib.hid (fun g n W (hn : (sqL b d2 u2).length = n) (hg : g < W.heap.size) (hl : Lies W g 0 (sqL b d2 u2)) => least_any d1 u1 g 0 n n (sqL b d2 u2) W hn (by rw [← hn]; cases b <;> simp [sqL]) hfl.1 hfl.2.1 hL hg hl)
  have za := R.a0
  have zb := R.a1
  have c5 := Z5.at_ 0 d1 rfl
  have c6 := Z5.at_ 1 u1 rfl
  have c7 := Z6.at_ 0 d2 rfl
  have c8 := Z6.at_ 1 u2 rfl
  clear hr1 hr2 hfl hL HD1 HD2 HB
  cases b <;> (
  go_wp2_with fail
  refine (HN.out _).mono ?_
  rintro e w2 ⟨rfl, hb⟩
  replace R := R.on hb
  replace Z5 := Z5.on hb
  replace Z6 := Z6.on hb
  clear hb HN za zb c5 c6 c7 c8
  have r0 := R.r0
  have r1 := R.r1
  have r2 := R.f0
  have r3 := R.f1
  have r4 := R.lt
  have HB := R.below
  have c5 := Z5.at_ 0 d1 rfl
  have c6 := Z5.at_ 1 u1 rfl
  have c7 := Z6.at_ 0 d2 rfl
  have c8 := Z6.at_ 1 u2 rfl
  go_wp2_with fail
  refine (HL.out _ _ _ rfl (by simp) ?_).mono ?_
  ·first | exact lies_one (by go_cell) (by go_cell) | exact lies_two (by go_cell) (by go_cell) (by go_cell) (by go_cell)
  rintro e w3 ⟨rfl, hb⟩
  obtain ⟨hc3, hf3⟩ := bcell hb
  have hw1 : w.heap.size + 1 < w3.heap.size := by have := hb.size; (try simp at this); omega
  have g3 : Below w.heap.size w w3 := Below.trans (by (repeat (first | exact below_self _ _ | assumption | refine below_dn ?_ _ | refine Below.drew ?_ | refine Below.setCell ?_ (by (try simp) <;> (try omega)) _ | refine Below.alloc ?_ (by (try simp) <;> (try omega)) _))) (hb.mono (by (try simp) <;> (try omega)))
  clear hb
  have d2' : w3.cell? ⟨w.heap.size + 1, 0, none⟩ = some (.float .f64 0) := by
   rw [hc3 _ _ (by (try simp) <;> (try omega))]
   go_cell
  have d3' : w3.cell? ⟨w.heap.size + 1, 1, none⟩ = some (.float .f64 0) := by
   rw [hc3 _ _ (by (try simp) <;> (try omega))]
   go_cell
  have q2 : w3.frozen? ⟨w.heap.size + 1, 0, none⟩ = false := by
   rw [hf3 _ _ (by (try simp) <;> (try omega))]
   go_cell
  have q3 : w3.frozen? ⟨w.heap.size + 1, 1, none⟩ = false := by
   rw [hf3 _ _ (by (try simp) <;> (try omega))]
   go_cell
  go_wp2
  exact bodyPost_ret (v := .tuple #[spv (leaLo d1 u1 (sqL _ d2 u2)) (leaHi d1 u1 (sqL _ d2 u2)), .int .i64 (leaE d1 u1 (sqL _ d2 u2))]) (by simp [results, Tryz.results27, go_sem, d2', d3']) rfl ⟨d1, u1, d2, u2, HR1.out, HR2.out, HF.out, rfl, by (repeat (first | exact below_self _ _ | assumption | refine below_dn ?_ _ | refine Below.drew ?_ | refine Below.setCell ?_ (by (try simp) <;> (try omega)) _ | refine Below.alloc ?_ (by (try simp) <;> (try omega)) _))⟩)
end Go.Proofs.YtghcoijinihlnaaGreat.Fl
