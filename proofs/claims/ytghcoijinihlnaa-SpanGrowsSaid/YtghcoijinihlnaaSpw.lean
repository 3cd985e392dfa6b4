/-
  What is done to spans that have two others has what is done to these (SpanGrows): the walk. Condition: floats of 64 bits.
-/
import Derived.Test.YtghcoijinihlnaaSpv
import Derived.Outline
import Derived.Deep.RegionHeld3
import Derived.Deep.DeepCutAuto
import Derived.RegionTactic
namespace Go.Proofs.Ytghcoijinihlnaa.Fl
open Go.RowKit Ieee

/-- The statement's spans in their cells, and what stays. -/
structure Gw (w W : World) (al ah bl bh cl ch xl xh yl yh gx gy : Nat) : Prop where
  below : Below w.heap.size w W
  l3 : w.heap.size + 1 + 1 + 1 < W.heap.size
  lx : gx < W.heap.size
  ly : gy < W.heap.size
  a0 : W.cell? ⟨w.heap.size, 0, none⟩ = some (.float .f64 al)
  a1 : W.cell? ⟨w.heap.size, 1, none⟩ = some (.float .f64 ah)
  b0 : W.cell? ⟨w.heap.size + 1, 0, none⟩ = some (.float .f64 bl)
  b1 : W.cell? ⟨w.heap.size + 1, 1, none⟩ = some (.float .f64 bh)
  c0 : W.cell? ⟨w.heap.size + 1 + 1, 0, none⟩ = some (.float .f64 cl)
  c1 : W.cell? ⟨w.heap.size + 1 + 1, 1, none⟩ = some (.float .f64 ch)
  x0 : W.cell? ⟨gx, 0, none⟩ = some (.float .f64 xl)
  x1 : W.cell? ⟨gx, 1, none⟩ = some (.float .f64 xh)
  y0 : W.cell? ⟨gy, 0, none⟩ = some (.float .f64 yl)
  y1 : W.cell? ⟨gy, 1, none⟩ = some (.float .f64 yh)
theorem Gw.on {w W W' : World} {al ah bl bh cl ch xl xh yl yh gx gy : Nat} (G : Gw w W al ah bl bh cl ch xl xh yl yh gx gy) (hb : Below W.heap.size W W') : Gw w W' al ah bl bh cl ch xl xh yl yh gx gy :=
  have l3 := G.l3
  have hc : ∀ b o, b < W.heap.size → W'.cell? ⟨b, o, none⟩ = W.cell? ⟨b, o, none⟩ := (bcell hb).1
  ⟨G.below.trans (hb.mono (by omega)), Nat.lt_of_lt_of_le l3 hb.size, Nat.lt_of_lt_of_le G.lx hb.size, Nat.lt_of_lt_of_le G.ly hb.size,
    (hc _ _ (by omega)).trans G.a0, (hc _ _ (by omega)).trans G.a1, (hc _ _ (by omega)).trans G.b0, (hc _ _ (by omega)).trans G.b1, (hc _ _ (by omega)).trans G.c0, (hc _ _ (by omega)).trans G.c1,
    (hc _ _ G.lx).trans G.x0, (hc _ _ G.lx).trans G.x1, (hc _ _ G.ly).trans G.y0, (hc _ _ G.ly).trans G.y1⟩
theorem Gw.of {w W W' : World} {al ah bl bh cl ch xl xh yl yh gx gy p : Nat} (G : Gw w W al ah bl bh cl ch xl xh yl yh gx gy) (hg : w.heap.size + 1 + 1 + 1 < p ∧ gx < p ∧ gy < p) (hb : Below w.heap.size w W') (hz : W'.heap.size = W.heap.size) (hc : ∀ b o, b ≠ p → W'.cell? ⟨b, o, none⟩ = W.cell? ⟨b, o, none⟩) : Gw w W' al ah bl bh cl ch xl xh yl yh gx gy :=
  ⟨hb, by rw [hz]; exact G.l3, by rw [hz]; exact G.lx, by rw [hz]; exact G.ly,
    (hc _ _ (by omega)).trans G.a0, (hc _ _ (by omega)).trans G.a1, (hc _ _ (by omega)).trans G.b0, (hc _ _ (by omega)).trans G.b1, (hc _ _ (by omega)).trans G.c0, (hc _ _ (by omega)).trans G.c1,
    (hc _ _ (by omega)).trans G.x0, (hc _ _ (by omega)).trans G.x1, (hc _ _ (by omega)).trans G.y0, (hc _ _ (by omega)).trans G.y1⟩
theorem Gw.far {w W : World} {al ah bl bh cl ch xl xh yl yh gx gy p : Nat} (G : Gw w W al ah bl bh cl ch xl xh yl yh gx gy) (hg : w.heap.size + 1 + 1 + 1 < p ∧ gx < p ∧ gy < p) (u v : Value) : Gw w ((W.setCell ⟨p, 0, none⟩ u).setCell ⟨p, 1, none⟩ v) al ah bl bh cl ch xl xh yl yh gx gy :=
  G.of hg ((G.below.setCell (p := ⟨p, 0, none⟩) (by show w.heap.size ≤ p; omega) u).setCell (p := ⟨p, 1, none⟩) (by show w.heap.size ≤ p; omega) v) (by simp) (fun b o h => far2 h)
theorem far1 {W : World} {p g o : Nat} (h : g ≠ p) {u : Value} : (W.setCell ⟨p, 0, none⟩ u).cell? ⟨g, o, none⟩ = W.cell? ⟨g, o, none⟩ :=
  World.cell?_setCell_other _ _ _ _ (fun e => h (by injection e with a; exact a.symm))
theorem Gw.far1 {w W : World} {al ah bl bh cl ch xl xh yl yh gx gy p : Nat} (G : Gw w W al ah bl bh cl ch xl xh yl yh gx gy) (hg : w.heap.size + 1 + 1 + 1 < p ∧ gx < p ∧ gy < p) (u : Value) : Gw w (W.setCell ⟨p, 0, none⟩ u) al ah bl bh cl ch xl xh yl yh gx gy :=
  G.of hg (G.below.setCell (p := ⟨p, 0, none⟩) (by show w.heap.size ≤ p; omega) u) (by simp) (fun b o h => Fl.far1 h)
theorem Zr.far1 {W : World} {g p : Nat} {L : List Nat} (h : Zr W g L) (hne : g ≠ p) (u : Value) : Zr (W.setCell ⟨p, 0, none⟩ u) g L :=
  ⟨by simpa using h.lt, fun j hj => by rw [Fl.far1 hne]; exact h.c j hj, fun j => by simpa using h.f j⟩
theorem Zr.put1 {W : World} {g a b : Nat} (h : Zr W g [a, b]) (x : Nat) : Zr (W.setCell ⟨g, 0, none⟩ (.float .f64 x)) g [x, b] := by
  have c0 := h.at_ 0 a rfl
  have c1 := h.at_ 1 b rfl
  have q0 := h.f 0
  refine ⟨by simpa using h.lt, fun j hj => ?_, fun j => by simpa using h.f j⟩
  match j, hj with
  | 0, _ =>
    show _ = some (Value.float .f64 x)
    go_cell
  | 1, _ =>
    show _ = some (Value.float .f64 b)
    go_cell
theorem rt_lt {f1 g1 f2 g2 : Nat} (F : Flt f1 ∧ Flt g1 ∧ Flt f2 ∧ Flt g2) : leaLo f1 g1 [(f2, g2)] < 18446744073709551616 := by
  unfold leaLo
  split
  · exact pls_lt (lmn_flt F.1 (fun s k => by simp at k; subst k; exact F.2.2)).1
  · decide
theorem spRes_lt {Rel : Nat → Nat → Nat → Nat → Prop} {al ah bl bh l h : Nat} {er : Int} {e : Ending} (r : SpRes Rel al ah bl bh e) (he : e = .returned (.tuple #[spv l h, .int .i64 er])) : l < 18446744073709551616 := by
  rcases r with ⟨_, q⟩ | ⟨_, d1, u1, d2, u2, d3, u3, d4, u4, _, F, q⟩
  · rw [q] at he; rw [← (ans_inj he).1]; decide
  · rw [q] at he
    rw [← (ans_inj he).1]
    unfold leaLo
    split
    · exact pls_lt (lmn_flt F.1 (flts3 F.2.2)).1
    · decide
theorem doRes_lt {op : Int} {al ah bl bh l h : Nat} {er : Int} {e : Ending} (r : DoRes op al ah bl bh e) (he : e = .returned (.tuple #[spv l h, .int .i64 er])) : l < 18446744073709551616 := by
  rcases r with ⟨_, r⟩ | ⟨_, r⟩ | ⟨_, r⟩ | ⟨_, r⟩
  · exact spRes_lt r he
  · exact spRes_lt r he
  · exact spRes_lt r he
  · rcases r with ⟨_, _, q⟩ | ⟨_, r⟩
    · rw [q] at he; rw [← (ans_inj he).1]; decide
    · exact spRes_lt r he
/-- What Square answers has what Square answers of what is narrower, and its root has the sizes. -/
def sqLo (l h d1 u1 d2 u2 : Nat) : Nat := leaLo d1 u1 (sqL (hasN l h) d2 u2)
def sqHi (l h d1 u1 d2 u2 : Nat) : Nat := leaHi d1 u1 (sqL (hasN l h) d2 u2)
def sqE (l h d1 u1 d2 u2 : Nat) : Int := leaE d1 u1 (sqL (hasN l h) d2 u2)
theorem sq_wid {al ah xl xh d1 u1 d2 u2 e1 v1 e2 v2 : Nat}
    (lal : al < 18446744073709551616) (lah : ah < 18446744073709551616) (lxl : xl < 18446744073709551616) (lxh : xh < 18446744073709551616)
    (ha : Spn al ah) (hx : Spn xl xh) (i1 : key xl ≤ key al) (i2 : key ah ≤ key xh)
    (a1 : ProIs al al d1 u1) (a2 : ProIs ah ah d2 u2) (fa : Flt d1 ∧ Flt u1 ∧ Flt d2 ∧ Flt u2) (x1 : ProIs xl xl e1 v1) (x2 : ProIs xh xh e2 v2) :
    Wid (sqLo al ah d1 u1 d2 u2) (sqHi al ah d1 u1 d2 u2) (sqLo xl xh e1 v1 e2 v2) (sqHi xl xh e1 v1 e2 v2) (sqE al ah d1 u1 d2 u2) (sqE xl xh e1 v1 e2 v2) := by
  intro hz
  have hs : Spn (lmn e1 (sqL (hasN xl xh) e2 v2)) (lmx v1 (sqL (hasN xl xh) e2 v2)) := by
    rcases Classical.em (Spn (lmn e1 (sqL (hasN xl xh) e2 v2)) (lmx v1 (sqL (hasN xl xh) e2 v2))) with g | g
    · exact g
    · exfalso; unfold sqE leaE at hz; rw [if_neg g] at hz; omega
  have G := sq_grows lal lah lxl lxh ha hx i1 i2 a1 a2 fa x1 x2 hs
  refine ⟨if_pos G.1, ?_⟩
  unfold sqLo sqHi leaLo leaHi
  rw [if_pos G.1, if_pos G.1, if_pos hs, if_pos hs]
  exact pls_in G.1 hs G.2.1 G.2.2
/-- A square's answer is a span that has what is not below nought, refused or not. -/
theorem sq_spn {al ah d1 u1 d2 u2 : Nat} (lal : al < 18446744073709551616) (_lah : ah < 18446744073709551616) (ha : Spn al ah) (a1 : ProIs al al d1 u1) (_a2 : ProIs ah ah d2 u2) (fa : Flt d1 ∧ Flt u1 ∧ Flt d2 ∧ Flt u2) :
    (sqLo al ah d1 u1 d2 u2 < 18446744073709551616 ∧ sqHi al ah d1 u1 d2 u2 < 18446744073709551616) ∧ Spn (sqLo al ah d1 u1 d2 u2) (sqHi al ah d1 u1 d2 u2) ∧ 0 ≤ key (sqHi al ah d1 u1 d2 u2) := by
  obtain ⟨p1, q1, z1, w1, _⟩ := sq_dn rfl lal ha.1 a1
  have ku := key_sqmx (hasN al ah) u1 d2 u2
  have fl := lmn_flt fa.1 (flts_sq (b := hasN al ah) fa.2.2)
  have fh := lmx_flt fa.2.1 (flts_sq (b := hasN al ah) fa.2.2)
  unfold sqLo sqHi leaLo leaHi
  by_cases g : Spn (lmn d1 (sqL (hasN al ah) d2 u2)) (lmx u1 (sqL (hasN al ah) d2 u2))
  · rw [if_pos g, if_pos g]
    refine ⟨⟨pls_lt fl.1, pls_lt fh.1⟩, ⟨by rw [pls_mg]; exact g.1, by rw [pls_mg]; exact g.2.1, by rw [pls_key, pls_key]; exact g.2.2⟩, ?_⟩
    rw [pls_key, ku]
    cases hasN al ah <;> simp only [Bool.false_eq_true, if_false, if_true] <;> omega
  · rw [if_neg g, if_neg g]
    exact ⟨⟨by decide, by decide⟩, by decide, by decide⟩
/-- What the root of a square answers, if the square was answered. -/
theorem rt_has {al ah d1 u1 d2 u2 f1 g1 f2 g2 : Nat} (lal : al < 18446744073709551616) (lah : ah < 18446744073709551616) (ha : Spn al ah) (a1 : ProIs al al d1 u1) (a2 : ProIs ah ah d2 u2) (fa : Flt d1 ∧ Flt u1 ∧ Flt d2 ∧ Flt u2)
    (hz : sqE al ah d1 u1 d2 u2 = 0) (r1 : RtIs (fmax (sqLo al ah d1 u1 d2 u2) 0) f1 g1) (r2 : RtIs (sqHi al ah d1 u1 d2 u2) f2 g2) (fr : Flt f1 ∧ Flt g1 ∧ Flt f2 ∧ Flt g2) :
    leaE f1 g1 [(f2, g2)] = 0 ∧ spIn (szLo al ah) (szHi al ah) (leaLo f1 g1 [(f2, g2)]) (leaHi f1 g1 [(f2, g2)]) = true := by
  have hs : Spn (lmn d1 (sqL (hasN al ah) d2 u2)) (lmx u1 (sqL (hasN al ah) d2 u2)) := by
    rcases Classical.em (Spn (lmn d1 (sqL (hasN al ah) d2 u2)) (lmx u1 (sqL (hasN al ah) d2 u2))) with g | g
    · exact g
    · exfalso; unfold sqE leaE at hz; rw [if_neg g] at hz; omega
  have e1 : sqLo al ah d1 u1 d2 u2 = pls (lmn d1 (sqL (hasN al ah) d2 u2)) := if_pos hs
  have e2 : sqHi al ah d1 u1 d2 u2 = pls (lmx u1 (sqL (hasN al ah) d2 u2)) := if_pos hs
  rw [e1] at r1
  rw [e2] at r2
  have R := root_has rfl lal lah ha a1 a2 fa hs r1 r2 fr
  refine ⟨if_pos R.1, ?_⟩
  unfold leaLo leaHi
  rw [if_pos R.1, if_pos R.1]
  exact R.2
set_option maxHeartbeats 4000000 in
theorem grows_no1 (al ah bl bh cl ch dl dh : Nat) (w : World) (lal : al < 18446744073709551616) (lah : ah < 18446744073709551616) (lbl : bl < 18446744073709551616) (lbh : bh < 18446744073709551616) (lcl : cl < 18446744073709551616) (lch : ch < 18446744073709551616) (ldl : dl < 18446744073709551616) (ldh : dh < 18446744073709551616) (hn : ¬ (Spn al ah ∧ Spn cl ch)) :
    Calls Try.prog 3 #[spv al ah, spv bl bh, spv cl ch, spv dl dh] w fun e w' => e = .returned (.bool true) ∧ Below w.heap.size w w' := by
  have HJ1 := Lib.hid (fun W => join_any al ah cl ch W lal lah lcl lch)
  have HJ2 := Lib.hid (fun W => join_any bl bh dl dh W lbl lbh ldl ldh)
  have HV := Lib.hid (fun W => lives_any W)
  have hsf := @run_store_f Try.prog .f64
  have e1 : spE2 al ah cl ch = 1 := if_neg hn
  rw [e1] at HJ1
  generalize spE2 bl bh dl dh = er2 at *
  clear hn e1
  generalize joinLo al ah cl ch = xl at *
  generalize joinHi al ah cl ch = xh at *
  generalize joinLo bl bh dl dh = yl at *
  generalize joinHi bl bh dl dh = yh at *
  clear lal lah lbl lbh lcl lch ldl ldh
  go_enter Try.func3, Try.ntmps3
  go_wp2_with fail
  refine (HJ1.out _).mono ?_
  rintro e w1 ⟨rfl, hb⟩
  obtain ⟨hc, hf⟩ := bcell hb
  have hz0 : w.heap.size < w1.heap.size := by have := hb.size; (try simp at this); omega
  have hz1 : w.heap.size + 1 < w1.heap.size := by have := hb.size; (try simp at this); omega
  have hz2 : w.heap.size + 1 + 1 < w1.heap.size := by have := hb.size; (try simp at this); omega
  have hz3 : w.heap.size + 1 + 1 + 1 < w1.heap.size := by have := hb.size; (try simp at this); omega
  have g1 : Below w.heap.size w w1 := Below.trans (by (repeat (first | exact below_self _ _ | assumption | refine below_dn ?_ _ | refine Below.drew ?_ | refine Below.setCell ?_ (by (try simp) <;> (try omega)) _ | refine Below.alloc ?_ (by (try simp) <;> (try omega)) _))) (hb.mono (by (try simp) <;> (try omega)))
  clear hb HJ1
  go_wp2_with fail
  refine (HJ2.out _).mono ?_
  rintro e w2 ⟨rfl, hb⟩
  obtain ⟨hc2, hf2⟩ := bcell hb
  have hw0 : w.heap.size < w2.heap.size := by have := hb.size; (try simp at this); omega
  have hw1 : w.heap.size + 1 < w2.heap.size := by have := hb.size; (try simp at this); omega
  have hw2 : w.heap.size + 1 + 1 < w2.heap.size := by have := hb.size; (try simp at this); omega
  have hw3 : w.heap.size + 1 + 1 + 1 < w2.heap.size := by have := hb.size; (try simp at this); omega
  have hwx : w1.heap.size < w2.heap.size := by have := hb.size; (try simp at this); omega
  have g2 : Below w.heap.size w w2 := Below.trans (by (repeat (first | exact below_self _ _ | assumption | refine below_dn ?_ _ | refine Below.drew ?_ | refine Below.setCell ?_ (by (try simp) <;> (try omega)) _ | refine Below.alloc ?_ (by (try simp) <;> (try omega)) _))) (hb.mono (by (try simp) <;> (try omega)))
  clear hb HJ2
  go_wp2_with fail
  refine (HV.out _).mono ?_
  rintro e w3 ⟨rfl, hb⟩
  have g3 : Below w.heap.size w w3 := Below.trans (by (repeat (first | exact below_self _ _ | assumption | refine below_dn ?_ _ | refine Below.drew ?_ | refine Below.setCell ?_ (by (try simp) <;> (try omega)) _ | refine Below.alloc ?_ (by (try simp) <;> (try omega)) _))) (hb.mono (by (try simp) <;> (try omega)))
  go_wp2
  go_ret
  exact ⟨rfl, by (repeat (first | exact below_self _ _ | assumption | refine below_dn ?_ _ | refine Below.drew ?_ | refine Below.setCell ?_ (by (try simp) <;> (try omega)) _ | refine Below.alloc ?_ (by (try simp) <;> (try omega)) _))⟩
set_option maxHeartbeats 4000000 in
theorem grows_no2 (al ah bl bh cl ch dl dh : Nat) (w : World) (lal : al < 18446744073709551616) (lah : ah < 18446744073709551616) (lbl : bl < 18446744073709551616) (lbh : bh < 18446744073709551616) (lcl : cl < 18446744073709551616) (lch : ch < 18446744073709551616) (ldl : dl < 18446744073709551616) (ldh : dh < 18446744073709551616) (hp : Spn al ah ∧ Spn cl ch) (hn : ¬ (Spn bl bh ∧ Spn dl dh)) :
    Calls Try.prog 3 #[spv al ah, spv bl bh, spv cl ch, spv dl dh] w fun e w' => e = .returned (.bool true) ∧ Below w.heap.size w w' := by
  have HJ1 := Lib.hid (fun W => join_any al ah cl ch W lal lah lcl lch)
  have HJ2 := Lib.hid (fun W => join_any bl bh dl dh W lbl lbh ldl ldh)
  have HV := Lib.hid (fun W => lives_any W)
  have hsf := @run_store_f Try.prog .f64
  have e1 : spE2 al ah cl ch = 0 := if_pos hp
  rw [e1] at HJ1
  have e2 : spE2 bl bh dl dh = 1 := if_neg hn
  rw [e2] at HJ2
  clear hp hn e1 e2
  generalize joinLo al ah cl ch = xl at *
  generalize joinHi al ah cl ch = xh at *
  generalize joinLo bl bh dl dh = yl at *
  generalize joinHi bl bh dl dh = yh at *
  clear lal lah lbl lbh lcl lch ldl ldh
  go_enter Try.func3, Try.ntmps3
  go_wp2_with fail
  refine (HJ1.out _).mono ?_
  rintro e w1 ⟨rfl, hb⟩
  obtain ⟨hc, hf⟩ := bcell hb
  have hz0 : w.heap.size < w1.heap.size := by have := hb.size; (try simp at this); omega
  have hz1 : w.heap.size + 1 < w1.heap.size := by have := hb.size; (try simp at this); omega
  have hz2 : w.heap.size + 1 + 1 < w1.heap.size := by have := hb.size; (try simp at this); omega
  have hz3 : w.heap.size + 1 + 1 + 1 < w1.heap.size := by have := hb.size; (try simp at this); omega
  have g1 : Below w.heap.size w w1 := Below.trans (by (repeat (first | exact below_self _ _ | assumption | refine below_dn ?_ _ | refine Below.drew ?_ | refine Below.setCell ?_ (by (try simp) <;> (try omega)) _ | refine Below.alloc ?_ (by (try simp) <;> (try omega)) _))) (hb.mono (by (try simp) <;> (try omega)))
  clear hb HJ1
  go_wp2_with fail
  refine (HJ2.out _).mono ?_
  rintro e w2 ⟨rfl, hb⟩
  obtain ⟨hc2, hf2⟩ := bcell hb
  have hw0 : w.heap.size < w2.heap.size := by have := hb.size; (try simp at this); omega
  have hw1 : w.heap.size + 1 < w2.heap.size := by have := hb.size; (try simp at this); omega
  have hw2 : w.heap.size + 1 + 1 < w2.heap.size := by have := hb.size; (try simp at this); omega
  have hw3 : w.heap.size + 1 + 1 + 1 < w2.heap.size := by have := hb.size; (try simp at this); omega
  have hwx : w1.heap.size < w2.heap.size := by have := hb.size; (try simp at this); omega
  have g2 : Below w.heap.size w w2 := Below.trans (by (repeat (first | exact below_self _ _ | assumption | refine below_dn ?_ _ | refine Below.drew ?_ | refine Below.setCell ?_ (by (try simp) <;> (try omega)) _ | refine Below.alloc ?_ (by (try simp) <;> (try omega)) _))) (hb.mono (by (try simp) <;> (try omega)))
  clear hb HJ2
  go_wp2_with fail
  refine (HV.out _).mono ?_
  rintro e w3 ⟨rfl, hb⟩
  have g3 : Below w.heap.size w w3 := Below.trans (by (repeat (first | exact below_self _ _ | assumption | refine below_dn ?_ _ | refine Below.drew ?_ | refine Below.setCell ?_ (by (try simp) <;> (try omega)) _ | refine Below.alloc ?_ (by (try simp) <;> (try omega)) _))) (hb.mono (by (try simp) <;> (try omega)))
  go_wp2
  go_ret
  exact ⟨rfl, by (repeat (first | exact below_self _ _ | assumption | refine below_dn ?_ _ | refine Below.drew ?_ | refine Below.setCell ?_ (by (try simp) <;> (try omega)) _ | refine Below.alloc ?_ (by (try simp) <;> (try omega)) _))⟩
end Go.Proofs.Ytghcoijinihlnaa.Fl
