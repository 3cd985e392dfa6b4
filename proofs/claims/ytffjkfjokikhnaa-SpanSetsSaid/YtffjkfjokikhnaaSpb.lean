/-
  Of any two spans: whether the one is within the other, what both have and what has both, are what the document says (SpanSets). Condition: floats of 64 bits.
-/
import Derived.Test.YtffjkfjokikhnaaSpa
import Derived.Test.YtffjkfjokikhnaaSp7
import Derived.Deep.RegionHeld3
namespace Go.Proofs.Ytffjkfjokikhnaa.Fl
open Go.RowKit Ieee

/-- A span in a cell. -/
structure Cel (W : World) (p l h : Nat) : Prop where
  lt : p < W.heap.size
  c0 : W.cell? ⟨p, 0, none⟩ = some (.float .f64 l)
  c1 : W.cell? ⟨p, 1, none⟩ = some (.float .f64 h)
theorem Cel.on {W W' : World} {p l h : Nat} (k : Cel W p l h) (hb : Below W.heap.size W W') : Cel W' p l h :=
  ⟨Nat.lt_of_lt_of_le k.lt hb.size, (hb.cell (p := ⟨p, 0, none⟩) k.lt).trans k.c0, (hb.cell (p := ⟨p, 1, none⟩) k.lt).trans k.c1⟩
theorem Cel.new (W : World) (t : TypeId) (l h : Nat) : Cel (W.alloc (.cells #[.float .f64 l, .float .f64 h] t)) W.heap.size l h :=
  ⟨by simp, by rw [World.cell?_alloc_new]; rfl, by rw [World.cell?_alloc_new]; rfl⟩
theorem keepS {W w' w'' : World} {X : Prop} (h : Below W.heap.size W w' ∧ X) (hb : Below w'.heap.size w' w'') : Below W.heap.size W w'' := h.1.trans (hb.mono h.1.size)

set_option maxHeartbeats 4000000 in
theorem spanSets_walk (al ah bl bh : Nat) (w : World) (h1 : al < 18446744073709551616) (h2 : ah < 18446744073709551616) (h3 : bl < 18446744073709551616) (h4 : bh < 18446744073709551616) :
    Calls Try.prog 7 #[spv al ah, spv bl bh] w fun e w' => e = .returned (.bool true) ∧ Below w.heap.size w w' := by
  have C1 := Lib.hid (fun W => meet_any al ah bl bh W h1 h2 h3 h4)
  have C2 := Lib.hid (fun W => rmeet_any al ah bl bh W h1 h2 h3 h4)
  have C3 := Lib.hid (fun W => join_any al ah bl bh W h1 h2 h3 h4)
  have C4 := Lib.hid (fun W => rjoin_any al ah bl bh W h1 h2 h3 h4)
  have C5 := Lib.hid (fun W => in_any al ah bl bh W h1 h3)
  have C6 := Lib.hid (fun W => rin_any al ah bl bh W h1 h2 h3 h4)
  have C7 := Lib.hid (fun x y W => sameSpan_any x y W)
  have C8 := Lib.hid (fun x y e W => sameS_any x y e W)
  have C9 := Lib.hid (fun W => lives_any W)
  have hsf := @run_store_f Try.prog .f64
  generalize meetLo al ah bl bh = ml at *
  generalize meetHi al ah bl bh = mh at *
  generalize decide (Meets al ah bl bh) = mb at *
  generalize joinLo al ah bl bh = jl at *
  generalize joinHi al ah bl bh = jh at *
  generalize spE2 al ah bl bh = je at *
  generalize spIn al ah bl bh = ib at *
  clear h1 h2 h3 h4
  go_enter Try.func7, Try.ntmps7
  go_wp2_with fail
  refine (C1.out _).mono ?_
  rintro e w1 ⟨rfl, hb⟩
  have KA := ((Cel.new w 31 al ah).on ((Below.refl _ _).alloc (Nat.le_refl _) (.cells #[.float .f64 bl, .float .f64 bh] 31))).on hb
  have KB := (Cel.new (w.alloc (.cells #[.float .f64 al, .float .f64 ah] 31)) 31 bl bh).on hb
  rw [World.size_alloc] at KB
  have g1 : Below w.heap.size w w1 := Below.trans (by (repeat (first | exact below_self _ _ | assumption | refine below_dn ?_ _ | refine Below.drew ?_ | refine Below.setCell ?_ (by (try simp) <;> (try omega)) _ | refine Below.alloc ?_ (by (try simp) <;> (try omega)) _))) (hb.mono (by (try simp) <;> (try omega)))
  clear hb
  have q : Below w1.heap.size w1 (w1.alloc (.cells #[.float .f64 ml, .float .f64 mh] 31)) := (Below.refl _ _).alloc (Nat.le_refl _) _
  replace KA := KA.on q
  replace KB := KB.on q
  have KX := Cel.new w1 31 ml mh
  have g1z : Below w.heap.size w (w1.alloc (.cells #[.float .f64 ml, .float .f64 mh] 31)) := g1.trans (q.mono g1.size)
  clear q
  have a0 := KA.c0
  have a1 := KA.c1
  have b0 := KB.c0
  have b1 := KB.c1
  go_wp2_with fail
  refine (C2.out _).mono ?_
  rintro e w2 ⟨rfl, hb⟩
  clear a0 a1 b0 b1
  replace KA := KA.on hb
  replace KB := KB.on hb
  replace KX := KX.on hb
  have g2 : Below w.heap.size w w2 := g1z.trans (hb.mono g1z.size)
  clear hb g1 g1z
  have q : Below w2.heap.size w2 (w2.alloc (.cells #[.float .f64 ml, .float .f64 mh] 31)) := (Below.refl _ _).alloc (Nat.le_refl _) _
  replace KA := KA.on q
  replace KB := KB.on q
  replace KX := KX.on q
  have KY := Cel.new w2 31 ml mh
  have g2z : Below w.heap.size w (w2.alloc (.cells #[.float .f64 ml, .float .f64 mh] 31)) := g2.trans (q.mono g2.size)
  clear q
  have a0 := KA.c0
  have a1 := KA.c1
  have b0 := KB.c0
  have b1 := KB.c1
  go_wp2_with fail
  refine (C3.out _).mono ?_
  rintro e w3 ⟨rfl, hb⟩
  clear a0 a1 b0 b1
  replace KA := KA.on hb
  replace KB := KB.on hb
  replace KX := KX.on hb
  replace KY := KY.on hb
  have g3 : Below w.heap.size w w3 := g2z.trans (hb.mono g2z.size)
  clear hb g2 g2z
  have q : Below w3.heap.size w3 (w3.alloc (.cells #[.float .f64 jl, .float .f64 jh] 31)) := (Below.refl _ _).alloc (Nat.le_refl _) _
  replace KA := KA.on q
  replace KB := KB.on q
  replace KX := KX.on q
  replace KY := KY.on q
  have KZ := Cel.new w3 31 jl jh
  have g3z : Below w.heap.size w (w3.alloc (.cells #[.float .f64 jl, .float .f64 jh] 31)) := g3.trans (q.mono g3.size)
  clear q
  have a0 := KA.c0
  have a1 := KA.c1
  have b0 := KB.c0
  have b1 := KB.c1
  go_wp2_with fail
  refine (C4.out _).mono ?_
  rintro e w4 ⟨rfl, hb⟩
  clear a0 a1 b0 b1
  replace KA := KA.on hb
  replace KB := KB.on hb
  replace KX := KX.on hb
  replace KY := KY.on hb
  replace KZ := KZ.on hb
  have g4 : Below w.heap.size w w4 := g3z.trans (hb.mono g3z.size)
  clear hb g3 g3z
  have q : Below w4.heap.size w4 (w4.alloc (.cells #[.float .f64 jl, .float .f64 jh] 31)) := (Below.refl _ _).alloc (Nat.le_refl _) _
  replace KA := KA.on q
  replace KB := KB.on q
  replace KX := KX.on q
  replace KY := KY.on q
  replace KZ := KZ.on q
  have KW := Cel.new w4 31 jl jh
  have g5 := g4.trans (q.mono g4.size)
  clear q g4
  go_wp2_with fail
  generalize (w4.alloc (.cells #[.float .f64 jl, .float .f64 jh] 31)) = W at *
  have KS : Hid (∀ wx, Below W.heap.size W wx → Below W.heap.size W wx ∧ wx.cell? ⟨w.heap.size, 0, none⟩ = some (.float .f64 al) ∧ wx.cell? ⟨w.heap.size, 1, none⟩ = some (.float .f64 ah) ∧ wx.cell? ⟨w.heap.size + 1, 0, none⟩ = some (.float .f64 bl) ∧ wx.cell? ⟨w.heap.size + 1, 1, none⟩ = some (.float .f64 bh) ∧ wx.cell? ⟨w1.heap.size, 0, none⟩ = some (.float .f64 ml) ∧ wx.cell? ⟨w1.heap.size, 1, none⟩ = some (.float .f64 mh) ∧ wx.cell? ⟨w2.heap.size, 0, none⟩ = some (.float .f64 ml) ∧ wx.cell? ⟨w2.heap.size, 1, none⟩ = some (.float .f64 mh) ∧ wx.cell? ⟨w3.heap.size, 0, none⟩ = some (.float .f64 jl) ∧ wx.cell? ⟨w3.heap.size, 1, none⟩ = some (.float .f64 jh) ∧ wx.cell? ⟨w4.heap.size, 0, none⟩ = some (.float .f64 jl) ∧ wx.cell? ⟨w4.heap.size, 1, none⟩ = some (.float .f64 jh)) := Lib.hid fun wx hb => ⟨hb, (KA.on hb).c0, (KA.on hb).c1, (KB.on hb).c0, (KB.on hb).c1, (KX.on hb).c0, (KX.on hb).c1, (KY.on hb).c0, (KY.on hb).c1, (KZ.on hb).c0, (KZ.on hb).c1, (KW.on hb).c0, (KW.on hb).c1⟩
  have GW := Lib.hid g5
  have x0 := KA.c0
  have y0 := KA.c1
  have x1 := KB.c0
  have y1 := KB.c1
  have x2 := KX.c0
  have y2 := KX.c1
  have x3 := KY.c0
  have y3 := KY.c1
  have x4 := KZ.c0
  have y4 := KZ.c1
  have x5 := KW.c0
  have y5 := KW.c1
  clear KA KB KX KY KZ KW g5 C1 C2 C3 C4
  go_region_held3 (fun wx => Below W.heap.size W wx ∧ wx.cell? ⟨w.heap.size, 0, none⟩ = some (.float .f64 al) ∧ wx.cell? ⟨w.heap.size, 1, none⟩ = some (.float .f64 ah) ∧ wx.cell? ⟨w.heap.size + 1, 0, none⟩ = some (.float .f64 bl) ∧ wx.cell? ⟨w.heap.size + 1, 1, none⟩ = some (.float .f64 bh) ∧ wx.cell? ⟨w1.heap.size, 0, none⟩ = some (.float .f64 ml) ∧ wx.cell? ⟨w1.heap.size, 1, none⟩ = some (.float .f64 mh) ∧ wx.cell? ⟨w2.heap.size, 0, none⟩ = some (.float .f64 ml) ∧ wx.cell? ⟨w2.heap.size, 1, none⟩ = some (.float .f64 mh) ∧ wx.cell? ⟨w3.heap.size, 0, none⟩ = some (.float .f64 jl) ∧ wx.cell? ⟨w3.heap.size, 1, none⟩ = some (.float .f64 jh) ∧ wx.cell? ⟨w4.heap.size, 0, none⟩ = some (.float .f64 jl) ∧ wx.cell? ⟨w4.heap.size, 1, none⟩ = some (.float .f64 jh))
    (first | assumption | exact KS.out _ ((Below.refl _ _).drew) | exact KS.out _ (keepS (by assumption) (by assumption)) | exact KS.out _ (keepS (by assumption) ((Below.refl _ _).drew)))
    (first
      | (go_at_call 30; refine (C5.out _).mono ?_; rintro e w' ⟨rfl, hb⟩)
      | (go_at_call 31; refine (C6.out _).mono ?_; rintro e w' ⟨rfl, hb⟩)
      | (go_at_call 32; refine (C7.out _ _ _).mono ?_; rintro e w' ⟨rfl, hb⟩)
      | (go_at_call 33; refine (C8.out _ _ _ _).mono ?_; rintro e w' ⟨rfl, hb⟩)
      | (go_at_call 34; refine (C9.out _).mono ?_; rintro e w' ⟨rfl, hb⟩))
  all_goals
    go_wp2
    go_ret
    exact ⟨rfl, GW.out.trans ((keepS (by assumption) (Below.refl _ _)).mono GW.out.size)⟩
end Go.Proofs.Ytffjkfjokikhnaa.Fl
