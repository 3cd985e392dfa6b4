/-
  Fractions and numbers of four parts that are handed in, opened; what the rows list of package-level variables. No conditions.
-/
import Derived.Test.YtplgheabhekedaaGreatDoorBase
import Derived.ProofKit
import Derived.OpenShut
import Derived.SizedLaws
import Derived.Lib.SmallJoins
import Derived.Carry
import Derived.Test.YtplgheabhekedaaGreatDoorFre
import Derived.Test.YtplgheabhekedaaGreatDoorRows
import Derived.Test.YtplgheabhekedaaGreatDoorTextM
import Derived.LaidMore
import Derived.Stop.Joined
import Derived.Test.YtplgheabhekedaaGreatDoorGa
namespace Go.Proofs.YtplgheabhekedaaGreatDoor
open Go.ChangeShapes Go.WideShapes Go.ChangeAt Go.RowKit Go.Deep Go.Joins Nb
set_option maxRecDepth 100000 in
theorem laidOut : laidOutB Tryz.prog = true := by kernel_rfl
set_option maxRecDepth 100000 in
theorem intFields : ∃ f0 f1 : Field, Tryz.prog.underlying 24 = some (.struct #[f0, f1]) ∧ oneCellFields Tryz.prog #[f0, f1] = true ∧ f0.type = 4 ∧ f1.type = 22 := ⟨_, _, Tryz.underlying24, by kernel_rfl, rfl, rfl⟩
set_option maxRecDepth 100000 in
theorem open_bigint {H : Type} {enc : TypeId × Value → H} {W : World} {r : Reach} {b0 : Nat} {v : Value} {d : DataW H} {p : List MemPlace}
    (hv : Value.okWide Tryz.prog W r b0 24 v) (h : DataW.Trod enc Tryz.prog W 0 (fun _ => true) true 24 v d p) (hlt : ∀ x ∈ p, x.block < W.heap.size)
    (hw : ∀ n ∈ d.weights Tryz.prog 24, n ≤ reachBytes) :
    ∃ (neg : Bool) (A : Option Addr) (xs : List Nat) (c : Nat), v = .agg #[.bool neg, .slice A xs.length c] ∧ Sl .u32 W W.heap.size A xs ∧ Dig 4294967296 xs ∧ (A = none → xs = [] ∧ c = 0) ∧ xs.length * 4 ≤ 140737488351232 := by
  obtain ⟨f0, f1, hs, hone, ht0, ht1⟩ := intFields
  obtain ⟨v0, v1, y0, y1, n, rfl, rfl, rfl, t0, t1⟩ := Joins.open_agg2 hs hone (by kernel_rfl) hv h
  rw [ht0] at t0
  rw [ht1] at t1
  obtain ⟨b, e0, rfl⟩ := DataW.trod_bool Tryz.underlying4 t0
  injection e0 with e0
  subst e0
  rcases open_ints Tryz.underlying22 Tryz.underlying171 (by kernel_rfl) t1 with ⟨e1, rfl⟩ | ⟨a, len, cap, zs, e1, _, hl, hm, hz, rfl, hcell, hwz⟩
  · injection e1 with e1
    subst e1
    exact ⟨b, none, [], 0, rfl, Sl.none_, Dig.nil _, fun _ => ⟨rfl, rfl⟩, by simp⟩
  · injection e1 with e1
    subst e1
    simp only [if_true] at hz
    have hlen : len ≤ zs.length := by omega
    refine ⟨b, some a, (zs.take len).map Int.toNat, cap, by simp [Nat.min_eq_left hlen], ?_, ?_, (fun h => by cases h), ?_⟩
    · intro hn
      have hpos : 0 < zs.length := by simp at hn; omega
      refine ⟨a, rfl, ?_, fun j hj => ?_⟩
      · have hmem : MemPlace.cell a.block a.off ∈ MemPlace.row a zs.length := MemPlace.mem_row.2 ⟨0, hpos, by simp⟩
        exact hlt _ (by simpa using hmem)
      · simp at hj
        rw [hcell j (by omega)]
        have hzj : zs.getD j 0 = zs[j] := by rw [List.getD_eq_getElem?_getD, List.getElem?_eq_getElem (by omega)]; rfl
        have hwf := hwz zs[j] (List.getElem_mem _)
        simp [Lit.wf, IntKind.min, IntKind.max, IntKind.signed, IntKind.bits] at hwf
        rw [hzj]
        simp
        omega
    · intro x hx
      simp only [List.mem_map] at hx
      obtain ⟨z, hz2, rfl⟩ := hx
      have hwf := hwz z (List.mem_of_mem_take hz2)
      simp [Lit.wf, IntKind.min, IntKind.max, IntKind.signed, IntKind.bits] at hwf
      omega
    · have hb : (((lits (H := H) .u32 (zs.take len)).length + (lits (H := H) .u32 (zs.drop len)).length) * Tryz.prog.bytesOf 22) = 0 ∨ True := .inr trivial
      have h4 : Tryz.prog.bytesOf 171 = 4 := by kernel_rfl
      have := hw ((((lits (H := H) .u32 (zs.take len)).length + (lits (H := H) .u32 (zs.drop len)).length) * Tryz.prog.bytesOf 171)) (by simp [DataW.weights, hs, ht1, Tryz.underlying22, DataW.weightsEach])
      rw [h4] at this
      simp [lits, reachBytes] at this
      simp
      omega
end Go.Proofs.YtplgheabhekedaaGreatDoor
/-! ### Fop -/
namespace Go.Proofs.YtplgheabhekedaaGreatDoor
open Go.ChangeShapes Go.WideShapes Go.ChangeAt Go.RowKit Go.Deep Go.Joins Nb
set_option maxRecDepth 100000 in
theorem int_cells : Tryz.prog.cellsOf 24 = 2 := by kernel_rfl
set_option maxRecDepth 100000 in
theorem frac_cells : Tryz.prog.cellsOf 26 = 4 := by kernel_rfl
set_option maxRecDepth 100000 in
theorem fracFields : ∃ f0 f1 : Field, Tryz.prog.underlying 26 = some (.struct #[f0, f1]) ∧ f0.offset = 0 ∧ f1.offset = 2 ∧ f0.type = 24 ∧ f1.type = 24 := ⟨_, _, Tryz.underlying26, rfl, rfl, rfl, rfl⟩
set_option maxRecDepth 100000 in
theorem open_int_cells {H : Type} {enc : TypeId × Value → H} {W : World} {n : Nat} {c0 c1 : Value} {y : DataW H × List MemPlace}
    (h : DataW.trod enc Tryz.prog W 0 (fun _ => true) true n 24 [c0, c1] = some y) (hlt : ∀ x ∈ y.2, x.block < W.heap.size)
    (hw : ∀ k ∈ y.1.weights Tryz.prog 24, k ≤ reachBytes) :
    ∃ (neg : Bool) (A : Option Addr) (xs : List Nat) (c : Nat), c0 = .bool neg ∧ c1 = .slice A xs.length c ∧ Rl W A xs := by
  obtain ⟨f0, f1, hs, hone, ht0, ht1⟩ := intFields
  obtain ⟨y0, y1, k, rfl, _, t0, t1⟩ := trod_struct2 hs h
  obtain ⟨o0, k0⟩ := hone_of hone 0 f0 rfl
  obtain ⟨o1, k1⟩ := hone_of hone 1 f1 rfl
  simp only [o0, k0, o1, k1, List.drop_zero, List.drop_succ_cons, List.take_succ_cons, List.take_zero] at t0 t1
  rw [ht0] at t0
  rw [ht1] at t1
  obtain ⟨b, e0, rfl⟩ := DataW.trod_bool Tryz.underlying4 t0
  injection e0 with e0
  subst e0
  rcases open_ints Tryz.underlying22 Tryz.underlying171 (by kernel_rfl) t1 with ⟨e1, rfl⟩ | ⟨a, len, cap, zs, e1, _, hl, hm, hz, rfl, hcell, hwz⟩
  · injection e1 with e1
    subst e1
    exact ⟨b, none, [], 0, rfl, rfl, Sl.none_, Dig.nil _, by simp⟩
  · injection e1 with e1
    subst e1
    simp only [if_true] at hz
    have hlen : len ≤ zs.length := by omega
    refine ⟨b, some a, (zs.take len).map Int.toNat, cap, rfl, by simp [Nat.min_eq_left hlen], ?_, ?_, ?_⟩
    · intro hn
      have hpos : 0 < zs.length := by simp at hn; omega
      refine ⟨a, rfl, ?_, fun j hj => ?_⟩
      · have hmem : MemPlace.cell a.block a.off ∈ MemPlace.row a zs.length := MemPlace.mem_row.2 ⟨0, hpos, by simp⟩
        exact hlt _ (by simpa using hmem)
      · simp at hj
        rw [hcell j (by omega)]
        have hzj : zs.getD j 0 = zs[j] := by rw [List.getD_eq_getElem?_getD, List.getElem?_eq_getElem (by omega)]; rfl
        have hwf := hwz zs[j] (List.getElem_mem _)
        simp [Lit.wf, IntKind.min, IntKind.max, IntKind.signed, IntKind.bits] at hwf
        rw [hzj]
        simp
        omega
    · intro x hx
      simp only [List.mem_map] at hx
      obtain ⟨z, hz2, rfl⟩ := hx
      have hwf := hwz z (List.mem_of_mem_take hz2)
      simp [Lit.wf, IntKind.min, IntKind.max, IntKind.signed, IntKind.bits] at hwf
      show z.toNat < 4294967296
      omega
    · have h4 : Tryz.prog.bytesOf 171 = 4 := by kernel_rfl
      have := hw ((((lits (H := H) .u32 (zs.take len)).length + (lits (H := H) .u32 (zs.drop len)).length) * Tryz.prog.bytesOf 171)) (by simp [DataW.weights, hs, ht1, Tryz.underlying22, DataW.weightsEach])
      rw [h4] at this
      simp [lits, reachBytes] at this
      simp
      omega
set_option maxRecDepth 100000 in
theorem open_frac {H : Type} {enc : TypeId × Value → H} {W : World} {r : Reach} {b0 : Nat} {v : Value} {d : DataW H} {p : List MemPlace}
    (hv : Value.okWide Tryz.prog W r b0 26 v) (h : DataW.Trod enc Tryz.prog W 0 (fun _ => true) true 26 v d p) (hlt : ∀ x ∈ p, x.block < W.heap.size)
    (hw : ∀ n ∈ d.weights Tryz.prog 26, n ≤ reachBytes) :
    ∃ (n : Bool) (A : Option Addr) (xs : List Nat) (c : Nat) (m : Bool) (B : Option Addr) (ds : List Nat) (d' : Nat), v = .agg #[.bool n, .slice A xs.length c, .bool m, .slice B ds.length d'] ∧ Rq W A xs B ds := by
  obtain ⟨f0, f1, hs, o0, o1, ht0, ht1⟩ := fracFields
  obtain ⟨cs, rfl, hsz⟩ := okWide_struct hs hv
  rw [frac_cells] at hsz
  obtain ⟨fuel, hf⟩ := h
  obtain ⟨y0, y1, n, hx, _, t0, t1⟩ := trod_struct2 hs hf
  obtain ⟨l⟩ := cs
  match l, hsz with
  | [c0, c1, c2, c3], _ =>
    simp only [o0, o1, ht0, ht1, int_cells, Value.cells, List.drop_zero, List.drop_succ_cons, List.take_succ_cons, List.take_zero] at t0 t1
    simp only [Prod.mk.injEq] at hx
    obtain ⟨rfl, rfl⟩ := hx
    have hwt : ∀ k, k ∈ y0.1.weights Tryz.prog 24 ∨ k ∈ y1.1.weights Tryz.prog 24 → k ≤ reachBytes := fun k hk => hw k (by
      simp only [DataW.weights, hs, DataW.weightsEach, ht0, ht1, List.map_cons, List.map_nil, List.mem_append]
      rcases hk with hk | hk
      · exact .inl hk
      · exact .inr (.inl hk))
    obtain ⟨n1, A, xs, c, rfl, rfl, r1⟩ := open_int_cells t0 (fun x hx => hlt x (List.mem_append.2 (.inl hx))) (fun k hk => hwt k (.inl hk))
    obtain ⟨m1, B, ds, d', rfl, rfl, r2⟩ := open_int_cells t1 (fun x hx => hlt x (List.mem_append.2 (.inr hx))) (fun k hk => hwt k (.inr hk))
    exact ⟨n1, A, xs, c, m1, B, ds, d', rfl, r1, r2⟩
end Go.Proofs.YtplgheabhekedaaGreatDoor
/-! ### Row -/
namespace Go.Proofs.YtplgheabhekedaaGreatDoor
open Go.ChangeShapes Go.WideShapes Go.ChangeAt Go.WideMaps Go.WideElems Go.RowKit Nb
abbrev laidL : List (String × DataW Unit) := [("math/bits.deBruijn32tab", Rows.laid_math_bits_deBruijn32tab), ("math/bits.deBruijn64tab", Rows.laid_math_bits_deBruijn64tab), ("internal/strconv.uint64pow10", Rows.laid_internal_strconv_uint64pow10)]
theorem own : ownKnob Tryz.prog.godebug = none := by kernel_rfl
theorem tab_type : (Tryz.prog.globals[2]?).map (·.type) = some 247 := by kernel_rfl
theorem tab_data : (Rows.laid_internal_strconv_uint64pow10 : DataW Unit) = Lib.tabData .u64 Lib.pow10Tab := by kernel_rfl
theorem tab_cells : Tryz.prog.cellsOf 182 = 1 := by kernel_rfl
theorem tab_cells20 : Tryz.prog.cellsOf 247 = 20 := by kernel_rfl
theorem tab_of_laid {W : World} (h : laidMetH Tryz.prog laidL W) : Tab W := by
  rw [MakeChecks.laidMetH_plain _ _ _ (by kernel_rfl)] at h
  obtain ⟨ps, ⟨g0, t0, cs0, f0, p0, q0, hg0, ht0, hv0, hd0, ⟨g1, t1, cs1, f1, p1, q1, hg1, ht1, hv1, hd1, ⟨g2, t2, cs2, f2, p2, q2, hg2, ht2, hv2, hd2, _, _⟩, _⟩, _⟩, _, _⟩ := h
  obtain rfl := Option.some.inj (tab_index.symm.trans hg2)
  obtain rfl := Option.some.inj (tab_type.symm.trans ht2)
  rw [tab_data] at hd2
  show W.var? _ _ = _
  rw [hv2, ← Lib.cells_of_tab Tryz.underlying247 Tryz.underlying182 tab_cells tab_cells20 hd2]
theorem door_met (os : Os) (args : Array Value) : laidMetH Tryz.prog laidL ((World.doorLaid Tryz.prog 400 os).forCall (fun _ _ => 0) ⟨#[], args, []⟩).memory :=
  laidMetH_of_parts3 (fuel := 8) (laidMet_of_run' 8 (by kernel_rfl) (by kernel_rfl)) (by kernel_rfl) (by kernel_rfl)
end Go.Proofs.YtplgheabhekedaaGreatDoor
namespace Go.Proofs.YtplgheabhekedaaGreatDoor
open Go.ChangeShapes Go.WideShapes Go.ChangeAt Go.RowKit Go.Deep Go.Joins Nb
set_option maxRecDepth 100000 in
theorem open_fv {H : Type} {enc : TypeId × Value → H} {W : World} {r : Reach} {b0 : Nat} {v : Value} {d : DataW H} {p : List MemPlace}
    (hv : Value.okWide Tryz.prog W r b0 26 v) (h : DataW.Trod enc Tryz.prog W 0 (fun _ => true) true 26 v d p) (hlt : ∀ x ∈ p, x.block < W.heap.size)
    (hw : ∀ n ∈ d.weights Tryz.prog 26, n ≤ reachBytes) : ∃ f : Fv, v = fv f ∧ Fx W f := by
  obtain ⟨n, A, xs, c, m, B, ds, d', rfl, hr⟩ := open_frac hv h hlt hw
  exact ⟨⟨n, A, xs, c, m, B, ds, d'⟩, rfl, hr⟩
set_option maxRecDepth 100000 in
theorem open_frac_cells {H : Type} {enc : TypeId × Value → H} {W : World} {n : Nat} {c0 c1 c2 c3 : Value} {y : DataW H × List MemPlace}
    (h : DataW.trod enc Tryz.prog W 0 (fun _ => true) true n 26 [c0, c1, c2, c3] = some y) (hlt : ∀ x ∈ y.2, x.block < W.heap.size)
    (hw : ∀ k ∈ y.1.weights Tryz.prog 26, k ≤ reachBytes) :
    ∃ f : Fv, c0 = .bool f.n ∧ c1 = .slice f.A f.xs.length f.c ∧ c2 = .bool f.m ∧ c3 = .slice f.B f.ds.length f.d ∧ Fx W f := by
  obtain ⟨f0, f1, hs, o0, o1, ht0, ht1⟩ := fracFields
  obtain ⟨y0, y1, k, rfl, _, t0, t1⟩ := trod_struct2 hs h
  simp only [o0, o1, ht0, ht1, int_cells, List.drop_zero, List.drop_succ_cons, List.take_succ_cons, List.take_zero] at t0 t1
  have hwt : ∀ k, k ∈ y0.1.weights Tryz.prog 24 ∨ k ∈ y1.1.weights Tryz.prog 24 → k ≤ reachBytes := fun k hk => hw k (by
    simp only [DataW.weights, hs, DataW.weightsEach, ht0, ht1, List.map_cons, List.map_nil, List.mem_append]
    rcases hk with hk | hk
    · exact .inl hk
    · exact .inr (.inl hk))
  obtain ⟨n1, A, xs, c, rfl, rfl, r1⟩ := open_int_cells t0 (fun x hx => hlt x (List.mem_append.2 (.inl hx))) (fun k hk => hwt k (.inl hk))
  obtain ⟨m1, B, ds, d', rfl, rfl, r2⟩ := open_int_cells t1 (fun x hx => hlt x (List.mem_append.2 (.inr hx))) (fun k hk => hwt k (.inr hk))
  exact ⟨⟨n1, A, xs, c, m1, B, ds, d'⟩, rfl, rfl, rfl, rfl, r1, r2⟩
set_option maxRecDepth 100000 in
theorem gauss_cells : Tryz.prog.cellsOf 33 = 8 := by kernel_rfl
set_option maxRecDepth 100000 in
theorem gaussFields : ∃ f0 f1 : Field, Tryz.prog.underlying 33 = some (.struct #[f0, f1]) ∧ f0.offset = 0 ∧ f1.offset = 4 ∧ f0.type = 26 ∧ f1.type = 26 := ⟨_, _, Tryz.underlying33, rfl, rfl, rfl, rfl⟩
set_option maxRecDepth 100000 in
theorem open_gauss {H : Type} {enc : TypeId × Value → H} {W : World} {r : Reach} {b0 : Nat} {v : Value} {d : DataW H} {p : List MemPlace}
    (hv : Value.okWide Tryz.prog W r b0 33 v) (h : DataW.Trod enc Tryz.prog W 0 (fun _ => true) true 33 v d p) (hlt : ∀ x ∈ p, x.block < W.heap.size)
    (hw : ∀ n ∈ d.weights Tryz.prog 33, n ≤ reachBytes) : ∃ f g : Fv, v = gv f g ∧ Fx W f ∧ Fx W g := by
  obtain ⟨f0, f1, hs, o0, o1, ht0, ht1⟩ := gaussFields
  obtain ⟨cs, rfl, hsz⟩ := okWide_struct hs hv
  rw [gauss_cells] at hsz
  obtain ⟨fuel, hf⟩ := h
  obtain ⟨y0, y1, n, hx, _, t0, t1⟩ := trod_struct2 hs hf
  obtain ⟨l⟩ := cs
  match l, hsz with
  | [c0, c1, c2, c3, c4, c5, c6, c7], _ =>
    simp only [o0, o1, ht0, ht1, frac_cells, Value.cells, List.drop_zero, List.drop_succ_cons, List.take_succ_cons, List.take_zero] at t0 t1
    simp only [Prod.mk.injEq] at hx
    obtain ⟨rfl, rfl⟩ := hx
    have hwt : ∀ k, k ∈ y0.1.weights Tryz.prog 26 ∨ k ∈ y1.1.weights Tryz.prog 26 → k ≤ reachBytes := fun k hk => hw k (by
      simp only [DataW.weights, hs, DataW.weightsEach, ht0, ht1, List.map_cons, List.map_nil, List.mem_append]
      rcases hk with hk | hk
      · exact .inl hk
      · exact .inr (.inl hk))
    obtain ⟨f, rfl, rfl, rfl, rfl, r1⟩ := open_frac_cells t0 (fun x hx => hlt x (List.mem_append.2 (.inl hx))) (fun k hk => hwt k (.inl hk))
    obtain ⟨g, rfl, rfl, rfl, rfl, r2⟩ := open_frac_cells t1 (fun x hx => hlt x (List.mem_append.2 (.inr hx))) (fun k hk => hwt k (.inr hk))
    exact ⟨f, g, rfl, r1, r2⟩
end Go.Proofs.YtplgheabhekedaaGreatDoor
