/-
  A bench and two rays that are handed in as one, opened; what the rows list of package-level variables. No conditions.
-/
import Derived.Test.YtjamfkafgfpobaaGreatDoorTp0
import Derived.Test.YtjamfkafgfpobaaGreatDoorRmt
import Derived.Test.YtjamfkafgfpobaaGreatDoorBm4
import Derived.Deep.Slices
import Derived.Deep.Strs
import Derived.ProofKit
import Derived.OpenShut
import Derived.SizedLaws
import Derived.Lib.SmallJoins
import Derived.Carry
import Derived.LaidMore
import Derived.Stop.Joined
import Derived.Test.YtjamfkafgfpobaaGreatDoorTextM
import Derived.Test.YtjamfkafgfpobaaGreatDoorRows
namespace Go.Proofs.YtjamfkafgfpobaaGreatDoor
open Go.ChangeShapes Go.WideShapes Go.ChangeAt Go.RowKit Go.Deep Go.Joins Nb
set_option maxRecDepth 100000 in
theorem rayFields : ∃ f0 f1 : Field, Tryz.prog.underlying 29 = some (.struct #[f0, f1]) ∧ f0.offset = 0 ∧ f1.offset = 4 ∧ f0.type = 27 ∧ f1.type = 27 := ⟨_, _, Tryz.underlying29, rfl, rfl, rfl, rfl⟩
end Go.Proofs.YtjamfkafgfpobaaGreatDoor
namespace Go.Proofs.YtjamfkafgfpobaaGreatDoor
open Go.ChangeShapes Go.WideShapes Go.ChangeAt Go.RowKit Go.Deep Go.Joins Nb
set_option maxRecDepth 100000 in
theorem open_ray_cells {H : Type} {enc : TypeId × Value → H} {W : World} {n : Nat} {c0 c1 c2 c3 c4 c5 c6 c7 : Value} {y : DataW H × List MemPlace}
    (h : DataW.trod enc Tryz.prog W 0 (fun _ => true) true n 29 [c0, c1, c2, c3, c4, c5, c6, c7] = some y) (hlt : ∀ x ∈ y.2, x.block < W.heap.size)
    (hw : ∀ k ∈ y.1.weights Tryz.prog 29, k ≤ reachBytes) :
    ∃ m : Yv, c0 = .bool m.Y.n ∧ c1 = .slice m.Y.A m.Y.xs.length m.Y.c ∧ c2 = .bool m.Y.m ∧ c3 = .slice m.Y.B m.Y.ds.length m.Y.d ∧ c4 = .bool m.U.n ∧ c5 = .slice m.U.A m.U.xs.length m.U.c ∧ c6 = .bool m.U.m ∧ c7 = .slice m.U.B m.U.ds.length m.U.d ∧ Xy W m := by
  obtain ⟨f0, f1, hs, o0, o1, ht0, ht1⟩ := rayFields
  obtain ⟨y0, y1, k, rfl, _, t0, t1⟩ := trod_struct2 hs h
  simp only [o0, o1, ht0, ht1, frac_cells, List.drop_zero, List.drop_succ_cons, List.take_succ_cons, List.take_zero] at t0 t1
  have hwt : ∀ k, k ∈ y0.1.weights Tryz.prog 27 ∨ k ∈ y1.1.weights Tryz.prog 27 → k ≤ reachBytes := fun k hk => hw k (by
    simp only [DataW.weights, hs, DataW.weightsEach, ht0, ht1, List.map_cons, List.map_nil, List.mem_append]
    rcases hk with hk | hk
    · exact .inl hk
    · exact .inr (.inl hk))
  obtain ⟨m0, rfl, rfl, rfl, rfl, r0⟩ := open_frac_cells t0 (fun x hx => hlt x (List.mem_append.2 (.inl hx))) (fun k hk => hwt k (.inl hk))
  obtain ⟨m1, rfl, rfl, rfl, rfl, r1⟩ := open_frac_cells t1 (fun x hx => hlt x (List.mem_append.2 (.inr hx))) (fun k hk => hwt k (.inr hk))
  exact ⟨⟨m0, m1⟩, rfl, rfl, rfl, rfl, rfl, rfl, rfl, rfl, r0, r1⟩
end Go.Proofs.YtjamfkafgfpobaaGreatDoor
namespace Go.Proofs.YtjamfkafgfpobaaGreatDoor
open Go.ChangeShapes Go.WideShapes Go.ChangeAt Go.RowKit Go.Deep Go.Joins Nb
theorem list_of {α : Type} {p : Nat → α → Prop} : ∀ n, (∀ i, i < n → ∃ m, p i m) → ∃ l : List α, l.length = n ∧ ∀ i m, l[i]? = some m → p i m
 | 0, _ => ⟨[], rfl, fun i m h => by simp at h⟩
 | n + 1, h => by
  obtain ⟨l, hl, hp⟩ := list_of n fun i hi => h i (by omega)
  obtain ⟨x, hx⟩ := h n (by omega)
  refine ⟨l ++ [x], by simp [hl], fun i m e => ?_⟩
  by_cases hi : i < n
  ·rw [List.getElem?_append_left (by omega)] at e
   exact hp i m e
  ·rw [List.getElem?_append_right (by omega)] at e
   have : i = n := by
    rcases Nat.lt_or_ge (i - l.length) 1 with h1 | h1
    ·omega
    ·rw [List.getElem?_eq_none (by simpa using h1)] at e; cases e
   subst this
   rw [hl, Nat.sub_self] at e
   simp at e
   subst e
   exact hx
end Go.Proofs.YtjamfkafgfpobaaGreatDoor
namespace Go.Proofs.YtjamfkafgfpobaaGreatDoor
open Go.ChangeShapes Go.WideShapes Go.ChangeAt Go.RowKit Go.Deep Go.Joins Nb
set_option maxRecDepth 100000 in
theorem elem_cells : Tryz.prog.cellsOf 65 = 9 := by kernel_rfl
end Go.Proofs.YtjamfkafgfpobaaGreatDoor
namespace Go.Proofs.YtjamfkafgfpobaaGreatDoor
open Go.ChangeShapes Go.WideShapes Go.ChangeAt Go.RowKit Go.Deep Go.Joins Nb
set_option maxRecDepth 100000 in
theorem kind_cells : Tryz.prog.cellsOf 63 = 1 := by kernel_rfl
end Go.Proofs.YtjamfkafgfpobaaGreatDoor
namespace Go.Proofs.YtjamfkafgfpobaaGreatDoor
open Go.ChangeShapes Go.WideShapes Go.ChangeAt Go.RowKit Go.Deep Go.Joins Nb
set_option maxRecDepth 100000 in
theorem elemFields : ∃ f0 f1 f2 : Field, Tryz.prog.underlying 65 = some (.struct #[f0, f1, f2]) ∧ f0.offset = 0 ∧ f1.offset = 1 ∧ f2.offset = 5 ∧ f0.type = 63 ∧ f1.type = 27 ∧ f2.type = 27 := ⟨_, _, _, Tryz.underlying65, rfl, rfl, rfl, rfl, rfl, rfl⟩
end Go.Proofs.YtjamfkafgfpobaaGreatDoor
namespace Go.Proofs.YtjamfkafgfpobaaGreatDoor
open Go.ChangeShapes Go.WideShapes Go.ChangeAt Go.RowKit Go.Deep Go.Joins Nb
theorem weights_all {H : Type} {P : Program} {e : TypeId} {d : DataW H} {k : Nat} (hk : k ∈ d.weights P e) : ∀ {l : List (DataW H)}, d ∈ l → k ∈ DataW.weightsAll P e l
 | [], h => by simp at h
 | x :: r, h => by
  simp only [DataW.weightsAll, List.mem_append]
  rcases List.mem_cons.1 h with rfl | h
  ·exact .inl hk
  ·exact .inr (weights_all hk h)
end Go.Proofs.YtjamfkafgfpobaaGreatDoor
namespace Go.Proofs.YtjamfkafgfpobaaGreatDoor
open Go.ChangeShapes Go.WideShapes Go.ChangeAt Go.RowKit Go.Deep Go.Joins Nb
set_option maxRecDepth 100000 in
theorem open_elem_cells {H : Type} {enc : TypeId × Value → H} {W : World} {n : Nat} {c0 c1 c2 c3 c4 c5 c6 c7 c8 : Value} {y : DataW H × List MemPlace}
    (h : DataW.trod enc Tryz.prog W 0 (fun _ => true) true n 65 [c0, c1, c2, c3, c4, c5, c6, c7, c8] = some y) (hlt : ∀ x ∈ y.2, x.block < W.heap.size)
    (hw : ∀ k ∈ y.1.weights Tryz.prog 65, k ≤ reachBytes) : ∃ e : Ev, [c0, c1, c2, c3, c4, c5, c6, c7, c8] = ecs e ∧ Xe W e := by
  obtain ⟨f0, f1, f2, hs, o0, o1, o2, ht0, ht1, ht2⟩ := elemFields
  obtain ⟨y0, y1, y2, k, rfl, _, t0, t1, t2⟩ := trod_struct3 hs h
  simp only [o0, o1, o2, ht0, ht1, ht2, frac_cells, kind_cells, List.drop_zero, List.drop_succ_cons, List.take_succ_cons, List.take_zero] at t0 t1 t2
  obtain ⟨a, e0, _, hwf⟩ := Go.DataW.trod_int Tryz.underlying63 t0
  simp at e0
  simp [Lit.wf, IntKind.min, IntKind.max, IntKind.signed, IntKind.bits] at hwf
  have hwt : ∀ k, k ∈ y1.1.weights Tryz.prog 27 ∨ k ∈ y2.1.weights Tryz.prog 27 → k ≤ reachBytes := fun k hk => hw k (by
    simp only [DataW.weights, hs, DataW.weightsEach, ht0, ht1, ht2, List.map_cons, List.map_nil, List.mem_append]
    rcases hk with hk | hk
    · exact .inr (.inl hk)
    · exact .inr (.inr (.inl hk)))
  obtain ⟨m1, rfl, rfl, rfl, rfl, r1⟩ := open_frac_cells t1 (fun x hx => hlt x (by simp only [List.mem_append]; first | exact .inr (.inl hx) | simp [hx])) (fun k hk => hwt k (.inl hk))
  obtain ⟨m2, rfl, rfl, rfl, rfl, r2⟩ := open_frac_cells t2 (fun x hx => hlt x (by simp only [List.mem_append]; first | exact .inr (.inr hx) | simp [hx])) (fun k hk => hwt k (.inr hk))
  exact ⟨⟨a, m1, m2⟩, by rw [e0]; rfl, ⟨by simp only; omega, r1, r2⟩⟩
end Go.Proofs.YtjamfkafgfpobaaGreatDoor
namespace Go.Proofs.YtjamfkafgfpobaaGreatDoor
open Go.ChangeShapes Go.WideShapes Go.ChangeAt Go.RowKit Go.Deep Go.Joins Nb
set_option maxRecDepth 100000 in
theorem ray_cells : Tryz.prog.cellsOf 29 = 8 := by kernel_rfl
set_option maxRecDepth 100000 in
theorem elems_cells : Tryz.prog.cellsOf 22 = 1 := by kernel_rfl
set_option maxRecDepth 100000 in
theorem light_cells : Tryz.prog.cellsOf 31 = 17 := by kernel_rfl
set_option maxRecDepth 100000 in
theorem lightFields : ∃ f0 f1 f2 : Field, Tryz.prog.underlying 31 = some (.struct #[f0, f1, f2]) ∧ f0.offset = 0 ∧ f1.offset = 1 ∧ f2.offset = 9 ∧ f0.type = 22 ∧ f1.type = 29 ∧ f2.type = 29 := ⟨_, _, _, Tryz.underlying31, rfl, rfl, rfl, rfl, rfl, rfl⟩
set_option maxRecDepth 100000 in
theorem open_elems_cells {H : Type} {enc : TypeId × Value → H} {W : World} {n0 : Nat} {c0 : Value} {y : DataW H × List MemPlace}
    (hf : DataW.trod enc Tryz.prog W 0 (fun _ => true) true n0 22 [c0] = some y) (hlt : ∀ x ∈ y.2, x.block < W.heap.size)
    (hw : ∀ n ∈ y.1.weights Tryz.prog 22, n ≤ reachBytes) : ∃ (a : Option Addr) (es : List Ev) (c : Nat), c0 = .slice a es.length c ∧ Sle W a c es := by
 rcases open_slice Tryz.underlying22 hf with ⟨hc, _⟩ | ⟨a, len0, cap0, m, n, D, Pl, hcs, hb, hl, hm, hmm, hx, hi⟩
 ·obtain rfl : c0 = .slice none 0 0 := by simpa using hc
  exact ⟨none, [], 0, rfl, by simp, by omega, fun e h => by simp at h, fun i m h => by simp at h⟩
 ·obtain rfl : c0 = .slice (some a) len0 cap0 := by simpa using hcs
  rw [elem_cells] at hx hi
  simp only [if_true] at hmm
  rw [hmm] at hx hi
  subst hx
  have hel : ∀ i, i < len0 → ∃ e : Ev, Xe W e ∧ ∃ g o : Nat, some a = some ⟨g, o, none⟩ ∧ g < W.heap.size ∧ AtB W g (o + i * 9) (ecs e) := by
   intro i hil
   obtain ⟨cs', hc, ht⟩ := hi i (by omega)
   obtain ⟨_, hcl, hat⟩ := World.cells?_some hc
   have key : ∀ (cs : List Value) (i : Nat), i < len0 → cs.length = 9 → DataW.trod enc Tryz.prog W 0 (fun _ => true) true n 65 cs = some (D i, Pl i) → ∃ e : Ev, cs = ecs e ∧ Xe W e := by
    intro cs i hil hcl ht
    match cs, hcl with
    | [c0, c1, c2, c3, c4, c5, c6, c7, c8], _ =>
     refine open_elem_cells ht (fun x hx => hlt x ?_) (fun k hk => hw k ?_)
     ·exact List.mem_append_right _ (List.mem_flatMap.2 ⟨i, List.mem_range.2 (by omega), hx⟩)
     ·simp only [DataW.weights, Tryz.underlying22, List.mem_cons, List.mem_append]
      exact .inr (.inl (weights_all hk (List.mem_map.2 ⟨i, List.mem_range.2 hil, rfl⟩)))
   obtain ⟨e, rfl, X⟩ := key cs' i hil hcl ht
   have hsp : a.spot = none := by
    obtain ⟨cs0, hc0, ht0⟩ := hi 0 (by omega)
    obtain ⟨_, hcl0, hat0⟩ := World.cells?_some hc0
    obtain ⟨e1, rfl, _⟩ := key cs0 0 (by omega) hcl0 ht0
    have h1 := World.cell?_spot ((hat0 0 (by decide)).trans rfl : W.cell? ((a.add (0 * 9)).add 0) = some (.int .u8 e1.k))
    rw [Go.Deep.add_add] at h1
    simpa [Addr.add] using h1
   obtain ⟨g, off, spot⟩ := a
   simp only at hsp
   subst hsp
   have hg : g < W.heap.size := by
    have hmem : MemPlace.cell g off ∈ MemPlace.row ⟨g, off, none⟩ (cap0 * 9) := MemPlace.mem_row.2 ⟨0, by omega, by simp⟩
    exact hlt _ (List.mem_append_left _ hmem)
   refine ⟨e, X, g, off, rfl, hg, fun j u hu => ?_⟩
   have hj : j < 9 := (List.getElem?_eq_some_iff.1 hu).1
   have := hat j hj
   rw [hu, addr_addo, addr_addo] at this
   exact this
  obtain ⟨es, rfl, hes⟩ := list_of len0 hel
  exact ⟨some a, es, cap0, rfl, hl, by simpa [maxLen] using hm, fun e he => by
   obtain ⟨i, hi, rfl⟩ := List.getElem_of_mem he
   exact (hes i _ (List.getElem?_eq_getElem hi)).1, fun i e he => (hes i e he).2⟩
set_option maxRecDepth 100000 in
theorem open_light_cells {H : Type} {enc : TypeId × Value → H} {W : World} {n : Nat} {c0 c1 c2 c3 c4 c5 c6 c7 c8 c9 c10 c11 c12 c13 c14 c15 c16 : Value} {z : DataW H × List MemPlace}
    (h : DataW.trod enc Tryz.prog W 0 (fun _ => true) true n 31 [c0, c1, c2, c3, c4, c5, c6, c7, c8, c9, c10, c11, c12, c13, c14, c15, c16] = some z) (hlt : ∀ x ∈ z.2, x.block < W.heap.size)
    (hw : ∀ k ∈ z.1.weights Tryz.prog 31, k ≤ reachBytes) :
    ∃ (a : Option Addr) (es : List Ev) (c : Nat) (y s : Yv), c0 = .slice a es.length c ∧ c1 = .bool y.Y.n ∧ c2 = .slice y.Y.A y.Y.xs.length y.Y.c ∧ c3 = .bool y.Y.m ∧ c4 = .slice y.Y.B y.Y.ds.length y.Y.d ∧ c5 = .bool y.U.n ∧ c6 = .slice y.U.A y.U.xs.length y.U.c ∧ c7 = .bool y.U.m ∧ c8 = .slice y.U.B y.U.ds.length y.U.d ∧ c9 = .bool s.Y.n ∧ c10 = .slice s.Y.A s.Y.xs.length s.Y.c ∧ c11 = .bool s.Y.m ∧ c12 = .slice s.Y.B s.Y.ds.length s.Y.d ∧ c13 = .bool s.U.n ∧ c14 = .slice s.U.A s.U.xs.length s.U.c ∧ c15 = .bool s.U.m ∧ c16 = .slice s.U.B s.U.ds.length s.U.d ∧ Sle W a c es ∧ Xy W y ∧ Xy W s := by
  obtain ⟨f0, f1, f2, hs, o0, o1, o2, ht0, ht1, ht2⟩ := lightFields
  obtain ⟨y0, y1, y2, k, rfl, _, t0, t1, t2⟩ := trod_struct3 hs h
  simp only [o0, o1, o2, ht0, ht1, ht2, elems_cells, ray_cells, List.drop_zero, List.drop_succ_cons, List.take_succ_cons, List.take_zero] at t0 t1 t2
  have hwt : ∀ k, k ∈ y0.1.weights Tryz.prog 22 ∨ k ∈ y1.1.weights Tryz.prog 29 ∨ k ∈ y2.1.weights Tryz.prog 29 → k ≤ reachBytes := fun k hk => hw k (by
    simp only [DataW.weights, hs, DataW.weightsEach, ht0, ht1, ht2, List.map_cons, List.map_nil, List.mem_append]
    rcases hk with hk | hk | hk
    · exact .inl hk
    · exact .inr (.inl hk)
    · exact .inr (.inr (.inl hk)))
  obtain ⟨a, es, c, rfl, S⟩ := open_elems_cells t0 (fun x hx => hlt x (by simp only [List.mem_append]; simp [hx])) (fun k hk => hwt k (.inl hk))
  obtain ⟨m1, rfl, rfl, rfl, rfl, rfl, rfl, rfl, rfl, r1⟩ := open_ray_cells t1 (fun x hx => hlt x (by simp only [List.mem_append]; simp [hx])) (fun k hk => hwt k (.inr (.inl hk)))
  obtain ⟨m2, rfl, rfl, rfl, rfl, rfl, rfl, rfl, rfl, r2⟩ := open_ray_cells t2 (fun x hx => hlt x (by simp only [List.mem_append]; simp [hx])) (fun k hk => hwt k (.inr (.inr hk)))
  exact ⟨a, es, c, m1, m2, rfl, rfl, rfl, rfl, rfl, rfl, rfl, rfl, rfl, rfl, rfl, rfl, rfl, rfl, rfl, rfl, rfl, S, r1, r2⟩
set_option maxRecDepth 100000 in
theorem open_light {H : Type} {enc : TypeId × Value → H} {W : World} {r : Reach} {b0 : Nat} {v : Value} {d : DataW H} {p : List MemPlace}
    (hv : Value.okWide Tryz.prog W r b0 31 v) (h : DataW.Trod enc Tryz.prog W 0 (fun _ => true) true 31 v d p) (hlt : ∀ x ∈ p, x.block < W.heap.size)
    (hw : ∀ n ∈ d.weights Tryz.prog 31, n ≤ reachBytes) : ∃ (a : Option Addr) (es : List Ev) (c : Nat) (y s : Yv), v = .agg #[.slice a es.length c, .bool y.Y.n, .slice y.Y.A y.Y.xs.length y.Y.c, .bool y.Y.m, .slice y.Y.B y.Y.ds.length y.Y.d, .bool y.U.n, .slice y.U.A y.U.xs.length y.U.c, .bool y.U.m, .slice y.U.B y.U.ds.length y.U.d, .bool s.Y.n, .slice s.Y.A s.Y.xs.length s.Y.c, .bool s.Y.m, .slice s.Y.B s.Y.ds.length s.Y.d, .bool s.U.n, .slice s.U.A s.U.xs.length s.U.c, .bool s.U.m, .slice s.U.B s.U.ds.length s.U.d] ∧ Sle W a c es ∧ Xy W y ∧ Xy W s := by
  obtain ⟨f0, f1, f2, hs, o0, o1, o2, ht0, ht1, ht2⟩ := lightFields
  obtain ⟨cs, rfl, hsz⟩ := okWide_struct hs hv
  rw [light_cells] at hsz
  obtain ⟨fuel, hf⟩ := h
  obtain ⟨l⟩ := cs
  match l, hsz with
  | [c0, c1, c2, c3, c4, c5, c6, c7, c8, c9, c10, c11, c12, c13, c14, c15, c16], _ =>
    obtain ⟨a, es, c, y, s, rfl, rfl, rfl, rfl, rfl, rfl, rfl, rfl, rfl, rfl, rfl, rfl, rfl, rfl, rfl, rfl, rfl, S, r1, r2⟩ := open_light_cells (z := (d, p)) hf hlt hw
    exact ⟨a, es, c, y, s, rfl, S, r1, r2⟩
end Go.Proofs.YtjamfkafgfpobaaGreatDoor
