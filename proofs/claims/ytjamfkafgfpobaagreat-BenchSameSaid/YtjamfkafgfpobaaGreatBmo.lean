/-
  Benches that are handed in, opened. No conditions.
-/
import Derived.Test.YtjamfkafgfpobaaGreatXtb
import Derived.Test.YtjamfkafgfpobaaGreatRmt
import Derived.Test.YtjamfkafgfpobaaGreatBm4
import Derived.Deep.Slices
import Derived.Deep.Strs
namespace Go.Proofs.YtjamfkafgfpobaaGreat
open Go.ChangeShapes Go.WideShapes Go.ChangeAt Go.RowKit Go.Deep Go.Joins Nb
theorem list_of {α : Type} {p : Nat → α → Prop} : ∀ n, (∀ i, i < n → ∃ m, p i m) → ∃ l : List α, l.length = n ∧ ∀ i m, l[i]? = some m → p i m
 | 0, _ => ⟨[], rfl, fun i m h => by simp at h⟩
 | n + 1, h => by
  obtain ⟨l, hl, hp⟩ := list_of n fun i hi => h i (by omega)
  obtain ⟨x, hx⟩ := h n (by omega)
  refine ⟨l ++ [x], by simp [hl], fun i m e => ?_⟩
  by_cases hi : i < n
  ·rw [List.getElem?_append_left (by omega)] at e
   exact hp i m e
  ·rw [List.getElem?_append_right (by omega)] at e
   have : i = n := by
    rcases Nat.lt_or_ge (i - l.length) 1 with h1 | h1
    ·omega
    ·rw [List.getElem?_eq_none (by simpa using h1)] at e; cases e
   subst this
   rw [hl, Nat.sub_self] at e
   simp at e
   subst e
   exact hx
set_option maxRecDepth 100000 in
theorem elem_cells : Tryz.prog.cellsOf 58 = 9 := by kernel_rfl
set_option maxRecDepth 100000 in
theorem kind_cells : Tryz.prog.cellsOf 56 = 1 := by kernel_rfl
set_option maxRecDepth 100000 in
theorem elemFields : ∃ f0 f1 f2 : Field, Tryz.prog.underlying 58 = some (.struct #[f0, f1, f2]) ∧ f0.offset = 0 ∧ f1.offset = 1 ∧ f2.offset = 5 ∧ f0.type = 56 ∧ f1.type = 29 ∧ f2.type = 29 := ⟨_, _, _, Tryz.underlying58, rfl, rfl, rfl, rfl, rfl, rfl⟩
theorem weights_all {H : Type} {P : Program} {e : TypeId} {d : DataW H} {k : Nat} (hk : k ∈ d.weights P e) : ∀ {l : List (DataW H)}, d ∈ l → k ∈ DataW.weightsAll P e l
 | [], h => by simp at h
 | x :: r, h => by
  simp only [DataW.weightsAll, List.mem_append]
  rcases List.mem_cons.1 h with rfl | h
  ·exact .inl hk
  ·exact .inr (weights_all hk h)
set_option maxRecDepth 100000 in
theorem open_elem_cells {H : Type} {enc : TypeId × Value → H} {W : World} {n : Nat} {c0 c1 c2 c3 c4 c5 c6 c7 c8 : Value} {y : DataW H × List MemPlace}
    (h : DataW.trod enc Tryz.prog W 0 (fun _ => true) true n 58 [c0, c1, c2, c3, c4, c5, c6, c7, c8] = some y) (hlt : ∀ x ∈ y.2, x.block < W.heap.size)
    (hw : ∀ k ∈ y.1.weights Tryz.prog 58, k ≤ reachBytes) : ∃ e : Ev, [c0, c1, c2, c3, c4, c5, c6, c7, c8] = ecs e ∧ Xe W e := by
  obtain ⟨f0, f1, f2, hs, o0, o1, o2, ht0, ht1, ht2⟩ := elemFields
  obtain ⟨y0, y1, y2, k, rfl, _, t0, t1, t2⟩ := trod_struct3 hs h
  simp only [o0, o1, o2, ht0, ht1, ht2, frac_cells, kind_cells, List.drop_zero, List.drop_succ_cons, List.take_succ_cons, List.take_zero] at t0 t1 t2
  obtain ⟨a, e0, _, hwf⟩ := Go.DataW.trod_int Tryz.underlying56 t0
  simp at e0
  simp [Lit.wf, IntKind.min, IntKind.max, IntKind.signed, IntKind.bits] at hwf
  have hwt : ∀ k, k ∈ y1.1.weights Tryz.prog 29 ∨ k ∈ y2.1.weights Tryz.prog 29 → k ≤ reachBytes := fun k hk => hw k (by
    simp only [DataW.weights, hs, DataW.weightsEach, ht0, ht1, ht2, List.map_cons, List.map_nil, List.mem_append]
    rcases hk with hk | hk
    · exact .inr (.inl hk)
    · exact .inr (.inr (.inl hk)))
  obtain ⟨m1, rfl, rfl, rfl, rfl, r1⟩ := open_frac_cells t1 (fun x hx => hlt x (by simp only [List.mem_append]; first | exact .inr (.inl hx) | simp [hx])) (fun k hk => hwt k (.inl hk))
  obtain ⟨m2, rfl, rfl, rfl, rfl, r2⟩ := open_frac_cells t2 (fun x hx => hlt x (by simp only [List.mem_append]; first | exact .inr (.inr hx) | simp [hx])) (fun k hk => hwt k (.inr hk))
  exact ⟨⟨a, m1, m2⟩, by rw [e0]; rfl, ⟨by simp only; omega, r1, r2⟩⟩
set_option maxRecDepth 100000 in
theorem open_elems {H : Type} {enc : TypeId × Value → H} {W : World} {r : Reach} {b0 : Nat} {v : Value} {d : DataW H} {p : List MemPlace}
    (hv : Value.okWide Tryz.prog W r b0 22 v) (h : DataW.Trod enc Tryz.prog W 0 (fun _ => true) true 22 v d p) (hlt : ∀ x ∈ p, x.block < W.heap.size)
    (hw : ∀ n ∈ d.weights Tryz.prog 22, n ≤ reachBytes) : ∃ (a : Option Addr) (es : List Ev) (c : Nat), v = .slice a es.length c ∧ Sle W a c es := by
  obtain ⟨a0, len0, cap0, rfl⟩ := okWide_slice Tryz.underlying22 hv
  obtain ⟨fuel, hf⟩ := h
  rcases open_slice Tryz.underlying22 hf with ⟨hc, _⟩ | ⟨a, len, cap, m, n, D, Pl, hcs, hb, hl, hm, hmm, hx, hi⟩
  · simp [Value.cells] at hc
    obtain ⟨rfl, rfl, rfl⟩ := hc
    exact ⟨none, [], 0, rfl, by simp, by omega, fun e h => by simp at h, fun i m h => by simp at h⟩
  · simp [Value.cells] at hcs
    obtain ⟨rfl, rfl, rfl⟩ := hcs
    rw [elem_cells] at hx hi
    simp only [if_true] at hmm
    rw [hmm] at hx hi
    obtain ⟨hd, hp⟩ := Prod.mk.inj hx
    have hel : ∀ i, i < len0 → ∃ e : Ev, Xe W e ∧ ∃ g o : Nat, some a = some ⟨g, o, none⟩ ∧ g < W.heap.size ∧ AtB W g (o + i * 9) (ecs e) := by
      intro i hil
      obtain ⟨cs', hc, ht⟩ := hi i (by omega)
      obtain ⟨_, hcl, hat⟩ := World.cells?_some hc
      have key : ∀ (cs : List Value) (i : Nat), i < len0 → cs.length = 9 → DataW.trod enc Tryz.prog W 0 (fun _ => true) true n 58 cs = some (D i, Pl i) → ∃ e : Ev, cs = ecs e ∧ Xe W e := by
        intro cs i hil hcl ht
        match cs, hcl with
        | [c0, c1, c2, c3, c4, c5, c6, c7, c8], _ =>
          refine open_elem_cells ht (fun x hx => hlt x ?_) (fun k hk => hw k ?_)
          · rw [hp]
            exact List.mem_append_right _ (List.mem_flatMap.2 ⟨i, List.mem_range.2 (by omega), hx⟩)
          · rw [hd]
            simp only [DataW.weights, Tryz.underlying22, List.mem_cons, List.mem_append]
            exact .inr (.inl (weights_all hk (List.mem_map.2 ⟨i, List.mem_range.2 hil, rfl⟩)))
      obtain ⟨e, rfl, X⟩ := key cs' i hil hcl ht
      have hsp : a.spot = none := by
        obtain ⟨cs0, hc0, ht0⟩ := hi 0 (by omega)
        obtain ⟨_, hcl0, hat0⟩ := World.cells?_some hc0
        obtain ⟨e1, rfl, _⟩ := key cs0 0 (by omega) hcl0 ht0
        have h1 := World.cell?_spot ((hat0 0 (by decide)).trans rfl : W.cell? ((a.add (0 * 9)).add 0) = some (.int .u8 e1.k))
        rw [Go.Deep.add_add] at h1
        simpa [Addr.add] using h1
      obtain ⟨g, off, spot⟩ := a
      simp only at hsp
      subst hsp
      have hg : g < W.heap.size := by
        have hmem : MemPlace.cell g off ∈ MemPlace.row ⟨g, off, none⟩ (cap0 * 9) := MemPlace.mem_row.2 ⟨0, by omega, by simp⟩
        exact hlt _ (by rw [hp]; exact List.mem_append_left _ hmem)
      refine ⟨e, X, g, off, rfl, hg, fun j u hu => ?_⟩
      have hj : j < 9 := (List.getElem?_eq_some_iff.1 hu).1
      have := hat j hj
      rw [hu, addr_addo, addr_addo] at this
      exact this
    obtain ⟨es, rfl, hes⟩ := list_of len0 hel
    exact ⟨some a, es, cap0, rfl, hl, by simpa [maxLen] using hm, fun e he => by
      obtain ⟨i, hi, rfl⟩ := List.getElem_of_mem he
      exact (hes i _ (List.getElem?_eq_getElem hi)).1, fun i e he => (hes i e he).2⟩
end Go.Proofs.YtjamfkafgfpobaaGreat
