/-
  A matrix that is handed in, opened. No conditions.
-/
import Derived.Test.YtplgheabhekedaaGreatRmt
namespace Go.Proofs.YtplgheabhekedaaGreat
open Go.ChangeShapes Go.WideShapes Go.ChangeAt Go.RowKit Go.Deep Go.Joins Nb
set_option maxRecDepth 100000 in
theorem mat_cells : Tryz.prog.cellsOf 31 = 16 := by kernel_rfl
set_option maxRecDepth 100000 in
theorem matFields : ∃ f0 f1 f2 f3 : Field, Tryz.prog.underlying 31 = some (.struct #[f0, f1, f2, f3]) ∧ f0.offset = 0 ∧ f1.offset = 4 ∧ f2.offset = 8 ∧ f3.offset = 12 ∧ f0.type = 29 ∧ f1.type = 29 ∧ f2.type = 29 ∧ f3.type = 29 := ⟨_, _, _, _, Tryz.underlying31, rfl, rfl, rfl, rfl, rfl, rfl, rfl, rfl⟩
set_option maxRecDepth 100000 in
theorem open_mat_cells {H : Type} {enc : TypeId × Value → H} {W : World} {n : Nat} {c0 c1 c2 c3 c4 c5 c6 c7 c8 c9 c10 c11 c12 c13 c14 c15 : Value} {y : DataW H × List MemPlace}
    (h : DataW.trod enc Tryz.prog W 0 (fun _ => true) true n 31 [c0, c1, c2, c3, c4, c5, c6, c7, c8, c9, c10, c11, c12, c13, c14, c15] = some y) (hlt : ∀ x ∈ y.2, x.block < W.heap.size)
    (hw : ∀ k ∈ y.1.weights Tryz.prog 31, k ≤ reachBytes) :
    ∃ m : Mv, c0 = .bool m.A.n ∧ c1 = .slice m.A.A m.A.xs.length m.A.c ∧ c2 = .bool m.A.m ∧ c3 = .slice m.A.B m.A.ds.length m.A.d ∧ c4 = .bool m.B.n ∧ c5 = .slice m.B.A m.B.xs.length m.B.c ∧ c6 = .bool m.B.m ∧ c7 = .slice m.B.B m.B.ds.length m.B.d ∧ c8 = .bool m.C.n ∧ c9 = .slice m.C.A m.C.xs.length m.C.c ∧ c10 = .bool m.C.m ∧ c11 = .slice m.C.B m.C.ds.length m.C.d ∧ c12 = .bool m.D.n ∧ c13 = .slice m.D.A m.D.xs.length m.D.c ∧ c14 = .bool m.D.m ∧ c15 = .slice m.D.B m.D.ds.length m.D.d ∧ Xm W m := by
  obtain ⟨f0, f1, f2, f3, hs, o0, o1, o2, o3, ht0, ht1, ht2, ht3⟩ := matFields
  obtain ⟨y0, y1, y2, y3, k, rfl, _, t0, t1, t2, t3⟩ := trod_struct4 hs h
  simp only [o0, o1, o2, o3, ht0, ht1, ht2, ht3, frac_cells, List.drop_zero, List.drop_succ_cons, List.take_succ_cons, List.take_zero] at t0 t1 t2 t3
  have hwt : ∀ k, k ∈ y0.1.weights Tryz.prog 29 ∨ k ∈ y1.1.weights Tryz.prog 29 ∨ k ∈ y2.1.weights Tryz.prog 29 ∨ k ∈ y3.1.weights Tryz.prog 29 → k ≤ reachBytes := fun k hk => hw k (by
    simp only [DataW.weights, hs, DataW.weightsEach, ht0, ht1, ht2, ht3, List.map_cons, List.map_nil, List.mem_append]
    rcases hk with hk | hk | hk | hk
    · exact .inl hk
    · exact .inr (.inl hk)
    · exact .inr (.inr (.inl hk))
    · exact .inr (.inr (.inr (.inl hk))))
  obtain ⟨m0, rfl, rfl, rfl, rfl, r0⟩ := open_frac_cells t0 (fun x hx => hlt x (by simp only [List.mem_append]; first | exact .inl (.inl (.inl hx)) | exact .inl (.inl (.inr hx)) | exact .inl (.inr hx) | exact .inr hx | simp [hx])) (fun k hk => hwt k (.inl hk))
  obtain ⟨m1, rfl, rfl, rfl, rfl, r1⟩ := open_frac_cells t1 (fun x hx => hlt x (by simp only [List.mem_append]; first | exact .inl (.inl (.inl hx)) | exact .inl (.inl (.inr hx)) | exact .inl (.inr hx) | exact .inr hx | simp [hx])) (fun k hk => hwt k (.inr (.inl hk)))
  obtain ⟨m2, rfl, rfl, rfl, rfl, r2⟩ := open_frac_cells t2 (fun x hx => hlt x (by simp only [List.mem_append]; first | exact .inl (.inl (.inl hx)) | exact .inl (.inl (.inr hx)) | exact .inl (.inr hx) | exact .inr hx | simp [hx])) (fun k hk => hwt k (.inr (.inr (.inl hk))))
  obtain ⟨m3, rfl, rfl, rfl, rfl, r3⟩ := open_frac_cells t3 (fun x hx => hlt x (by simp only [List.mem_append]; first | exact .inl (.inl (.inl hx)) | exact .inl (.inl (.inr hx)) | exact .inl (.inr hx) | exact .inr hx | simp [hx])) (fun k hk => hwt k (.inr (.inr (.inr hk))))
  exact ⟨⟨m0, m1, m2, m3⟩, rfl, rfl, rfl, rfl, rfl, rfl, rfl, rfl, rfl, rfl, rfl, rfl, rfl, rfl, rfl, rfl, r0, r1, r2, r3⟩
set_option maxRecDepth 100000 in
theorem open_mat {H : Type} {enc : TypeId × Value → H} {W : World} {r : Reach} {b0 : Nat} {v : Value} {d : DataW H} {p : List MemPlace}
    (hv : Value.okWide Tryz.prog W r b0 31 v) (h : DataW.Trod enc Tryz.prog W 0 (fun _ => true) true 31 v d p) (hlt : ∀ x ∈ p, x.block < W.heap.size)
    (hw : ∀ n ∈ d.weights Tryz.prog 31, n ≤ reachBytes) : ∃ m : Mv, v = .agg #[.bool m.A.n, .slice m.A.A m.A.xs.length m.A.c, .bool m.A.m, .slice m.A.B m.A.ds.length m.A.d, .bool m.B.n, .slice m.B.A m.B.xs.length m.B.c, .bool m.B.m, .slice m.B.B m.B.ds.length m.B.d, .bool m.C.n, .slice m.C.A m.C.xs.length m.C.c, .bool m.C.m, .slice m.C.B m.C.ds.length m.C.d, .bool m.D.n, .slice m.D.A m.D.xs.length m.D.c, .bool m.D.m, .slice m.D.B m.D.ds.length m.D.d] ∧ Xm W m := by
  obtain ⟨f0, f1, f2, f3, hs, o0, o1, o2, o3, ht0, ht1, ht2, ht3⟩ := matFields
  obtain ⟨cs, rfl, hsz⟩ := okWide_struct hs hv
  rw [mat_cells] at hsz
  obtain ⟨fuel, hf⟩ := h
  obtain ⟨l⟩ := cs
  match l, hsz with
  | [c0, c1, c2, c3, c4, c5, c6, c7, c8, c9, c10, c11, c12, c13, c14, c15], _ =>
    obtain ⟨m, rfl, rfl, rfl, rfl, rfl, rfl, rfl, rfl, rfl, rfl, rfl, rfl, rfl, rfl, rfl, rfl, r⟩ := open_mat_cells (y := (d, p)) hf hlt hw
    exact ⟨m, rfl, r⟩
set_option maxRecDepth 100000 in
theorem open_fv {H : Type} {enc : TypeId × Value → H} {W : World} {r : Reach} {b0 : Nat} {v : Value} {d : DataW H} {p : List MemPlace}
    (hv : Value.okWide Tryz.prog W r b0 29 v) (h : DataW.Trod enc Tryz.prog W 0 (fun _ => true) true 29 v d p) (hlt : ∀ x ∈ p, x.block < W.heap.size)
    (hw : ∀ n ∈ d.weights Tryz.prog 29, n ≤ reachBytes) : ∃ f : Fv, v = .agg #[.bool f.n, .slice f.A f.xs.length f.c, .bool f.m, .slice f.B f.ds.length f.d] ∧ Fx W f := by
  obtain ⟨f0, f1, hs, o0, o1, ht0, ht1⟩ := fracFields
  obtain ⟨cs, rfl, hsz⟩ := okWide_struct hs hv
  rw [frac_cells] at hsz
  obtain ⟨fuel, hf⟩ := h
  obtain ⟨l⟩ := cs
  match l, hsz with
  | [c0, c1, c2, c3], _ =>
    obtain ⟨m, rfl, rfl, rfl, rfl, r⟩ := open_frac_cells (y := (d, p)) hf hlt hw
    exact ⟨m, rfl, r⟩
end Go.Proofs.YtplgheabhekedaaGreat
