/-
  For every matrix that is handed in, may it be or not: the parts of one that may be are at most five spaces, lenses and flips that have it, or do not fit.
-/
import Derived.Test.YtjamfkafgfpobaaGreatRmt
import Derived.Test.YtjamfkafgfpobaaGreatBeh
namespace Go.Proofs.YtjamfkafgfpobaaGreat
open Go.ChangeShapes Go.WideShapes Go.ChangeAt Go.RowKit Go.Deep Go.Joins Nb
set_option maxRecDepth 100000 in
theorem mat_cells : Tryz.prog.cellsOf 31 = 16 := by kernel_rfl
set_option maxRecDepth 100000 in
theorem matFields : ∃ f0 f1 f2 f3 : Field, Tryz.prog.underlying 31 = some (.struct #[f0, f1, f2, f3]) ∧ f0.offset = 0 ∧ f1.offset = 4 ∧ f2.offset = 8 ∧ f3.offset = 12 ∧ f0.type = 29 ∧ f1.type = 29 ∧ f2.type = 29 ∧ f3.type = 29 := ⟨_, _, _, _, Tryz.underlying31, rfl, rfl, rfl, rfl, rfl, rfl, rfl, rfl⟩
set_option maxRecDepth 100000 in
theorem open_mat_cells {H : Type} {enc : TypeId × Value → H} {W : World} {n : Nat} {c0 c1 c2 c3 c4 c5 c6 c7 c8 c9 c10 c11 c12 c13 c14 c15 : Value} {y : DataW H × List MemPlace}
    (h : DataW.trod enc Tryz.prog W 0 (fun _ => true) true n 31 [c0, c1, c2, c3, c4, c5, c6, c7, c8, c9, c10, c11, c12, c13, c14, c15] = some y) (hlt : ∀ x ∈ y.2, x.block < W.heap.size)
    (hw : ∀ k ∈ y.1.weights Tryz.prog 31, k ≤ reachBytes) :
    ∃ m : Mv, c0 = .bool m.A.n ∧ c1 = .slice m.A.A m.A.xs.length m.A.c ∧ c2 = .bool m.A.m ∧ c3 = .slice m.A.B m.A.ds.length m.A.d ∧ c4 = .bool m.B.n ∧ c5 = .slice m.B.A m.B.xs.length m.B.c ∧ c6 = .bool m.B.m ∧ c7 = .slice m.B.B m.B.ds.length m.B.d ∧ c8 = .bool m.C.n ∧ c9 = .slice m.C.A m.C.xs.length m.C.c ∧ c10 = .bool m.C.m ∧ c11 = .slice m.C.B m.C.ds.length m.C.d ∧ c12 = .bool m.D.n ∧ c13 = .slice m.D.A m.D.xs.length m.D.c ∧ c14 = .bool m.D.m ∧ c15 = .slice m.D.B m.D.ds.length m.D.d ∧ Xm W m := by
  obtain ⟨f0, f1, f2, f3, hs, o0, o1, o2, o3, ht0, ht1, ht2, ht3⟩ := matFields
  obtain ⟨y0, y1, y2, y3, k, rfl, _, t0, t1, t2, t3⟩ := trod_struct4 hs h
  simp only [o0, o1, o2, o3, ht0, ht1, ht2, ht3, frac_cells, List.drop_zero, List.drop_succ_cons, List.take_succ_cons, List.take_zero] at t0 t1 t2 t3
  have hwt : ∀ k, k ∈ y0.1.weights Tryz.prog 29 ∨ k ∈ y1.1.weights Tryz.prog 29 ∨ k ∈ y2.1.weights Tryz.prog 29 ∨ k ∈ y3.1.weights Tryz.prog 29 → k ≤ reachBytes := fun k hk => hw k (by
    simp only [DataW.weights, hs, DataW.weightsEach, ht0, ht1, ht2, ht3, List.map_cons, List.map_nil, List.mem_append]
    rcases hk with hk | hk | hk | hk
    · exact .inl hk
    · exact .inr (.inl hk)
    · exact .inr (.inr (.inl hk))
    · exact .inr (.inr (.inr (.inl hk))))
  obtain ⟨m0, rfl, rfl, rfl, rfl, r0⟩ := open_frac_cells t0 (fun x hx => hlt x (by simp only [List.mem_append]; first | exact .inl (.inl (.inl hx)) | exact .inl (.inl (.inr hx)) | exact .inl (.inr hx) | exact .inr hx | simp [hx])) (fun k hk => hwt k (.inl hk))
  obtain ⟨m1, rfl, rfl, rfl, rfl, r1⟩ := open_frac_cells t1 (fun x hx => hlt x (by simp only [List.mem_append]; first | exact .inl (.inl (.inl hx)) | exact .inl (.inl (.inr hx)) | exact .inl (.inr hx) | exact .inr hx | simp [hx])) (fun k hk => hwt k (.inr (.inl hk)))
  obtain ⟨m2, rfl, rfl, rfl, rfl, r2⟩ := open_frac_cells t2 (fun x hx => hlt x (by simp only [List.mem_append]; first | exact .inl (.inl (.inl hx)) | exact .inl (.inl (.inr hx)) | exact .inl (.inr hx) | exact .inr hx | simp [hx])) (fun k hk => hwt k (.inr (.inr (.inl hk))))
  obtain ⟨m3, rfl, rfl, rfl, rfl, r3⟩ := open_frac_cells t3 (fun x hx => hlt x (by simp only [List.mem_append]; first | exact .inl (.inl (.inl hx)) | exact .inl (.inl (.inr hx)) | exact .inl (.inr hx) | exact .inr hx | simp [hx])) (fun k hk => hwt k (.inr (.inr (.inr hk))))
  exact ⟨⟨m0, m1, m2, m3⟩, rfl, rfl, rfl, rfl, rfl, rfl, rfl, rfl, rfl, rfl, rfl, rfl, rfl, rfl, rfl, rfl, r0, r1, r2, r3⟩
set_option maxRecDepth 100000 in
theorem open_mat {H : Type} {enc : TypeId × Value → H} {W : World} {r : Reach} {b0 : Nat} {v : Value} {d : DataW H} {p : List MemPlace}
    (hv : Value.okWide Tryz.prog W r b0 31 v) (h : DataW.Trod enc Tryz.prog W 0 (fun _ => true) true 31 v d p) (hlt : ∀ x ∈ p, x.block < W.heap.size)
    (hw : ∀ n ∈ d.weights Tryz.prog 31, n ≤ reachBytes) : ∃ m : Mv, v = .agg #[.bool m.A.n, .slice m.A.A m.A.xs.length m.A.c, .bool m.A.m, .slice m.A.B m.A.ds.length m.A.d, .bool m.B.n, .slice m.B.A m.B.xs.length m.B.c, .bool m.B.m, .slice m.B.B m.B.ds.length m.B.d, .bool m.C.n, .slice m.C.A m.C.xs.length m.C.c, .bool m.C.m, .slice m.C.B m.C.ds.length m.C.d, .bool m.D.n, .slice m.D.A m.D.xs.length m.D.c, .bool m.D.m, .slice m.D.B m.D.ds.length m.D.d] ∧ Xm W m := by
  obtain ⟨f0, f1, f2, f3, hs, o0, o1, o2, o3, ht0, ht1, ht2, ht3⟩ := matFields
  obtain ⟨cs, rfl, hsz⟩ := okWide_struct hs hv
  rw [mat_cells] at hsz
  obtain ⟨fuel, hf⟩ := h
  obtain ⟨l⟩ := cs
  match l, hsz with
  | [c0, c1, c2, c3, c4, c5, c6, c7, c8, c9, c10, c11, c12, c13, c14, c15], _ =>
    obtain ⟨m, rfl, rfl, rfl, rfl, rfl, rfl, rfl, rfl, rfl, rfl, rfl, rfl, rfl, rfl, rfl, rfl, r⟩ := open_mat_cells (y := (d, p)) hf hlt hw
    exact ⟨m, rfl, r⟩
end Go.Proofs.YtjamfkafgfpobaaGreat
namespace Go.Proofs.YtjamfkafgfpobaaGreat.benchParts
open Go.ChangeShapes Go.WideShapes Go.ChangeAt Go.RowKit Nb
set_option linter.unusedVariables false
set_option maxRecDepth 100000 in
theorem lifted (os : Os) (started : os.Started) (H : Type) (enc : TypeId × Value → H) :
    ReturnsInHanded {} Tryz.checked os 7 .any (Rows.benchPartsSpec.pre6 enc Tryz.prog Tryz.f7 Rows.benchPartsRow.domain false) (Rows.benchPartsSpec.post enc Tryz.prog Tryz.f7 false true false false) := by
  refine returnsInHanded_of_change_sized (C := Tryz.checked) own started (by kernel_rfl) Tryz.func7
    (ChangeSpec.witness6 (enc := enc) (C := Tryz.checked) false ⟨#[], #[.agg #[.bool false, .slice none 0 0, .bool false, .slice none 0 0, .bool false, .slice none 0 0, .bool false, .slice none 0 0, .bool false, .slice none 0 0, .bool false, .slice none 0 0, .bool false, .slice none 0 0, .bool false, .slice none 0 0]], []⟩ 8 (by kernel_rfl) (by kernel_rfl) (by kernel_rfl) (by kernel_rfl)) ?_
  intro W base args ds gs before hval0 hW _ hsz0 _
  have hsz : (DataW.weightsEach Tryz.prog (Tryz.f7.params.toList ++ Rows.benchPartsSpec.plain.varTypes Tryz.prog) (ds ++ gs)).all (· ≤ reachBytes) = true := hsz0
  clear hsz0
  have hval : ∀ (j : Nat) t v, Tryz.f7.params[j]? = some t → args[j]? = some v → Value.okWide Tryz.prog W .any base t v := hval0
  have hW' := hW
  obtain ⟨p, q, hA0, hV, rfl, _, _⟩ := hW
  have hA : DataW.TrodAll enc Tryz.prog W 0 (fun _ => true) true Tryz.f7.params.toList args.toList ds p := hA0
  rw [Tryz.params7] at hA hval hsz
  obtain ⟨v0, d0, rfl, rfl, h0⟩ := trodAll_one hA
  obtain ⟨rfl, rfl⟩ := trodVars_none hV
  clear hA0
  simp only [List.append_nil] at hW'
  have hlt0 : ∀ x ∈ p, x.block < W.heap.size := fun x hx => by simpa using hW'.lt x (by simp [hx])
  have hw0 : ∀ n ∈ d0.weights Tryz.prog 31, n ≤ reachBytes := fun n hn => by
    have := List.all_eq_true.1 hsz _ (DataW.weights_mem_each (j := 0) rfl rfl n hn)
    simpa using this
  have k0 := h0
  obtain ⟨f0, rfl, r0⟩ := open_mat (hval 0 31 v0 rfl rfl) h0 hlt0 hw0
  refine (benchParts_any r0).mono fun e W' ⟨he, hg⟩ => ?_
  subst he
  refine ⟨_, rfl, _, _, _, [], p, [], hW', ?_, ?_, rfl, hg.frame _, fun h => by cases h⟩
  · exact trodAll_cons_mk (shut_bool Tryz.underlying4 _) trodAll_mk0
  · exact trodAll_mk1 (Below.trod laidOut (by kernel_rfl) (of_decide_eq_true (by kernel_rfl)) k0 hg hlt0)
theorem over : Rows.benchPartsRow.holds Tryz.pinned (OpenSpec.ofChange Rows.benchPartsSpec) :=
  OpenClaim.holds_of_wide 7 Tryz.f7 rfl rfl rfl rfl rfl rfl rfl ⟨rfl, rfl, rfl, rfl, rfl⟩ rfl rfl rfl rfl rfl (by kernel_rfl) Tryz.func7 (by kernel_rfl)
    (of_decide_eq_true (by kernel_rfl)) (by unfold Func.isWrapper; first | (rw [if_pos (by decide +kernel)]; kernel_rfl) | (rw [if_neg (by decide +kernel)]; exact ⟨rfl, rfl⟩))
    (fun os started H enc _ => lifted os started H enc)
theorem proved : Rows.BenchPartsSaid := over
end Go.Proofs.YtjamfkafgfpobaaGreat.benchParts
