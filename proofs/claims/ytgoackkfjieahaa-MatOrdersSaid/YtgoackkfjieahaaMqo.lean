/-
  Lists of matrices that are handed in, opened. No conditions.
-/
import Derived.Test.YtgoackkfjieahaaMro
import Derived.Test.YtgoackkfjieahaaMls
import Derived.Deep.Slices
import Derived.Deep.Fields
import Derived.ChangeSame
namespace Go.Proofs.Ytgoackkfjieahaa.W
open Go.ChangeShapes Go.WideShapes Go.ChangeAt Go.RowKit Go.Deep Go.Joins
theorem list_of {p : Nat → Mz → Prop} : ∀ n, (∀ i, i < n → ∃ m, p i m) → ∃ l : List Mz, l.length = n ∧ ∀ i m, l[i]? = some m → p i m
  | 0, _ => ⟨[], rfl, fun i m h => by simp at h⟩
  | n + 1, h => by
    obtain ⟨l, hl, hp⟩ := list_of n fun i hi => h i (by omega)
    obtain ⟨x, hx⟩ := h n (by omega)
    refine ⟨l ++ [x], by simp [hl], fun i m e => ?_⟩
    by_cases hi : i < n
    · rw [List.getElem?_append_left (by omega)] at e
      exact hp i m e
    · rw [List.getElem?_append_right (by omega)] at e
      have : i = n := by
        rcases Nat.lt_or_ge (i - l.length) 1 with h1 | h1
        · omega
        · rw [List.getElem?_eq_none (by simpa using h1)] at e; cases e
      subst this
      rw [hl, Nat.sub_self] at e
      simp at e
      subst e
      exact hx
set_option maxRecDepth 100000 in
theorem open_u {H : Type} {enc : TypeId × Value → H} {W : World} {r : Reach} {b0 : Nat} {v : Value} {d : DataW H} {p : List MemPlace}
    (hv : Value.okWide Try.prog W r b0 24 v) (h : DataW.Trod enc Try.prog W 0 (fun _ => true) true 24 v d p) : ∃ n : Nat, v = .int .u64 (n : Nat) ∧ (n : Int) ≤ 18446744073709551615 := by
  obtain ⟨n, rfl, rfl, rfl, hw⟩ := open_int Try.underlying24 hv h
  have hb := bounds_u64 hw
  obtain ⟨k, rfl⟩ := Int.eq_ofNat_of_zero_le hb.1
  exact ⟨k, rfl, hb.2⟩
set_option maxRecDepth 100000 in
theorem four_cells {H : Type} {enc : TypeId × Value → H} {W : World} {n : Nat} {cs : List Value} {x : DataW H × List MemPlace} (hl : cs.length = 4) (h : DataW.trod enc Try.prog W 0 (fun _ => true) true n 23 cs = some x) : ∃ m : Mz, cs = mcv m := by
  have e1 : Try.prog.cellsOf 2 = 1 := by kernel_rfl
  match cs, hl with
  | [c0, c1, c2, c3], _ =>
    obtain ⟨y0, y1, y2, y3, k, _, _, t0, t1, t2, t3⟩ := trod_struct4 Try.underlying23 h
    simp only [e1] at t0 t1 t2 t3
    obtain ⟨a, e0, _, _⟩ := Go.DataW.trod_int Try.underlying2 t0
    obtain ⟨b, e2, _, _⟩ := Go.DataW.trod_int Try.underlying2 t1
    obtain ⟨c, e3, _, _⟩ := Go.DataW.trod_int Try.underlying2 t2
    obtain ⟨d, e4, _, _⟩ := Go.DataW.trod_int Try.underlying2 t3
    simp at e0 e2 e3 e4
    exact ⟨⟨a, b, c, d⟩, by rw [e0, e2, e3, e4]; rfl⟩
set_option maxRecDepth 100000 in
theorem open_list {H : Type} {enc : TypeId × Value → H} {W : World} {r : Reach} {b0 : Nat} {v : Value} {d : DataW H} {p : List MemPlace}
    (hv : Value.okWide Try.prog W r b0 25 v) (h : DataW.Trod enc Try.prog W 0 (fun _ => true) true 25 v d p) (hlt : ∀ x ∈ p, x.block < W.heap.size) :
    ∃ (a : Option Addr) (l : List Mz) (c : Nat), v = .slice a l.length c ∧ ∀ (i : Nat) (m : Mz), l[i]? = some m → ∃ g off : Nat, a = some ⟨g, off, none⟩ ∧ At W g (off + i * 4) (mcv m) := by
  have e4 : Try.prog.cellsOf 23 = 4 := by kernel_rfl
  obtain ⟨a0, len0, cap0, rfl⟩ := okWide_slice Try.underlying25 hv
  obtain ⟨fuel, hf⟩ := h
  rcases open_slice Try.underlying25 hf with ⟨hc, _⟩ | ⟨a, len, cap, m, n, D, Pl, hcs, hb, hl, hm, hmm, hx, hi⟩
  · simp [Value.cells] at hc
    obtain ⟨rfl, rfl, rfl⟩ := hc
    exact ⟨none, [], 0, rfl, fun i m h => by simp at h⟩
  · simp [Value.cells] at hcs
    obtain ⟨rfl, rfl, rfl⟩ := hcs
    rw [e4] at hx hi
    simp only [if_true] at hmm
    rw [hmm] at hx hi
    have hel : ∀ i, i < len0 → ∃ mm : Mz, ∃ g off : Nat, some a = some ⟨g, off, none⟩ ∧ At W g (off + i * 4) (mcv mm) := by
      intro i hil
      obtain ⟨cs', hc, ht⟩ := hi i (by omega)
      obtain ⟨_, hcl, hat⟩ := World.cells?_some hc
      obtain ⟨mm, rfl⟩ := four_cells hcl ht
      have hsp : a.spot = none := by
        obtain ⟨cs0, hc0, ht0⟩ := hi 0 (by omega)
        obtain ⟨_, hcl0, hat0⟩ := World.cells?_some hc0
        obtain ⟨m0, rfl⟩ := four_cells hcl0 ht0
        have h1 := World.cell?_spot ((hat0 0 (by decide)).trans rfl : W.cell? ((a.add (0 * 4)).add 0) = some (.int .i64 m0.a))
        rw [Go.Deep.add_add] at h1
        simpa [Addr.add] using h1
      obtain ⟨g, off, spot⟩ := a
      simp only at hsp
      subst hsp
      have hg : g < W.heap.size := by
        have hp : p = _ := (Prod.mk.inj hx).2
        have hmem : MemPlace.cell g off ∈ MemPlace.row ⟨g, off, none⟩ (cap0 * 4) := MemPlace.mem_row.2 ⟨0, by omega, by simp⟩
        exact hlt _ (by rw [hp]; exact List.mem_append_left _ hmem)
      refine ⟨mm, g, off, rfl, hg, fun j u hu => ?_⟩
      have hj : j < 4 := (List.getElem?_eq_some_iff.1 hu).1
      have := hat j hj
      rw [hu, Go.WideShapes.add_plain, Go.WideShapes.add_plain] at this
      exact this
    obtain ⟨l, rfl, hl2⟩ := list_of len0 hel
    exact ⟨some a, l, cap0, rfl, hl2⟩
section
variable {H : Type} {enc : TypeId × Value → H} {P : Program} {w : World} {base : Nat} {spare : Nat → Bool} {held : Bool}
theorem trodAll_five {t0 t1 t2 t3 t4 : TypeId} {args : Array Value} {ds : List (DataW H)} {ps : List MemPlace} (h : DataW.TrodAll enc P w base spare held [t0, t1, t2, t3, t4] args.toList ds ps) :
    ∃ v0 v1 v2 v3 v4 d0 d1 d2 d3 d4 p0 p1 p2 p3 p4, args = #[v0, v1, v2, v3, v4] ∧ ds = [d0, d1, d2, d3, d4] ∧ ps = p0 ++ (p1 ++ (p2 ++ (p3 ++ p4))) ∧ DataW.Trod enc P w base spare held t0 v0 d0 p0 ∧ DataW.Trod enc P w base spare held t1 v1 d1 p1 ∧
      DataW.Trod enc P w base spare held t2 v2 d2 p2 ∧ DataW.Trod enc P w base spare held t3 v3 d3 p3 ∧ DataW.Trod enc P w base spare held t4 v4 d4 p4 := by
  obtain ⟨v0, vs0, d0, ds0, p0, q0, e0, rfl, rfl, h0, r0⟩ := trodAll_cons h
  obtain ⟨v1, vs1, d1, ds1, p1, q1, rfl, rfl, rfl, h1, r1⟩ := trodAll_cons r0
  obtain ⟨v2, vs2, d2, ds2, p2, q2, rfl, rfl, rfl, h2, r2⟩ := trodAll_cons r1
  obtain ⟨v3, vs3, d3, ds3, p3, q3, rfl, rfl, rfl, h3, r3⟩ := trodAll_cons r2
  obtain ⟨v4, vs4, d4, ds4, p4, q4, rfl, rfl, rfl, h4, r4⟩ := trodAll_cons r3
  obtain ⟨rfl, rfl, rfl⟩ := trodAll_nil r4
  exact ⟨v0, v1, v2, v3, v4, d0, d1, d2, d3, d4, p0, p1, p2, p3, p4, by cases args; simp_all, rfl, by simp, h0, h1, h2, h3, h4⟩
theorem trodAll_mk5 {t0 t1 t2 t3 t4 : TypeId} {v0 v1 v2 v3 v4 : Value} {d0 d1 d2 d3 d4 : DataW H} {p0 p1 p2 p3 p4 : List MemPlace} (h0 : DataW.Trod enc P w base spare held t0 v0 d0 p0) (h1 : DataW.Trod enc P w base spare held t1 v1 d1 p1)
    (h2 : DataW.Trod enc P w base spare held t2 v2 d2 p2) (h3 : DataW.Trod enc P w base spare held t3 v3 d3 p3) (h4 : DataW.Trod enc P w base spare held t4 v4 d4 p4) :
    DataW.TrodAll enc P w base spare held [t0, t1, t2, t3, t4] [v0, v1, v2, v3, v4] [d0, d1, d2, d3, d4] (p0 ++ (p1 ++ (p2 ++ (p3 ++ p4)))) :=
  ⟨p0, _, h0, ⟨p1, _, h1, trodAll_mk3 h2 h3 h4, rfl⟩, rfl⟩
end
end Go.Proofs.Ytgoackkfjieahaa.W
