/-
  What bench.Parts wants. Conditions: as each theorem states.
-/
import Derived.Test.YtjamfkafgfpobaaGreatBe8
import Derived.Deep.RegionHeld3
import Derived.Deep.DeepCutAuto
import Derived.BigRegion
namespace Go.Proofs.YtjamfkafgfpobaaGreat
open Go.RowKit Nb
theorem flatP_one (es : List Pv) : ∀ u ∈ es.flatMap pcs, u.oneCell' = true := fun u hu => by
 rw [List.mem_flatMap] at hu
 obtain ⟨e, _, he⟩ := hu
 have h : (pcs e).all (·.oneCell') = true := rfl
 exact List.all_eq_true.1 h u he
theorem rowP_newZ (W : World) (xs : List Pv) (k : Nat) : ∃ V : World, V = W.drew.alloc (.cells ((xs.flatMap pcs).toArray ++ Builtin.zeroCells (pv p0v).cells k) 113) ∧ Below W.heap.size W V ∧ Box V W.heap.size ((xs ++ List.replicate k p0v).flatMap pcs) ∧ Fz V W.heap.size := by
 obtain ⟨V, hV, hb, K, Z, _⟩ := alloc_new W.drew ((xs ++ List.replicate k p0v).flatMap pcs) 113
 refine ⟨V, ?_, ((Below.refl _ _).drew).trans hb, K, Z⟩
 rw [hV]
 have hz : Builtin.zeroCells (pv p0v).cells k = ((List.replicate k p0v).flatMap pcs).toArray := by
  apply Array.toList_inj.1
  have := made_list (pv p0v).cells k (by decide)
  rw [rep_flatP] at this
  exact this
 rw [hz, List.flatMap_append]
 simp
/-- A row that grows, in a block of its own. -/
def Rw (B : Nat) (W : World) (a : Option Addr) (c : Nat) (ys : List Pv) : Prop := (a = none ∧ c = 0 ∧ ys = []) ∨ ∃ b k : Nat, a = some ⟨b, 0, none⟩ ∧ c = ys.length + k ∧ c ≤ maxLen ∧ Box W b ((ys ++ List.replicate k p0v).flatMap pcs) ∧ Fz W b ∧ B ≤ b
theorem appR (ty : TypeId) {W w : World} {a : Option Addr} {c g : Nat} {ys : List Pv} {x : Pv} (BW : Below w.heap.size w W) (K : Box W g (pcs x)) (R : Rw w.heap.size W a c ys) (hl : ys.length + 1 ≤ 4096) :
  ∃ (a2 : Option Addr) (c2 : Nat) (V : World), (Builtin.append_ #[111, 111] ty #[.slice a ys.length c, .slice (some ⟨g, 0, none⟩) 1 1]).run Tryz.prog W = .ok (.slice a2 (ys ++ [x]).length c2) V ∧ Rw w.heap.size V a2 c2 (ys ++ [x]) ∧ Below w.heap.size w V ∧ Kept W V := by
 have hi := infoP3
 cases hq : Tryz.prog.info? 113 with
 | none => rw [hq] at hi; cases hi
 | some i =>
  rw [hq] at hi
  simp only [Option.map_some, Option.some.injEq, Prod.mk.injEq] at hi
  obtain ⟨hz, hs, hby⟩ := hi
  have hsrc : ∀ (j : Nat) (v : Value), (pcs x)[j]? = some v → W.cell? (Addr.add ⟨g, 0, none⟩ j) = some v := fun j v hv => by
   rw [addr_addo, Nat.zero_add]
   exact K.c j v hv
  have hlen : (ys ++ [x]).length = ys.length + 1 := by simp
  rcases R with ⟨rfl, rfl, rfl⟩ | ⟨b, k, rfl, rfl, hcm0, KB, ZB, hB⟩
  · have hr := run_append_nil (P := Tryz.prog) W 111 ty 113 i (pv p0v) Tryz.underlying111 hq hz ⟨g, 0, none⟩ 1 1 (pcs x) (by rw [hs]; rfl) hsrc (by omega) (by omega) (by rw [hby]; omega)
    have hge := grownCap_ge W 1 0 113
    have hcm := grownCap_le_maxLen W 1 0 113 (by simp only [maxLen]; omega)
    obtain ⟨V, hV, hb, K2, Z2⟩ := rowP_newZ W [x] (grownCap W 1 0 113 - 1)
    refine ⟨some ⟨W.heap.size, 0, none⟩, grownCap W 1 0 113, V, ?_, .inr ⟨W.heap.size, grownCap W 1 0 113 - 1, rfl, by simp; omega, hcm, K2, Z2, BW.size⟩, BW.trans (hb.mono BW.size), Kept.of hb⟩
    rw [show ([] : List Pv).length = 0 from rfl, hr, hV]
    simp
  · have hfl : (ys.flatMap pcs).length = ys.length * 5 := flat_len pcs_len ys
    by_cases hroom : 1 ≤ k
    · have hus : ((ys ++ List.replicate k p0v).flatMap pcs).length = (ys.length + k) * 5 := by rw [flat_len pcs_len, List.length_append, List.length_replicate]
      have hr := run_append_room_cells (P := Tryz.prog) W 111 ty 113 i Tryz.underlying111 hq b 0 ys.length (ys.length + k) ⟨g, 0, none⟩ 1 1 (pcs x) (by rw [hs]; rfl) hsrc (by have := flatP_one [x]; simpa using this) (by omega)
       (fun j hj => by rw [hs]; rw [KB.c (0 + ys.length * 5 + j) _ (List.getElem?_eq_getElem (by rw [hus]; rw [pcs_len] at hj; omega))]; rfl) (fun j _ => ZB.2 _)
      rw [hs, Nat.zero_add] at hr
      obtain ⟨V, hV⟩ : ∃ V, V = W.setCells b (ys.length * 5) (pcs x) := ⟨_, rfl⟩
      have hu : (ys ++ [x] ++ List.replicate (k - 1) p0v).flatMap pcs = ((ys ++ List.replicate k p0v).flatMap pcs).take (ys.length * 5) ++ (pcs x ++ ((ys ++ List.replicate k p0v).flatMap pcs).drop (ys.length * 5 + (pcs x).length)) := by
       have hrep : List.replicate k p0v = List.replicate 1 p0v ++ List.replicate (k - 1) p0v := by rw [List.replicate_append_replicate, Nat.add_sub_cancel' hroom]
       have hd : ((ys ++ (List.replicate 1 p0v ++ List.replicate (k - 1) p0v)).flatMap pcs).drop (ys.length * 5 + (pcs x).length) = (List.replicate (k - 1) p0v).flatMap pcs := by
        rw [← List.drop_drop, List.flatMap_append, List.drop_left' hfl, List.flatMap_append, List.drop_left' (by rw [flat_len pcs_len, List.length_replicate, pcs_len])]
       rw [hrep, hd, List.flatMap_append, List.flatMap_append, List.flatMap_append, List.take_left' hfl, List.append_assoc]
       simp
      have hl9 : ys.length * 5 + (pcs x).length ≤ ((ys ++ List.replicate k p0v).flatMap pcs).length := by rw [hus, pcs_len]; omega
      have K2 := KB.part hV hu hl9
      have kp := Kept.overE hV KB (flat_soft pcs_soft _) hl9
      refine ⟨some ⟨b, 0, none⟩, ys.length + k, V, by rw [hr, hV, hlen], .inr ⟨b, k - 1, rfl, by rw [hlen]; omega, hcm0, K2, ZB.putE hV, hB⟩, Below.putE BW hV hB, kp⟩
    · have hr := run_append_grow (P := Tryz.prog) W 111 ty 113 i (pv p0v) Tryz.underlying111 hq hz ⟨b, 0, none⟩ ys.length (ys.length + k) (ys.flatMap pcs) (by rw [hfl, hs]) (fun j v hv => by
        rw [addr_addo, Nat.zero_add]
        exact KB.c j v (by rw [List.flatMap_append, List.getElem?_append_left (List.getElem?_eq_some_iff.1 hv).1]; exact hv))
       ⟨g, 0, none⟩ 1 1 (pcs x) (by rw [hs]; rfl) hsrc (by omega) (by omega) (growslice_fits (by omega) (by rw [hby]; omega))
      have hge := grownCap_ge W (ys.length + 1) (ys.length + k) 113
      have hcm := grownCap_le_maxLen W (ys.length + 1) (ys.length + k) 113 (by simp only [maxLen]; omega)
      obtain ⟨V, hV, hbV, K2, Z2⟩ := rowP_newZ W (ys ++ [x]) (grownCap W (ys.length + 1) (ys.length + k) 113 - (ys.length + 1))
      refine ⟨some ⟨W.heap.size, 0, none⟩, grownCap W (ys.length + 1) (ys.length + k) 113, V, ?_, .inr ⟨W.heap.size, grownCap W (ys.length + 1) (ys.length + k) 113 - (ys.length + 1), rfl, by rw [hlen]; omega, hcm, K2, Z2, BW.size⟩, BW.trans (hbV.mono BW.size), Kept.of hbV⟩
      rw [hr, hV, hlen, List.flatMap_append]
      simp
end Go.Proofs.YtjamfkafgfpobaaGreat
namespace Go.Proofs.YtjamfkafgfpobaaGreat
open Go.RowKit Nb
def flt (l : List (Int × Rat)) : List (Int × Rat) := l.filter (fun z => !zemp z)
theorem flt_no {zs : List (Int × Rat)} {k : Nat} {z : Int × Rat} (h : zs[k]? = some z) (e : zemp z = true) : flt (zs.take (k + 1)) = flt (zs.take k) := by
 unfold flt
 rw [List.take_add_one, h, List.filter_append]
 simp [e]
theorem flt_yes {zs : List (Int × Rat)} {k : Nat} {z : Int × Rat} (h : zs[k]? = some z) (e : zemp z = false) : flt (zs.take (k + 1)) = flt (zs.take k) ++ [z] := by
 unfold flt
 rw [List.take_add_one, h, List.filter_append]
 simp [e]
theorem Gps.snoc {W : World} {zs : List (Int × Rat)} {xs : List Pv} {C : Nat} {z : Int × Rat} {x : Pv} (h : Gps W zs xs C) (k : z.1 = x.k ∧ Fq W z.2 x.P C) : Gps W (zs ++ [z]) (xs ++ [x]) C := by
 have hl := h.1
 refine ⟨by simp [h.1], fun i y u h1 h2 => ?_⟩
 by_cases hi : i < xs.length
 · rw [List.getElem?_append_left (by omega)] at h1
   rw [List.getElem?_append_left hi] at h2
   exact h.2 i y u h1 h2
 · have h3 : i < (xs ++ [x]).length := (List.getElem?_eq_some_iff.1 h2).1
   simp only [List.length_append, List.length_cons, List.length_nil] at h3
   obtain rfl : i = xs.length := by omega
   rw [List.getElem?_append_right (by omega)] at h1 h2
   simp only [hl, Nat.sub_self, List.getElem?_cons_zero, Option.some.injEq] at h1 h2
   subst h1
   subst h2
   exact k
theorem Rw.on {B : Nat} {W W' : World} {a : Option Addr} {c : Nat} {ys : List Pv} (h : Rw B W a c ys) (hb : Below W.heap.size W W') : Rw B W' a c ys := by
 rcases h with h | ⟨b, k, h1, h2, h3, h4, h5, h6⟩
 · exact .inl h
 · exact .inr ⟨b, k, h1, h2, h3, h4.on hb, h5.on hb, h6⟩
theorem at_row {W : World} {g i : Nat} {xs ys : List Pv} {x : Pv} (K : Box W g ((xs ++ ys).flatMap pcs)) (h : xs[i]? = some x) : AtB W g (i * 5) (pcs x) := fun j v hv => by
 have hi : i < xs.length := (List.getElem?_eq_some_iff.1 h).1
 have hj : j < 5 := by have := (List.getElem?_eq_some_iff.1 hv).1; rw [pcs_len] at this; exact this
 have e1 : xs ++ ys = xs.take i ++ (x :: (xs.drop (i + 1) ++ ys)) := by
  conv => lhs; rw [← List.take_append_drop i xs]
  rw [List.drop_eq_getElem_cons hi, List.append_assoc, (List.getElem?_eq_some_iff.1 h).2]
  rfl
 refine K.c (i * 5 + j) v ?_
 rw [e1, List.flatMap_append, List.flatMap_cons, List.getElem?_append_right (by rw [flat_len pcs_len, List.length_take]; omega), flat_len pcs_len, List.length_take, Nat.min_eq_left (by omega), Nat.add_sub_cancel_left, List.getElem?_append_left (by rw [pcs_len]; omega)]
 exact hv
theorem Spl.spa {W : World} {a : Option Addr} {c : Nat} {xs : List Pv} (h : Spl W a c xs) : Spa W a xs := fun i x hx => by
 obtain ⟨_, _, g, h3, ys, K⟩ := h
 exact ⟨g, h3, K.lt, at_row K hx⟩
theorem Rw.spa {B : Nat} {W : World} {a : Option Addr} {c : Nat} {xs : List Pv} (h : Rw B W a c xs) : Spa W a xs := fun i x hx => by
 rcases h with ⟨_, _, rfl⟩ | ⟨b, k, h1, h2, h3, h4, h5, h6⟩
 · simp at hx
 · exact ⟨b, h1, h4.lt, at_row h4 hx⟩
theorem FitIs.out {w w' : World} {zs : List (Int × Rat)} {e : Ending} (h : FitIs w zs e w') : ∃ (v : Value) (er : Int), e = .returned (.tuple #[v, .int .i64 er]) ∧ FitIs w zs (.returned (.tuple #[v, .int .i64 er])) w' ∧ Below w.heap.size w w' := by
 obtain ⟨⟨h1, a, c, es, rfl, h2, h3⟩ | ⟨h1, rfl⟩, hb⟩ := h
 · exact ⟨_, _, rfl, ⟨.inl ⟨h1, a, c, es, rfl, h2, h3⟩, hb⟩, hb⟩
 · exact ⟨_, _, rfl, ⟨.inr ⟨h1, rfl⟩, hb⟩, hb⟩
theorem may_rows0 {q : Mq} (hb : 0 < q.b) : ∀ z ∈ rows0 q, (zeq z).may := by
 intro z hz
 simp only [rows0, List.mem_cons, List.not_mem_nil, or_false] at hz
 rcases hz with rfl | rfl | rfl
 · exact .inr (.inl ⟨rfl, rfl⟩)
 · exact .inl ⟨rfl, Rat.le_of_lt hb, rfl⟩
 · exact .inr (.inl ⟨rfl, rfl⟩)
theorem may_partsQ {q : Mq} (ha : q.b = 0 → q.a ≠ 0) : ∀ z ∈ partsQ q, (zeq z).may := by
 have h5 : (zeq (5, ((0 : Int) : Rat))).may := .inr (.inr (.inr (.inr ⟨rfl, rfl, rfl⟩)))
 have h1 : (zeq (1, ((1 : Int) : Rat))).may := .inl ⟨rfl, (by decide : (0 : Rat) ≤ 1), rfl⟩
 have hi : ((1 : Int) : Rat) = 1 := by first | rfl | simp
 intro z hz
 unfold partsQ at hz
 split at hz
 · rename_i h; exact may_rows0 h z hz
 split at hz
 · rename_i h
   rcases List.mem_cons.1 hz with rfl | hz
   · exact h5
   · exact may_rows0 (by show 0 < -q.b; grind) z hz
 split at hz
 · simp only [List.mem_cons, List.not_mem_nil, or_false] at hz
   subst hz
   exact .inr (.inl ⟨rfl, rfl⟩)
 split at hz
 · simp only [List.mem_cons, List.not_mem_nil, or_false] at hz
   rcases hz with rfl | rfl
   · exact h5
   · exact .inr (.inl ⟨rfl, rfl⟩)
 split at hz
 · rcases List.mem_cons.1 hz with rfl | hz
   · exact h1
   · exact may_rows0 (by rw [hi]; simp only [Mq.mul, Mq.space]; grind) z hz
 · rcases List.mem_cons.1 hz with rfl | hz
   · exact h5
   rcases List.mem_cons.1 hz with rfl | hz
   · exact h1
   · exact may_rows0 (by rw [hi]; simp only [Mq.mul, Mq.space, Mq.neg]; grind) z hz
theorem wpList_appQ {ops : Array Oper} {rest : List Oper} {op : Oper} {ac : Act} {Q : Exit → Act → World → Prop} {W W' : World} {s x : Operand} {vs vx v' : Value} (hgd : op.guard = none) (ho : op.op = .call { callee := .builtin .append, args := #[s, x], argTypes := #[111, 111] }) (hs : ac.eval s = vs) (hx : ac.eval x = vx)
  (hr : (Builtin.append_ #[111, 111] op.type #[vs, vx]).run Tryz.prog W = .ok v' W') (h : wpList Tryz.prog ops Q rest (ac.put op.dst v') W') : wpList Tryz.prog ops Q (op :: rest) ac W :=
 wpList_plain hgd fun _ hK => by
  unfold Oper.wp execOp
  simp only [ho, resolve, invoke, builtin, Sem.run_bind, Sem.run_pure, Result.andThen_ok, List.map_toArray, List.map_cons, List.map_nil, hs, hx, hr]
  exact hK _ _ h
end Go.Proofs.YtjamfkafgfpobaaGreat
