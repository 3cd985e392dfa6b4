/-
  Rows of plain elements. Conditions: as each theorem states.
-/
import Derived.Test.YtjamfkafgfpobaaGreatXtra
import Derived.Test.YtjamfkafgfpobaaGreatRf
import Derived.Test.YtjamfkafgfpobaaGreatBc3
import Derived.Deep.RegionHeld3
import Derived.Deep.DeepCutAuto
import Derived.BigRegion
namespace Go.Proofs.YtjamfkafgfpobaaGreat
open Go.RowKit Nb
section
variable {W W' : World} {q p z : Rat} {f g : Fv} {C C' : Nat} {er : Int} {bad : Prop}
theorem q_sub (h : Fq W q f C) (k : Fq W p g C) (hC : C ≤ 1759218604390) : Calls Tryz.prog 57 #[fv f, fv g] W (GQ W (q - p) (2 * C + 4)) := by
 obtain ⟨n, A, xs, c, m, B, ds, d⟩ := f
 obtain ⟨n', A', ys, c', m', B', es, d'⟩ := g
 obtain ⟨rfl, h⟩ := h
 obtain ⟨rfl, k⟩ := k
 refine (fsub_any q p n n' A B A' B' xs ds ys es c d c' d' C W h k hC).mono ?_
 rintro _ _ ⟨n, A, xs, c, B, ds, d, rfl, hL, hb⟩
 exact ⟨⟨n, A, xs, c, false, B, ds, d⟩, rfl, ⟨rfl, hL⟩, hb⟩
end
end Go.Proofs.YtjamfkafgfpobaaGreat
namespace Go.Proofs.YtjamfkafgfpobaaGreat
open Go.RowKit Nb
/-- A plain element: its kind, its number. -/
structure Pv where
 k : Int
 P : Fv
def pcs (x : Pv) : List Value := [.int .u8 x.k, .bool x.P.n, .slice x.P.A x.P.xs.length x.P.c, .bool x.P.m, .slice x.P.B x.P.ds.length x.P.d]
abbrev pv (x : Pv) : Value := .agg #[.int .u8 x.k, .bool x.P.n, .slice x.P.A x.P.xs.length x.P.c, .bool x.P.m, .slice x.P.B x.P.ds.length x.P.d]
def p0v : Pv := ⟨0, fv0⟩
theorem pcs_len (x : Pv) : (pcs x).length = 5 := rfl
theorem pcs_soft (x : Pv) : (pcs x).all soft = true := rfl
theorem infoP3 : (Tryz.prog.info? 113).map (fun i => (i.zero, i.size, i.bytes)) = some (some (pv p0v), 5, 72) := by kernel_rfl
theorem rep_flatP : ∀ n : Nat, (List.replicate n (pv p0v).cells.toList).flatten = (List.replicate n p0v).flatMap pcs
 | 0 => rfl
 | n + 1 => by rw [List.replicate_succ, List.flatten_cons, rep_flatP n, List.replicate_succ, List.flatMap_cons]; rfl
theorem rowP_new (W : World) (xs : List Pv) (k : Nat) : ∃ V : World, V = W.drew.alloc (.cells ((xs.flatMap pcs).toArray ++ Builtin.zeroCells (pv p0v).cells k) 113) ∧ Below W.heap.size W V ∧ Box V W.heap.size ((xs ++ List.replicate k p0v).flatMap pcs) ∧ Fz V W.heap.size := by
 obtain ⟨V, hV, hb, K, Z, _⟩ := alloc_new W.drew ((xs ++ List.replicate k p0v).flatMap pcs) 113
 refine ⟨V, ?_, ((Below.refl _ _).drew).trans hb, K, Z⟩
 rw [hV]
 have hz : Builtin.zeroCells (pv p0v).cells k = ((List.replicate k p0v).flatMap pcs).toArray := by
  apply Array.toList_inj.1
  have := made_list (pv p0v).cells k (by decide)
  rw [rep_flatP] at this
  exact this
 rw [hz, List.flatMap_append]
 simp
/-- A row of plain elements at the head of a block. -/
def Spl (W : World) (a : Option Addr) (c : Nat) (xs : List Pv) : Prop := xs.length ≤ c ∧ c ≤ maxLen ∧ ∃ g : Nat, a = some ⟨g, 0, none⟩ ∧ ∃ ys : List Pv, Box W g ((xs ++ ys).flatMap pcs)
/-- Their worths. -/
def Gps (W : World) (zs : List (Int × Rat)) (xs : List Pv) (C : Nat) : Prop := zs.length = xs.length ∧ ∀ (i : Nat) (z : Int × Rat) (x : Pv), zs[i]? = some z → xs[i]? = some x → z.1 = x.k ∧ Fq W z.2 x.P C
section
variable {W W' : World} {a : Option Addr} {c C D : Nat} {xs ys : List Pv} {zs : List (Int × Rat)}
theorem Spl.on (h : Spl W a c xs) (hb : Below W.heap.size W W') : Spl W' a c xs := by
 obtain ⟨h1, h2, g, h3, ys, K⟩ := h
 exact ⟨h1, h2, g, h3, ys, K.on hb⟩
theorem Gps.kp (h : Gps W zs xs C) (k : Kept W W') : Gps W' zs xs C := ⟨h.1, fun i z x h1 h2 => ⟨(h.2 i z x h1 h2).1, (h.2 i z x h1 h2).2.kp k⟩⟩
theorem Gps.mono (h : Gps W zs xs C) (hC : C ≤ D) : Gps W zs xs D := ⟨h.1, fun i z x h1 h2 => ⟨(h.2 i z x h1 h2).1, (h.2 i z x h1 h2).2.mono hC⟩⟩
theorem Gps.nil : Gps W [] [] C := ⟨rfl, fun i z x h => by simp at h⟩
theorem Gps.cons {z : Int × Rat} {x : Pv} (h : z.1 = x.k ∧ Fq W z.2 x.P C) (k : Gps W zs xs C) : Gps W (z :: zs) (x :: xs) C := ⟨by simp [k.1], fun i y u h1 h2 => by
 cases i with
 | zero => simp at h1 h2; subst h1; subst h2; exact h
 | succ i => exact k.2 i y u (by simpa using h1) (by simpa using h2)⟩
end
/-- What parts answers. -/
def PartsIs (w : World) (zs : List (Int × Rat)) (C : Nat) (e : Ending) (w' : World) : Prop := ∃ (a : Option Addr) (c : Nat) (xs : List Pv), e = .returned (.slice a xs.length c) ∧ Spl w' a c xs ∧ Gps w' zs xs C ∧ Below w.heap.size w w'
def rows0 (q : Mq) : List (Int × Rat) := [(2, (1 - q.a) / q.b), (1, q.b), (2, (1 - q.d) / q.b)]
theorem appP (ty : TypeId) {W : World} {g c : Nat} {a : Option Addr} {x : Pv} {xs : List Pv} (K : Box W g (pcs x)) (S : Spl W a c xs) (h0 : 0 < xs.length) (hl : xs.length ≤ 4096) :
  ∃ (c2 : Nat) (V : World), (Builtin.append_ #[111, 111] ty #[.slice (some ⟨g, 0, none⟩) 1 1, .slice a xs.length c]).run Tryz.prog W = .ok (.slice (some ⟨W.heap.size, 0, none⟩) (x :: xs).length c2) V ∧ Spl V (some ⟨W.heap.size, 0, none⟩) c2 (x :: xs) ∧ Below W.heap.size W V := by
 have hi := infoP3
 cases hq : Tryz.prog.info? 113 with
 | none => rw [hq] at hi; cases hi
 | some i =>
  rw [hq] at hi
  simp only [Option.map_some, Option.some.injEq, Prod.mk.injEq] at hi
  obtain ⟨hz, hs, hby⟩ := hi
  obtain ⟨h1, h2, h, rfl, ys, K2⟩ := S
  have hfd : (xs.flatMap pcs).length = xs.length * 5 := flat_len pcs_len xs
  have hr := run_append_grow (P := Tryz.prog) W 111 ty 113 i (pv p0v) Tryz.underlying111 hq hz ⟨g, 0, none⟩ 1 1 (pcs x) (by rw [hs]; rfl) (fun j v hv => by
     rw [addr_addo, Nat.zero_add]
     exact K.c j v hv)
    ⟨h, 0, none⟩ xs.length c (xs.flatMap pcs) (by rw [hfd, hs]) (fun j v hv => by
     rw [addr_addo, Nat.zero_add]
     exact K2.c j v (by rw [List.flatMap_append, List.getElem?_append_left (List.getElem?_eq_some_iff.1 hv).1]; exact hv)) (by omega) (by omega) (growslice_fits (by omega) (by rw [hby]; omega))
  have hge := grownCap_ge W (1 + xs.length) 1 113
  have hcm := grownCap_le_maxLen W (1 + xs.length) 1 113 (by simp only [maxLen]; omega)
  obtain ⟨V, hV, hbV, K3, _⟩ := rowP_new W (x :: xs) (grownCap W (1 + xs.length) 1 113 - (1 + xs.length))
  refine ⟨grownCap W (1 + xs.length) 1 113, V, ?_, ⟨by simp; omega, hcm, W.heap.size, rfl, _, K3⟩, hbV⟩
  rw [hr, hV, List.length_cons, Nat.add_comm xs.length 1, List.flatMap_cons]
  simp
end Go.Proofs.YtjamfkafgfpobaaGreat
