/-
  Facts on floats and what the library answers of them, taken up again. No conditions.
-/
import Derived.Test.YtjamfkafgfpobaaGreatXtra
import Derived.Test.YtjamfkafgfpobaaGreatRf
import Derived.Test.YtjamfkafgfpobaaGreatRc0
import Derived.Test.YtjamfkafgfpobaaGreatBc3
import Derived.Test.YtjamfkafgfpobaaGreatBd1
import Derived.Test.YtjamfkafgfpobaaGreatRmt
namespace Go.Proofs.YtjamfkafgfpobaaGreat
open Go.RowKit Nb
section
variable {W W' w : World} {zs ys : List Eq} {es ds : List Ev}
theorem MayL.fes : ∀ {es : List Ev}, MayL W es → ∃ zs, Fes W zs es
 | [], _ => ⟨[], rfl, fun i z e h => by simp at h⟩
 | e :: r, h => by
  obtain ⟨zs, h1, h2⟩ := MayL.fes (es := r) fun x hx => h x (by simp [hx])
  obtain ⟨z, h3, h4⟩ := h e (by simp)
  refine ⟨z :: zs, by simp [h1], fun i y x hy hx => ?_⟩
  cases i with
  | zero => simp at hy hx; subst hy; subst hx; exact ⟨h3, h4⟩
  | succ i => exact h2 i y x (by simpa using hy) (by simpa using hx)
end
end Go.Proofs.YtjamfkafgfpobaaGreat
namespace Go.Proofs.YtjamfkafgfpobaaGreat
open Go.RowKit Nb
section
variable {W W' w : World} {zs ys : List Eq} {es ds : List Ev}
theorem Fes.app (h : Fes W zs es) (k : Fes W ys ds) : Fes W (zs ++ ys) (es ++ ds) := by
 refine ⟨by rw [List.length_append, List.length_append, h.1, k.1], fun i z e h1 h2 => ?_⟩
 by_cases hi : i < es.length
 ·rw [List.getElem?_append_left (by rw [h.1]; exact hi)] at h1
  rw [List.getElem?_append_left hi] at h2
  exact h.2 i z e h1 h2
 ·rw [List.getElem?_append_right (by rw [h.1]; omega), h.1] at h1
  rw [List.getElem?_append_right (by omega)] at h2
  exact k.2 _ z e h1 h2
end
end Go.Proofs.YtjamfkafgfpobaaGreat
namespace Go.Proofs.YtjamfkafgfpobaaGreat
open Go.RowKit Nb
theorem Xe.xP {W : World} {e : Ev} (h : Xe W e) : Fx W e.P := h.2.1
end Go.Proofs.YtjamfkafgfpobaaGreat
namespace Go.Proofs.YtjamfkafgfpobaaGreat
open Go.RowKit Nb
theorem Xe.xQ {W : World} {e : Ev} (h : Xe W e) : Fx W e.Q := h.2.2
end Go.Proofs.YtjamfkafgfpobaaGreat
namespace Go.Proofs.YtjamfkafgfpobaaGreat
open Go.RowKit Nb
set_option maxHeartbeats 8000000 in
set_option maxRecDepth 20000 in
theorem c_elem {e : Ev} {w : World} (X : Xe w e) :
    Calls Tryz.prog 73 #[ev e] w (IW w) := by
 have BW : Below w.heap.size w w := Below.refl _ _
 obtain ⟨V1, e2, hb3, K4, -, -⟩ := alloc_new w [.int .u8 e.k, .bool e.P.n, .slice e.P.A e.P.xs.length e.P.c, .bool e.P.m, .slice e.P.B e.P.ds.length e.P.d, .bool e.Q.n, .slice e.Q.A e.Q.xs.length e.Q.c, .bool e.Q.m, .slice e.Q.B e.Q.ds.length e.Q.d] 58
 replace X := X.kp (Kept.of hb3)
 replace BW := BW.trans (hb3.mono BW.size)
 clear hb3
 go_enter Tryz.func73, Tryz.ntmps73
 go_wp2_with fail
 rw [← e2]
 clear e2
 refine wp_region_noPanic ?_
 have hb : Below V1.heap.size V1 V1.drew := (Below.refl _ _).drew
 replace K4 := K4.on hb
 replace X := X.kp (Kept.of hb)
 replace BW := BW.trans (hb.mono BW.size)
 clear hb
 refine wp_region_held_drew (S := (fun wx => Cs wx (w.heap.size) 0 [.int .u8 e.k, .bool e.P.n, .slice e.P.A e.P.xs.length e.P.c, .bool e.P.m, .slice e.P.B e.P.ds.length e.P.d, .bool e.Q.n, .slice e.Q.A e.Q.xs.length e.Q.c, .bool e.Q.m, .slice e.Q.B e.Q.ds.length e.Q.d])) (by kernel_rfl) (by exact K4.cs) (fun hHeld => ?_)
 generalize V1.drew = Vd5 at *
 refine pT 0 ?_
 (try simp only [p0, p1, p2, p3])
 refine pT 1 ?_
 (try simp only [p0, p1, p2, p3])
 refine pT 3 ?_
 (try simp only [p0, p1, p2, p3])
 refine pT 4 ?_
 (try simp only [p0, p1, p2, p3])
 refine pR1 2 (fun K hK => ?_)
 go_simp
 (go_at_call 47; with_reducible refine (c_frac X.xP).mono ?_)
 rintro _ w6 ⟨n1, rfl, hb⟩
 (try go_wp2_with fail)
 replace K4 := K4.on hb
 replace X := X.kp (Kept.of hb)
 replace BW := BW.trans (hb.mono BW.size)
 clear hb
 clear hHeld
 refine hK.out _ _ (by exact K4.cs) (fun hHeld => ?_)
 clear hK
 (try simp only [p0, p1, p2, p3])
 refine pR1 5 (fun K hK => ?_)
 go_simp
 (go_at_call 47; with_reducible refine (c_frac X.xQ).mono ?_)
 rintro _ w7 ⟨n2, rfl, hb⟩
 (try go_wp2_with fail)
 replace K4 := K4.on hb
 replace BW := BW.trans (hb.mono BW.size)
 clear hb
 clear hHeld
 refine hK.out _ _ (by exact K4.cs) (fun hHeld => ?_)
 clear hK
 (try simp only [p0, p1, p2, p3])
 refine pT 6 ?_
 (try simp only [p0, p1, p2, p3])
 refine pT 7 ?_
 (try simp only [p0, p1, p2, p3])
 refine wpAnyH_done (by kernel_rfl) (NoPanic.normal ?_) _
 go_wp2
 go_ret
 exact ⟨_, rfl, BW⟩
end Go.Proofs.YtjamfkafgfpobaaGreat
namespace Go.Proofs.YtjamfkafgfpobaaGreat
open Go.RowKit Nb
set_option maxHeartbeats 16000000 in
set_option maxRecDepth 100000 in
theorem c_elems {a : Option Addr} {c : Nat} {es : List Ev} {w : World} (S : Sle w a c es) :
    Calls Tryz.prog 34 #[.slice a es.length c] w (IW w) := by
 have hlen : (es.length : Int) ≤ 9223372036854775807 := by have h1 := S.1; have h2 := S.2.1; omega
 have HS := Lib.hid S
 have BW : Below w.heap.size w w := Below.refl _ _
 go_enter Tryz.func34, Tryz.ntmps34
 go_wp2_with fail
 go_loopw [3, 4] (fun nv iv wr => ∃ (k : Nat) (n : Int), nv = .int .i64 n ∧ iv = .int .i64 (k : Nat) ∧ k ≤ es.length ∧ Below w.heap.size w wr) (fun _ iv _ => es.length - (intOf iv).toNat)
 case atStart => exact ⟨0, _, rfl, rfl, by omega, BW⟩
 case round =>
   obtain ⟨k, n, rfl, rfl, hk, BW⟩ := hrel
   by_cases hlt : k < es.length
   · have h2 : (k : Int) < (es.length : Int) := by omega
     obtain ⟨e, he⟩ : ∃ e, es[k]? = some e := ⟨_, List.getElem?_eq_getElem hlt⟩
     obtain ⟨g, o, ha, hg, hat0⟩ := HS.out.2.2.2 k e he
     have hat : AtB wr g (o + k * 9) [.int .u8 e.k, .bool e.P.n, .slice e.P.A e.P.xs.length e.P.c, .bool e.P.m, .slice e.P.B e.P.ds.length e.P.d, .bool e.Q.n, .slice e.Q.A e.Q.xs.length e.Q.c, .bool e.Q.m, .slice e.Q.B e.Q.ds.length e.Q.d] := hat0.on hg BW
     have X := (HS.out.xe he).kp (Kept.of BW)
     clear hat0 he
     subst ha
     by_cases hm : n ≤ 1048576
     · go_wp2_with (first | (refine wpList_ldE (by rfl) (by rfl) (by rfl) hat (by rfl) ?_))
       refine (c_elem X).mono ?_
       rintro _ w501 ⟨n1, rfl, hb⟩
       replace X := X.kp (Kept.of hb)
       replace BW := BW.trans (hb.mono BW.size)
       clear hb
       go_wp2_with fail
       go_roundw
       case rel => exact ⟨k + 1, _, rfl, by go_num, by omega, BW⟩
       case measure => simp [intOf]; omega
     · have hm2 : decide (n ≤ 1048576) = false := by simp; omega
       go_wp2_with fail
       go_ret
       exact ⟨_, rfl, BW⟩
   · obtain rfl : k = es.length := by omega
     go_wp2_with fail
     go_ret
     exact ⟨_, rfl, BW⟩
end Go.Proofs.YtjamfkafgfpobaaGreat
namespace Go.Proofs.YtjamfkafgfpobaaGreat
open Go.RowKit Nb
theorem ecs_one (e : Ev) : (ecs e).all (·.oneCell') = true := rfl
end Go.Proofs.YtjamfkafgfpobaaGreat
namespace Go.Proofs.YtjamfkafgfpobaaGreat
open Go.RowKit Nb
theorem flatE_one (es : List Ev) : ∀ u ∈ es.flatMap ecs, u.oneCell' = true := fun u hu => by
 obtain ⟨e, _, h⟩ := List.mem_flatMap.1 hu
 exact List.all_eq_true.1 (ecs_one e) u h
end Go.Proofs.YtjamfkafgfpobaaGreat
namespace Go.Proofs.YtjamfkafgfpobaaGreat
open Go.RowKit Nb
theorem row_new (W : World) (xs : List Ev) (k : Nat) : ∃ V : World, V = W.drew.alloc (.cells ((xs.flatMap ecs).toArray ++ Builtin.zeroCells (ev e0).cells k) 58) ∧ Below W.heap.size W V ∧ Box V W.heap.size ((xs ++ List.replicate k e0).flatMap ecs) ∧ Fz V W.heap.size := by
 obtain ⟨V, hV, hb, K, Z, _⟩ := alloc_new W.drew ((xs ++ List.replicate k e0).flatMap ecs) 58
 refine ⟨V, ?_, ((Below.refl _ _).drew).trans hb, K, Z⟩
 rw [hV]
 have hz : Builtin.zeroCells (ev e0).cells k = ((List.replicate k e0).flatMap ecs).toArray := by
  apply Array.toList_inj.1
  have := made_list (ev e0).cells k (by decide)
  rw [rep_flatE] at this
  exact this
 rw [hz, List.flatMap_append]
 simp
end Go.Proofs.YtjamfkafgfpobaaGreat
namespace Go.Proofs.YtjamfkafgfpobaaGreat
open Go.RowKit Nb
section
variable {W w : World} {a a' : Option Addr} {b c c' : Nat} {xs es ds : List Ev}
theorem Sle.src (S : Sle W a c es) : (a = none → es = []) ∧ ∀ ad, a = some ad → ∀ j u, (es.flatMap ecs)[j]? = some u → W.cell? (ad.add j) = some u := by
 refine ⟨fun h => ?_, fun ad h j u hu => ?_⟩
 ·rcases es with _ | ⟨e, r⟩
  ·rfl
  ·obtain ⟨g, o, h1, _⟩ := S.2.2.2 0 e rfl
   rw [h] at h1; cases h1
 ·have hj := (List.getElem?_eq_some_iff.1 hu).1
  rw [flat_len ecs_len] at hj
  have hi : j / 9 < es.length := by omega
  obtain ⟨g, o, h1, hg, hat⟩ := S.2.2.2 (j / 9) _ (List.getElem?_eq_getElem hi)
  rw [h] at h1
  cases h1
  have hf := flat_at ecs_len (List.getElem?_eq_getElem hi) (j % 9) (by rw [ecs_len]; omega)
  rw [show j / 9 * 9 + j % 9 = j by omega, hu] at hf
  have := hat (j % 9) u hf.symm
  rw [addr_addo]
  rwa [show o + j / 9 * 9 + j % 9 = o + j by omega] at this
end
end Go.Proofs.YtjamfkafgfpobaaGreat
namespace Go.Proofs.YtjamfkafgfpobaaGreat
open Go.RowKit Nb
section
variable {W w : World} {a a' : Option Addr} {b c c' : Nat} {xs es ds : List Ev}
theorem src0 (a : Option Addr) (c : Nat) (W : World) : Go.Src Tryz.prog 9 22 (.slice a 0 c) 0 [] W := by
 rcases a with _ | ad
 ·exact Go.Src.ofNil W Tryz.underlying22 c
 ·exact Go.Src.ofSlice W Tryz.underlying22 ad 0 c [] (by simp) (fun j u h => by simp at h) (by simp)
end
end Go.Proofs.YtjamfkafgfpobaaGreat
namespace Go.Proofs.YtjamfkafgfpobaaGreat
open Go.RowKit Nb
section
variable {W w : World} {a a' : Option Addr} {b c c' : Nat} {xs es ds : List Ev}
theorem app_zero (ty : TypeId) (b : Option Addr) (n k : Nat) (hk : n ≤ k) (a : Option Addr) (c : Nat) (W : World) :
  (Builtin.append_ #[22, 22] ty #[.slice b n k, .slice a 0 c]).run Tryz.prog W = .ok (.slice b n k) W := by
 have hi := infoE3
 cases hq : Tryz.prog.info? 58 with
 | none => rw [hq] at hi; cases hi
 | some i =>
  rw [hq] at hi
  simp only [Option.map_some, Option.some.injEq, Prod.mk.injEq] at hi
  exact Go.run_append_nothing W 22 22 ty 58 i Tryz.underlying22 hq b n k hk _ (by rw [hi.2.1]; exact src0 a c W)
end
end Go.Proofs.YtjamfkafgfpobaaGreat
namespace Go.Proofs.YtjamfkafgfpobaaGreat
open Go.RowKit Nb
section
variable {W w : World} {a a' : Option Addr} {b c c' : Nat} {xs es ds : List Ev}
theorem app_nil (ty : TypeId) (S : Sle W a c es) (h0 : 0 < es.length) (hl : es.length ≤ 4096) : ∃ (k : Nat) (V : World), (Builtin.append_ #[22, 22] ty #[.slice none 0 0, .slice a es.length c]).run Tryz.prog W = .ok (.slice (some ⟨W.heap.size, 0, none⟩) es.length (es.length + k)) V ∧ es.length + k ≤ maxLen ∧
  Below W.heap.size W V ∧ Box V W.heap.size ((es ++ List.replicate k e0).flatMap ecs) ∧ Fz V W.heap.size := by
 have hi := infoE3
 cases hq : Tryz.prog.info? 58 with
 | none => rw [hq] at hi; cases hi
 | some i =>
  rw [hq] at hi
  simp only [Option.map_some, Option.some.injEq, Prod.mk.injEq] at hi
  obtain ⟨hz, hs, hby⟩ := hi
  rcases a with _ | ad
  ·rw [S.src.1 rfl] at h0; simp at h0
  ·have hr := run_append_nil (P := Tryz.prog) W 22 ty 58 i (ev e0) Tryz.underlying22 hq hz ad es.length c (es.flatMap ecs) (by rw [flat_len ecs_len, hs]) (S.src.2 ad rfl) h0 (by omega) (by rw [hby]; omega)
   have hge := grownCap_ge W es.length 0 58
   have hcm := grownCap_le_maxLen W es.length 0 58 (by simp only [maxLen]; omega)
   obtain ⟨V, hV, hb, K, Z⟩ := row_new W es (grownCap W es.length 0 58 - es.length)
   refine ⟨grownCap W es.length 0 58 - es.length, V, ?_, by omega, hb, K, Z⟩
   rw [hr, hV, Nat.add_sub_cancel' hge]
end
end Go.Proofs.YtjamfkafgfpobaaGreat
namespace Go.Proofs.YtjamfkafgfpobaaGreat
open Go.RowKit Nb
section
variable {W w : World} {a a' : Option Addr} {b c c' : Nat} {xs es ds : List Ev}
theorem app_on (ty : TypeId) {k : Nat} (K : Box W b ((es ++ List.replicate k e0).flatMap ecs)) (Z : Fz W b) (S : Sle W a c ds) (hX : ∀ e ∈ es, Xe W e) (h0 : 0 < ds.length) (hl : es.length + ds.length ≤ 4096) (hk : es.length + k ≤ maxLen) (w : World) (BW : Below w.heap.size w W) (hb : w.heap.size ≤ b) :
  ∃ (a2 : Option Addr) (c2 : Nat) (V : World), (Builtin.append_ #[22, 22] ty #[.slice (some ⟨b, 0, none⟩) es.length (es.length + k), .slice a ds.length c]).run Tryz.prog W = .ok (.slice a2 (es ++ ds).length c2) V ∧ Sle V a2 c2 (es ++ ds) ∧ Below w.heap.size w V := by
 have hi := infoE3
 cases hq : Tryz.prog.info? 58 with
 | none => rw [hq] at hi; cases hi
 | some i =>
  rw [hq] at hi
  simp only [Option.map_some, Option.some.injEq, Prod.mk.injEq] at hi
  obtain ⟨hz, hs, hby⟩ := hi
  rcases a with _ | ad
  ·rw [S.src.1 rfl] at h0; simp at h0
  ·have hX2 : ∀ e ∈ es ++ ds, Xe W e := fun e he => by
    rcases List.mem_append.1 he with h | h
    ·exact hX e h
    ·exact S.2.2.1 e h
   have hlen : (es ++ ds).length = es.length + ds.length := List.length_append
   have hfl : (es.flatMap ecs).length = es.length * 9 := flat_len ecs_len es
   have hfd : (ds.flatMap ecs).length = ds.length * 9 := flat_len ecs_len ds
   by_cases hroom : ds.length ≤ k
   ·have hus : ((es ++ List.replicate k e0).flatMap ecs).length = (es.length + k) * 9 := by rw [flat_len ecs_len, List.length_append, List.length_replicate]
    have hr := run_append_room_cells (P := Tryz.prog) W 22 ty 58 i Tryz.underlying22 hq b 0 es.length (es.length + k) ad ds.length c (ds.flatMap ecs) (by rw [hfd, hs]) (S.src.2 ad rfl) (flatE_one ds) (by omega)
      (fun j hj => by rw [hs]; rw [K.c (0 + es.length * 9 + j) _ (List.getElem?_eq_getElem (by rw [hus]; rw [hfd] at hj; omega))]; rfl) (fun j _ => Z.2 _)
    rw [hs, Nat.zero_add] at hr
    obtain ⟨V, hV⟩ : ∃ V, V = W.setCells b (es.length * 9) (ds.flatMap ecs) := ⟨_, rfl⟩
    have hu : (es ++ ds ++ List.replicate (k - ds.length) e0).flatMap ecs = ((es ++ List.replicate k e0).flatMap ecs).take (es.length * 9) ++ (ds.flatMap ecs ++ ((es ++ List.replicate k e0).flatMap ecs).drop (es.length * 9 + (ds.flatMap ecs).length)) := by
     have hrep : List.replicate k e0 = List.replicate ds.length e0 ++ List.replicate (k - ds.length) e0 := by rw [List.replicate_append_replicate, Nat.add_sub_cancel' hroom]
     have hd : ((es ++ (List.replicate ds.length e0 ++ List.replicate (k - ds.length) e0)).flatMap ecs).drop (es.length * 9 + (ds.flatMap ecs).length) = (List.replicate (k - ds.length) e0).flatMap ecs := by
      rw [← List.drop_drop, List.flatMap_append, List.drop_left' hfl, List.flatMap_append, List.drop_left' (by rw [flat_len ecs_len, List.length_replicate, hfd])]
     rw [hrep, hd, List.flatMap_append, List.flatMap_append, List.flatMap_append, List.take_left' hfl, List.append_assoc]
    have hl9 : es.length * 9 + (ds.flatMap ecs).length ≤ ((es ++ List.replicate k e0).flatMap ecs).length := by rw [hus, hfd]; omega
    have K2 := K.part hV hu hl9
    have kp := Kept.overE hV K (flat_soft ecs_soft _) hl9
    refine ⟨some ⟨b, 0, none⟩, es.length + k, V, by rw [hr, hV, hlen], row_sle K2 (fun i e he => by rw [List.getElem?_append_left (List.getElem?_eq_some_iff.1 he).1]; exact he) (fun e he => (hX2 e he).kp kp) (by omega) hk, Below.putE BW hV hb⟩
   ·have hr := run_append_grow (P := Tryz.prog) W 22 ty 58 i (ev e0) Tryz.underlying22 hq hz ⟨b, 0, none⟩ es.length (es.length + k) (es.flatMap ecs) (by rw [hfl, hs]) (fun j v hv => by
       rw [addr_addo, Nat.zero_add]
       exact K.c j v (by rw [List.flatMap_append, List.getElem?_append_left (List.getElem?_eq_some_iff.1 hv).1]; exact hv))
      ad ds.length c (ds.flatMap ecs) (by rw [hfd, hs]) (S.src.2 ad rfl) (by omega) (by omega) (growslice_fits (by omega) (by rw [hby]; omega))
    have hge := grownCap_ge W (es.length + ds.length) (es.length + k) 58
    have hcm := grownCap_le_maxLen W (es.length + ds.length) (es.length + k) 58 (by simp only [maxLen]; omega)
    obtain ⟨V, hV, hbV, K2, _⟩ := row_new W (es ++ ds) (grownCap W (es.length + ds.length) (es.length + k) 58 - (es.length + ds.length))
    refine ⟨some ⟨W.heap.size, 0, none⟩, grownCap W (es.length + ds.length) (es.length + k) 58, V, ?_, row_sle K2 (fun i e he => by rw [List.getElem?_append_left (List.getElem?_eq_some_iff.1 he).1]; exact he) (fun e he => (hX2 e he).kp (Kept.of hbV)) (by omega) hcm, BW.trans (hbV.mono BW.size)⟩
    rw [hr, hV, hlen, List.flatMap_append]
    simp
end
end Go.Proofs.YtjamfkafgfpobaaGreat
namespace Go.Proofs.YtjamfkafgfpobaaGreat
open Go.RowKit Nb
section
variable {W w : World} {a a' : Option Addr} {b c c' : Nat} {xs es ds : List Ev}
theorem both_runs (ty ty2 : TypeId) (S1 : Sle w a c es) (S2 : Sle w a' c' ds) (hl : es.length + ds.length ≤ 4096) :
  ∃ (v1 : Value) (w1 : World) (a2 : Option Addr) (c2 : Nat) (w2 : World), (Builtin.append_ #[22, 22] ty #[.slice none 0 0, .slice a es.length c]).run Tryz.prog w = .ok v1 w1 ∧
   (Builtin.append_ #[22, 22] ty2 #[v1, .slice a' ds.length c']).run Tryz.prog w1 = .ok (.slice a2 (es ++ ds).length c2) w2 ∧ Sle w2 a2 c2 (es ++ ds) ∧ Below w.heap.size w w2 := by
 by_cases h1 : es.length = 0
 ·have he : es = [] := List.length_eq_zero_iff.1 h1
  subst he
  refine ⟨.slice none 0 0, w, ?_⟩
  by_cases h2 : ds.length = 0
  ·have hd : ds = [] := List.length_eq_zero_iff.1 h2
   subst hd
   exact ⟨none, 0, w, app_zero ty none 0 0 (Nat.le_refl _) a c w, app_zero ty2 none 0 0 (Nat.le_refl _) a' c' w, ⟨by simp, by omega, fun e he => by simp at he, fun i e he => by simp at he⟩, Below.refl _ _⟩
  ·obtain ⟨k, V, hr, hk, hb, K, Z⟩ := app_nil ty2 S2 (by omega) (by omega)
   exact ⟨_, _, V, app_zero ty none 0 0 (Nat.le_refl _) a c w, hr, row_sle K (fun i e he => by rw [List.nil_append] at he; rw [List.getElem?_append_left (List.getElem?_eq_some_iff.1 he).1]; exact he) (fun e he => (S2.2.2.1 e (by simpa using he)).kp (Kept.of hb)) (by simp) hk, hb⟩
 ·obtain ⟨k, V, hr, hk, hb, K, Z⟩ := app_nil ty S1 (by omega) (by omega)
  refine ⟨.slice (some ⟨w.heap.size, 0, none⟩) es.length (es.length + k), V, ?_⟩
  by_cases h2 : ds.length = 0
  ·have hd : ds = [] := List.length_eq_zero_iff.1 h2
   subst hd
   rw [List.append_nil]
   exact ⟨_, _, V, hr, app_zero ty2 _ _ _ (by omega) a' c' V, row_sle K (fun i e he => by rw [List.getElem?_append_left (List.getElem?_eq_some_iff.1 he).1]; exact he) (fun e he => (S1.2.2.1 e he).kp (Kept.of hb)) (by omega) hk, hb⟩
  ·obtain ⟨a2, c2, V2, hr2, S3, hb2⟩ := app_on ty2 K Z (S2.on hb) (fun e he => (S1.2.2.1 e he).kp (Kept.of hb)) (by omega) hl hk w hb (Nat.le_refl _)
   exact ⟨a2, c2, V2, hr, hr2, S3, hb2⟩
end
end Go.Proofs.YtjamfkafgfpobaaGreat
namespace Go.Proofs.YtjamfkafgfpobaaGreat
open Go.RowKit Nb
section
variable {W w : World} {a a' : Option Addr} {b c c' : Nat} {xs es ds : List Ev}
theorem wpList_app {ops : Array Oper} {rest : List Oper} {op : Oper} {ac : Act} {Q : Exit → Act → World → Prop} {s x : Operand} {vs vx v' : Value} {W' : World} (hgd : op.guard = none) (ho : op.op = .call { callee := .builtin .append, args := #[s, x], argTypes := #[22, 22] }) (hs : ac.eval s = vs) (hx : ac.eval x = vx)
  (hr : (Builtin.append_ #[22, 22] op.type #[vs, vx]).run Tryz.prog W = .ok v' W') (h : wpList Tryz.prog ops Q rest (ac.put op.dst v') W') : wpList Tryz.prog ops Q (op :: rest) ac W :=
 wpList_plain hgd fun _ hK => by
  unfold Oper.wp execOp
  simp only [ho, resolve, invoke, builtin, Sem.run_bind, Sem.run_pure, Result.andThen_ok, List.map_toArray, List.map_cons, List.map_nil, hs, hx, hr]
  exact hK _ _ h
end
end Go.Proofs.YtjamfkafgfpobaaGreat
namespace Go.Proofs.YtjamfkafgfpobaaGreat
open Go.RowKit Nb
section
variable {W w : World} {a a' : Option Addr} {b c c' : Nat} {xs es ds : List Ev}
set_option maxRecDepth 100000 in
set_option maxHeartbeats 1000000 in
theorem b_join (S1 : Sle w a c es) (S2 : Sle w a' c' ds) (hl : es.length + ds.length ≤ 4096) : Calls Tryz.prog 11 #[.slice a es.length c, .slice a' ds.length c'] w (fun e w' => ∃ (a2 : Option Addr) (c2 : Nat), e = .returned (.slice a2 (es ++ ds).length c2) ∧ Sle w' a2 c2 (es ++ ds) ∧ Below w.heap.size w w') := by
 obtain ⟨v1, w1, a2, c2, w2, hr1, hr2, S3, hb⟩ := both_runs 22 22 S1 S2 hl
 have HR1 := Lib.hid hr1
 have HR2 := Lib.hid hr2
 clear hr1 hr2
 go_enter Tryz.func11, Tryz.ntmps11
 go_upto_region 3 with (refine wpList_app (by rfl) (by rfl) (by rfl) (by rfl) HR1.out ?_)
 go_wp2_with (refine wpList_app (by rfl) (by rfl) (by rfl) (by rfl) HR2.out ?_)
 exact bodyPost_ret (v := .slice a2 (es ++ ds).length c2) (by simp [results, Tryz.results11, go_sem]) rfl ⟨a2, c2, rfl, S3, hb⟩
end
end Go.Proofs.YtjamfkafgfpobaaGreat
namespace Go.Proofs.YtjamfkafgfpobaaGreat
open Go.RowKit Nb
/-- Whether two benches fit: yes only if they may be and are few. -/
def FitsE (w : World) (es ds : List Ev) (e : Ending) (w' : World) : Prop := ∃ r : Bool, e = .returned (.bool r) ∧ (r = true → es.length + ds.length ≤ 4096 ∧ MayL w es ∧ MayL w ds) ∧ Below w.heap.size w w'
end Go.Proofs.YtjamfkafgfpobaaGreat
namespace Go.Proofs.YtjamfkafgfpobaaGreat
open Go.RowKit Nb
theorem fit_len {n m : Nat} {s : Int} (h : wrap64 ((n : Int) + (m : Int)) = s) (hs : s ≤ 4096) (h1 : n ≤ 4096) (h2 : m ≤ 4096) : n + m ≤ 4096 := by
 have : wrap64 ((n : Int) + (m : Int)) = (n : Int) + (m : Int) := by unfold wrap64; omega
 omega
end Go.Proofs.YtjamfkafgfpobaaGreat
namespace Go.Proofs.YtjamfkafgfpobaaGreat
open Go.RowKit Nb
set_option maxHeartbeats 16000000 in
set_option maxRecDepth 100000 in
theorem b_fits {a b : Option Addr} {c d : Nat} {es ds : List Ev} {w : World} (S : Sle w a c es) (T : Sle w b d ds) :
    Calls Tryz.prog 9 #[.slice a es.length c, .slice b ds.length d] w (FitsE w es ds) := by
 have HS := Lib.hid S
 have HT := Lib.hid T
 have l1 : (es.length : Int) ≤ 9223372036854775807 := by have h1 := S.1; have h2 := S.2.1; omega
 have l2 : (ds.length : Int) ≤ 9223372036854775807 := by have h1 := T.1; have h2 := T.2.1; omega
 clear S T
 have BW : Below w.heap.size w w := Below.refl _ _
 go_enter Tryz.func9, Tryz.ntmps9
 go_wp2_with fail
 refine (c_elems (HS.out.on BW)).mono ?_
 rintro _ w1 ⟨n1, rfl, hb⟩
 replace BW := BW.trans (hb.mono BW.size)
 clear hb
 go_wp2_with fail
 refine (c_elems (HT.out.on BW)).mono ?_
 rintro _ w2 ⟨n2, rfl, hb⟩
 replace BW := BW.trans (hb.mono BW.size)
 clear hb
 obtain ⟨V3, e4, hb5, K6, Z7, -⟩ := alloc_new w2 [.int .i64 n1, .int .i64 n2] 3
 have g8 : w.heap.size ≤ w2.heap.size := BW.size
 replace BW := BW.trans (hb5.mono BW.size)
 clear hb5
 go_wp2_with fail
 rw [← e4]
 clear e4
 generalize w2.heap.size = b9 at *
 refine (c_beyond (ns := [n1, n2]) K6 (by simp) (by simp)).mono ?_
 rintro _ w10 ⟨r, rfl, hb⟩
 replace BW := BW.trans (hb.mono BW.size)
 clear hb
 rcases Bool.eq_false_or_eq_true r with rfl | rfl
 · go_wp2_with fail
   exact bodyPost_ret (v := .bool false) (by simp [results, Tryz.results9, go_sem]) rfl ⟨false, rfl, fun h => (by cases h), BW⟩
 · obtain ⟨s, hs⟩ : ∃ s, wrap64 ((es.length : Int) + (ds.length : Int)) = s := ⟨_, rfl⟩
   have HSS := Lib.hid hs
   by_cases h4 : 4096 < s
   · have h5 : decide (s ≤ 4096) = false := by simp; omega
     go_wp2_with fail
     exact bodyPost_ret (v := .bool false) (by simp [results, Tryz.results9, go_sem]) rfl ⟨false, rfl, fun h => (by cases h), BW⟩
   · have h5 : decide (s ≤ 4096) = true := by simp; omega
     go_wp2_with fail
     have BW1 := Lib.hid BW
     refine (b_check (HS.out.on BW)).mono ?_
     rintro _ w11 ⟨r1, rfl, q1, hb⟩
     replace BW := BW.trans (hb.mono BW.size)
     clear hb
     have Q1 := Lib.hid q1
     clear q1
     by_cases hr1 : r1 = 0
     · subst hr1
       go_wp2_with fail
       have BW2 := Lib.hid BW
       refine (b_check (HT.out.on BW)).mono ?_
       rintro _ w12 ⟨r2, rfl, q2, hb⟩
       replace BW := BW.trans (hb.mono BW.size)
       clear hb
       have Q2 := Lib.hid q2
       clear q2
       by_cases hr2 : r2 = 0
       · subst hr2
         go_wp2_with fail
         exact bodyPost_ret (v := .bool true) (by simp [results, Tryz.results9, go_sem]) rfl ⟨true, rfl, fun _ => ⟨fit_len HSS.out (by omega) (Q1.out.zero rfl).1 (Q2.out.zero rfl).1, (Q1.out.zero rfl).2.at HS.out.2.2.1, (Q2.out.zero rfl).2.at HT.out.2.2.1⟩, BW⟩
       · have h7 : (r2 == 0) = false := by simpa using hr2
         go_wp2_with fail
         exact bodyPost_ret (v := .bool false) (by simp [results, Tryz.results9, go_sem]) rfl ⟨false, rfl, fun h => (by cases h), BW⟩
     · have h6 : (r1 == 0) = false := by simpa using hr1
       go_wp2_with fail
       exact bodyPost_ret (v := .bool false) (by simp [results, Tryz.results9, go_sem]) rfl ⟨false, rfl, fun h => (by cases h), BW⟩
end Go.Proofs.YtjamfkafgfpobaaGreat
namespace Go.Proofs.YtjamfkafgfpobaaGreat
open Go.RowKit Nb
section
variable {W W' : World} {p o g : Nat} {us vs : List Value}
theorem ldEC {ev : Operand → Value} {oi : Oper} {x : Operand} (ho : oi.op = .load 58 x) (hx : ev x = .pointer (some ⟨p, o, none⟩)) (K : AtC W p o us) (hl : us.length = 9) : (execOp ev oi).run Tryz.prog W = .ok (.value (.agg us.toArray)) W := by
 have hr := run_load_at (P := Tryz.prog) K.2 58 _ Tryz.underlying58 rfl (by rw [infoE, hl])
 unfold execOp
 simp only [ho, hx, Instr.loadAt, Instr.sureAddr, Sem.run_bind, Sem.run_pure, Result.andThen_ok, hr]
end
end Go.Proofs.YtjamfkafgfpobaaGreat
namespace Go.Proofs.YtjamfkafgfpobaaGreat
open Go.RowKit Nb
section
variable {W W' : World} {p o g : Nat} {us vs : List Value}
theorem ixO {ev : Operand → Value} {oi : Oper} {x y : Operand} {n c i : Nat} (ho : oi.op = .indexAddr 22 x y) (hx : ev x = .slice (some ⟨g, o, none⟩) n c) (hy : ev y = .int .i64 (i : Int)) (hi : i < n) : (execOp ev oi).run Tryz.prog W = .ok (.value (.pointer (some ⟨g, o + i * 9, none⟩))) W := by
 have h1 : (i : Int) < (n : Int) := by omega
 have h0 : (0 : Int) ≤ (i : Int) := by omega
 unfold execOp
 simp only [ho, hx, hy, Sem.run_bind, Sem.run_pure]
 go_simp
end
end Go.Proofs.YtjamfkafgfpobaaGreat
namespace Go.Proofs.YtjamfkafgfpobaaGreat
open Go.RowKit Nb
set_option maxHeartbeats 8000000 in
set_option maxRecDepth 20000 in
theorem b_samee0 {k : Int} {p q : Rat} {a b c d : Fv} {w : World} (La : Ff w p a) (Lb : Ff w q b) (Lc : Ff w p c) (Ld : Ff w q d) :
    Calls Tryz.prog 49 #[.agg #[.int .u8 k, .bool a.n, .slice a.A a.xs.length a.c, .bool a.m, .slice a.B a.ds.length a.d, .bool b.n, .slice b.A b.xs.length b.c, .bool b.m, .slice b.B b.ds.length b.d], .agg #[.int .u8 k, .bool c.n, .slice c.A c.xs.length c.c, .bool c.m, .slice c.B c.ds.length c.d, .bool d.n, .slice d.A d.xs.length d.c, .bool d.m, .slice d.B d.ds.length d.d]] w (fun e w' => e = .returned (.bool true) ∧ Below w.heap.size w w') := by
 have BW : Below w.heap.size w w := Below.refl _ _
 obtain ⟨V2, e3, hb4, K5, -, z1⟩ := alloc_new w [.int .u8 k, .bool a.n, .slice a.A a.xs.length a.c, .bool a.m, .slice a.B a.ds.length a.d, .bool b.n, .slice b.A b.xs.length b.c, .bool b.m, .slice b.B b.ds.length b.d] 58
 replace La := La.kp (Kept.of hb4)
 replace Lb := Lb.kp (Kept.of hb4)
 replace Lc := Lc.kp (Kept.of hb4)
 replace Ld := Ld.kp (Kept.of hb4)
 replace BW := BW.trans (hb4.mono BW.size)
 clear hb4
 obtain ⟨V6, e7, hb8, K9, -, -⟩ := alloc_new V2 [.int .u8 k, .bool c.n, .slice c.A c.xs.length c.c, .bool c.m, .slice c.B c.ds.length c.d, .bool d.n, .slice d.A d.xs.length d.c, .bool d.m, .slice d.B d.ds.length d.d] 58
 rw [z1] at K9
 replace K5 := K5.on hb8
 replace La := La.kp (Kept.of hb8)
 replace Lb := Lb.kp (Kept.of hb8)
 replace Lc := Lc.kp (Kept.of hb8)
 replace Ld := Ld.kp (Kept.of hb8)
 replace BW := BW.trans (hb8.mono BW.size)
 clear hb8
 clear z1
 go_enter Tryz.func49, Tryz.ntmps49
 go_wp2_with fail
 rw [← e3, ← e7]
 clear e3 e7
 refine (r_same La Lc).mono ?_
 rintro _ w10 ⟨rfl, hb⟩
 replace K5 := K5.on hb
 replace K9 := K9.on hb
 replace Lb := Lb.kp (Kept.of hb)
 replace Ld := Ld.kp (Kept.of hb)
 replace BW := BW.trans (hb.mono BW.size)
 clear hb
 rw [decide_eq_true rfl]
 obtain ⟨c11, c12, c13, c14, c15, c16, c17, c18, c19⟩ := K5.c9
 obtain ⟨c20, c21, c22, c23, c24, c25, c26, c27, c28⟩ := K9.c9
 go_wp2_with fail
 clear c11 c12 c13 c14 c15 c16 c17 c18 c19 c20 c21 c22 c23 c24 c25 c26 c27 c28
 refine (r_same Lb Ld).mono ?_
 rintro _ w29 ⟨rfl, hb⟩
 replace BW := BW.trans (hb.mono BW.size)
 clear hb
 rw [decide_eq_true rfl]
 go_wp2_with fail
 exact bodyPost_ret (v := .bool true) (by simp [results, Tryz.results49, go_sem]) rfl ⟨rfl, BW⟩
end Go.Proofs.YtjamfkafgfpobaaGreat
namespace Go.Proofs.YtjamfkafgfpobaaGreat
open Go.RowKit Nb
theorem b_samee {z : Eq} {e f : Ev} {w : World} (h : Fe w z e) (k : Fe w z f) : Calls Tryz.prog 49 #[ev e, ev f] w (fun e w' => e = .returned (.bool true) ∧ Below w.heap.size w w') := by
 obtain ⟨k1, a, b⟩ := e
 obtain ⟨k2, c, d⟩ := f
 obtain ⟨h1, h2, h3⟩ := h
 obtain ⟨g1, g2, g3⟩ := k
 simp only at h1 h2 h3 g1 g2 g3
 obtain rfl : k1 = k2 := h1.symm.trans g1
 exact b_samee0 h2 h3 g2 g3
end Go.Proofs.YtjamfkafgfpobaaGreat
namespace Go.Proofs.YtjamfkafgfpobaaGreat
open Go.RowKit Nb
set_option maxHeartbeats 16000000 in
set_option maxRecDepth 100000 in
theorem b_sames {a b : Option Addr} {c d : Nat} {es ds : List Ev} {zs : List Eq} {w : World} (S : Sle w a c es) (T : Sle w b d ds) (F1 : Fes w zs es) (F2 : Fes w zs ds) :
    Calls Tryz.prog 18 #[.slice a es.length c, .slice b ds.length d] w (fun e w' => e = .returned (.bool true) ∧ Below w.heap.size w w') := by
 have hld : ds.length = es.length := by rw [← F1.1, ← F2.1]
 have HS := Lib.hid S
 have HT := Lib.hid T
 have HF := Lib.hid F1
 have HG := Lib.hid F2
 have hlen : (es.length : Int) ≤ 9223372036854775807 := by have h1 := S.1; have h2 := S.2.1; omega
 rw [hld]
 have HLD := Lib.hid hld
 clear S T F1 F2 hld
 have BW : Below w.heap.size w w := Below.refl _ _
 go_enter Tryz.func18, Tryz.ntmps18
 go_wp2_with fail
 go_loopw [5] (fun iv wr => ∃ k : Nat, iv = .int .i64 (k : Nat) ∧ k ≤ es.length ∧ Below w.heap.size w wr) (fun iv _ => es.length - (intOf iv).toNat)
 case atStart => exact ⟨0, rfl, by omega, BW⟩
 case round =>
   obtain ⟨k, rfl, hk, BW⟩ := hrel
   by_cases hlt : k < es.length
   · have h2 : (k : Int) < (es.length : Int) := by omega
     obtain ⟨e, he⟩ : ∃ e, es[k]? = some e := ⟨_, List.getElem?_eq_getElem hlt⟩
     obtain ⟨f, hf⟩ : ∃ f, ds[k]? = some f := ⟨_, List.getElem?_eq_getElem (by rw [HLD.out]; exact hlt)⟩
     obtain ⟨z, hz⟩ : ∃ z, zs[k]? = some z := ⟨_, List.getElem?_eq_getElem (by rw [HF.out.1]; exact hlt)⟩
     obtain ⟨g, o, ha, hg, hat0⟩ := HS.out.2.2.2 k e he
     obtain ⟨g2, o2, hb0, hg2, hat2⟩ := HT.out.2.2.2 k f hf
     have hA : AtC wr g (o + k * 9) [.int .u8 e.k, .bool e.P.n, .slice e.P.A e.P.xs.length e.P.c, .bool e.P.m, .slice e.P.B e.P.ds.length e.P.d, .bool e.Q.n, .slice e.Q.A e.Q.xs.length e.Q.c, .bool e.Q.m, .slice e.Q.B e.Q.ds.length e.Q.d] := AtC.on ⟨hg, hat0⟩ BW
     have hB : AtC wr g2 (o2 + k * 9) [.int .u8 f.k, .bool f.P.n, .slice f.P.A f.P.xs.length f.P.c, .bool f.P.m, .slice f.P.B f.P.ds.length f.P.d, .bool f.Q.n, .slice f.Q.A f.Q.xs.length f.Q.c, .bool f.Q.m, .slice f.Q.B f.Q.ds.length f.Q.d] := AtC.on ⟨hg2, hat2⟩ BW
     have X := (HF.out.2 k z e hz he).1.kp (Kept.of BW)
     have Y := (HG.out.2 k z f hz hf).1.kp (Kept.of BW)
     have HLT := Lib.hid hlt
     clear hat0 hat2 he hf hz
     subst ha
     subst hb0
     go_wp2_with fail
     refine wp_region_noPanic ?_
     have hb : Below wr.heap.size wr wr.drew := (Below.refl _ _).drew
     replace hA := hA.on hb
     replace hB := hB.on hb
     replace X := X.kp (Kept.of hb)
     replace Y := Y.kp (Kept.of hb)
     replace BW := BW.trans (hb.mono BW.size)
     clear hb
     refine wp_region_held_drew (S := (fun wx => (AtC wx g (o + k * 9) [.int .u8 e.k, .bool e.P.n, .slice e.P.A e.P.xs.length e.P.c, .bool e.P.m, .slice e.P.B e.P.ds.length e.P.d, .bool e.Q.n, .slice e.Q.A e.Q.xs.length e.Q.c, .bool e.Q.m, .slice e.Q.B e.Q.ds.length e.Q.d]) ∧ (AtC wx g2 (o2 + k * 9) [.int .u8 f.k, .bool f.P.n, .slice f.P.A f.P.xs.length f.P.c, .bool f.P.m, .slice f.P.B f.P.ds.length f.P.d, .bool f.Q.n, .slice f.Q.A f.Q.xs.length f.Q.c, .bool f.Q.m, .slice f.Q.B f.Q.ds.length f.Q.d]))) (by kernel_rfl) (by exact ⟨hA, hB⟩) (fun hHeld => ?_)
     generalize wr.drew = Vd501 at *
     refine pT 0 ?_
     (try simp only [p0, p1, p2, p3])
     refine pT 1 ?_
     (try simp only [p0, p1, p2, p3])
     refine pT 2 ?_ (hy := fun wt hSw => ixO rfl rfl rfl HLT.out)
     (try simp only [p0, p1, p2, p3])
     refine pT 3 ?_ (hy := fun wt hSw => ldEC rfl rfl hSw.1 rfl)
     (try simp only [p0, p1, p2, p3])
     refine pT 4 ?_
     (try simp only [p0, p1, p2, p3])
     refine pT 5 ?_
     (try simp only [p0, p1, p2, p3])
     refine pT 6 ?_ (hy := fun wt hSw => ixO rfl rfl rfl HLT.out)
     (try simp only [p0, p1, p2, p3])
     refine pT 7 ?_ (hy := fun wt hSw => ldEC rfl rfl hSw.2 rfl)
     (try simp only [p0, p1, p2, p3])
     refine pR1 8 (fun K hK => ?_)
     go_simp
     (go_at_call 49; with_reducible refine (b_samee X Y).mono ?_)
     rintro _ w502 ⟨rfl, hb⟩
     (try go_wp2_with fail)
     replace hA := hA.on hb
     replace hB := hB.on hb
     replace X := X.kp (Kept.of hb)
     replace Y := Y.kp (Kept.of hb)
     replace BW := BW.trans (hb.mono BW.size)
     clear hb
     clear hHeld
     refine hK.out _ _ (by exact ⟨hA, hB⟩) (fun hHeld => ?_)
     clear hK
     (try simp only [p0, p1, p2, p3])
     refine pT 9 ?_
     (try simp only [p0, p1, p2, p3])
     refine wpAnyH_done (by kernel_rfl) (NoPanic.normal ?_) _
     go_wp2
     go_roundw
     case rel => exact ⟨k + 1, by go_num, by omega, BW⟩
     case measure => simp [intOf]; omega
   · obtain rfl : k = es.length := by omega
     go_wp2_with fail
     exact bodyPost_ret (v := .bool true) (by simp [results, Tryz.results18, go_sem]) rfl ⟨rfl, BW⟩
end Go.Proofs.YtjamfkafgfpobaaGreat
