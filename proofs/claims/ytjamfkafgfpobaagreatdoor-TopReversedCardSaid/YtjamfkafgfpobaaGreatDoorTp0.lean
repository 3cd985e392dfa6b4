/-
  What it costs to copy a bench and a ray; benches in words and in fractions. Conditions: as each theorem states.
-/
import Derived.Test.YtjamfkafgfpobaaGreatDoorBm7
import Derived.Test.YtjamfkafgfpobaaGreatDoorXta
import Derived.Test.YtjamfkafgfpobaaGreatDoorRmt
import Derived.Test.YtjamfkafgfpobaaGreatDoorRlc
import Derived.Deep.RegionHeld3
import Derived.Deep.DeepCutAuto
import Derived.BigRegion
namespace Go.Proofs.YtjamfkafgfpobaaGreatDoor
open Go.RowKit Nb
/-- It answers some number. -/
def IW (w : World) (e : Ending) (w' : World) : Prop := ∃ n : Int, e = .returned (.int .i64 n) ∧ Below w.heap.size w w'
end Go.Proofs.YtjamfkafgfpobaaGreatDoor
namespace Go.Proofs.YtjamfkafgfpobaaGreatDoor
open Go.RowKit Nb
theorem c_lens {f : Fv} {w : World} (X : Fx w f) : f.xs.length ≤ 35184372087808 ∧ f.ds.length ≤ 35184372087808 := ⟨by have := Rq.x X; have := this.sz; omega, by have := Rq.y X; have := this.sz; omega⟩
end Go.Proofs.YtjamfkafgfpobaaGreatDoor
namespace Go.Proofs.YtjamfkafgfpobaaGreatDoor
open Go.RowKit Nb
theorem c_size {f : Fv} {w : World} (X : Fx w f) : Calls Tryz.prog 56 #[fv f] w (IW w) := (f_size X).mono fun _ _ ⟨h, hb⟩ => ⟨_, h, hb⟩
end Go.Proofs.YtjamfkafgfpobaaGreatDoor
namespace Go.Proofs.YtjamfkafgfpobaaGreatDoor
open Go.RowKit Nb
set_option maxHeartbeats 8000000 in
set_option maxRecDepth 20000 in
theorem c_low {n m : Bool} {A B : Option Addr} {xs ds : List Nat} {c d : Nat} {w : World} (h1 : xs.length ≤ 35184372087808) (h2 : ds.length ≤ 35184372087808) :
    Calls Tryz.prog 57 #[big n A xs.length c, big m B ds.length d] w (IW w) := by
 have l1 : (xs.length : Int) ≤ 35184372087808 := by omega
 have l2 : (ds.length : Int) ≤ 35184372087808 := by omega
 have BW : Below w.heap.size w w := Below.refl _ _
 obtain ⟨V2, e3, hb4, K5, Z6, z1⟩ := alloc_new w [.bool n, .slice A xs.length c] 25
 have g7 : w.heap.size ≤ w.heap.size := BW.size
 replace BW := BW.trans (hb4.mono BW.size)
 clear hb4
 obtain ⟨V8, e9, hb10, K11, Z12, -⟩ := alloc_new V2 [.bool m, .slice B ds.length d] 25
 rw [z1] at K11 Z12
 have n13 : w.heap.size ≠ w.heap.size + 1 := Nat.ne_of_lt (z1 ▸ K5.lt)
 have g14 : w.heap.size ≤ w.heap.size + 1 := z1 ▸ BW.size
 replace K5 := K5.on hb10
 replace Z6 := Z6.on hb10
 replace BW := BW.trans (hb10.mono BW.size)
 clear hb10
 clear z1
 go_enter Tryz.func57, Tryz.ntmps57
 go_wp2_with fail
 rw [← e3, ← e9]
 clear e3 e9
 obtain ⟨c15, c16⟩ := K5.c2
 obtain ⟨c17, c18⟩ := K11.c2
 go_wp2_with fail
 all_goals (try (go_wp2_with fail))
 all_goals (first | (go_ret; exact ⟨_, rfl, BW⟩) | (go_meet; exact ⟨_, rfl, BW⟩))
end Go.Proofs.YtjamfkafgfpobaaGreatDoor
namespace Go.Proofs.YtjamfkafgfpobaaGreatDoor
open Go.RowKit Nb
set_option maxHeartbeats 8000000 in
set_option maxRecDepth 20000 in
theorem c_frac {f : Fv} {w : World} (X : Fx w f) :
    Calls Tryz.prog 25 #[fv f] w (IW w) := by
 have BW : Below w.heap.size w w := Below.refl _ _
 obtain ⟨V1, e2, hb3, K4, -, -⟩ := alloc_new w [.bool f.n, .slice f.A f.xs.length f.c, .bool f.m, .slice f.B f.ds.length f.d] 27
 replace X := X.kp (Kept.of hb3)
 replace BW := BW.trans (hb3.mono BW.size)
 clear hb3
 go_enter Tryz.func25, Tryz.ntmps25
 go_wp2_with fail
 rw [← e2]
 clear e2
 refine wp_region_noPanic ?_
 have hb : Below V1.heap.size V1 V1.drew := (Below.refl _ _).drew
 replace K4 := K4.on hb
 replace X := X.kp (Kept.of hb)
 replace BW := BW.trans (hb.mono BW.size)
 clear hb
 refine wp_region_held_drew (S := (fun wx => Cs wx (w.heap.size) 0 [.bool f.n, .slice f.A f.xs.length f.c, .bool f.m, .slice f.B f.ds.length f.d])) (by kernel_rfl) (by exact K4.cs) (fun hHeld => ?_)
 generalize V1.drew = Vd5 at *
 refine pT 0 ?_
 (try simp only [p0, p1, p2, p3])
 refine pT 2 ?_
 (try simp only [p0, p1, p2, p3])
 refine pT 3 ?_
 (try simp only [p0, p1, p2, p3])
 refine pT 4 ?_
 (try simp only [p0, p1, p2, p3])
 refine pT 5 ?_
 (try simp only [p0, p1, p2, p3])
 refine pR1 1 (fun K hK => ?_)
 go_simp
 (go_at_call 56; with_reducible refine (c_size X).mono ?_)
 rintro _ w6 ⟨n1, rfl, hb⟩
 (try go_wp2_with fail)
 replace K4 := K4.on hb
 replace X := X.kp (Kept.of hb)
 replace BW := BW.trans (hb.mono BW.size)
 clear hb
 clear hHeld
 refine hK.out _ _ (by exact K4.cs) (fun hHeld => ?_)
 clear hK
 (try simp only [p0, p1, p2, p3])
 refine pR1 6 (fun K hK => ?_)
 go_simp
 (go_at_call 57; with_reducible refine (c_low (c_lens X).1 (c_lens X).2).mono ?_)
 rintro _ w7 ⟨n2, rfl, hb⟩
 (try go_wp2_with fail)
 replace K4 := K4.on hb
 replace BW := BW.trans (hb.mono BW.size)
 clear hb
 clear hHeld
 refine hK.out _ _ (by exact K4.cs) (fun hHeld => ?_)
 clear hK
 (try simp only [p0, p1, p2, p3])
 refine pT 7 ?_
 (try simp only [p0, p1, p2, p3])
 refine pT 8 ?_
 (try simp only [p0, p1, p2, p3])
 refine wpAnyH_done (by kernel_rfl) (NoPanic.normal ?_) _
 go_wp2
 go_ret
 exact ⟨_, rfl, BW⟩
end Go.Proofs.YtjamfkafgfpobaaGreatDoor
namespace Go.Proofs.YtjamfkafgfpobaaGreatDoor
open Go.RowKit Nb
/-- Whether some costs are too much: yes or no. -/
def YN (w : World) (e : Ending) (w' : World) : Prop := ∃ r : Bool, e = .returned (.bool r) ∧ Below w.heap.size w w'
end Go.Proofs.YtjamfkafgfpobaaGreatDoor
namespace Go.Proofs.YtjamfkafgfpobaaGreatDoor
open Go.RowKit Nb
set_option maxHeartbeats 16000000 in
set_option maxRecDepth 100000 in
theorem c_beyond {ns : List Int} {g c : Nat} {w : World} (K : Box w g (ns.map (.int .i64))) (_hc : ns.length ≤ c) (hn : ns.length ≤ 4096) :
    Calls Tryz.prog 6 #[.slice (some ⟨g, 0, none⟩) ns.length c] w (YN w) := by
 have BW : Below w.heap.size w w := Below.refl _ _
 have hcap : (ns.length : Int) ≤ 9223372036854775807 := by omega
 go_enter Tryz.func6, Tryz.ntmps6
 go_wp2_with fail
 go_loopw [3, 4] (fun nv iv wr => ∃ (k : Nat) (n : Int), nv = .int .i64 n ∧ iv = .int .i64 (k : Nat) ∧ k ≤ ns.length ∧ Below w.heap.size w wr) (fun _ iv _ => ns.length - (intOf iv).toNat)
 case atStart => exact ⟨0, _, rfl, rfl, by omega, BW⟩
 case round =>
   obtain ⟨k, n, rfl, rfl, hk, BW⟩ := hrel
   by_cases hlt : k < ns.length
   · have h2 : (k : Int) < (ns.length : Int) := by omega
     obtain ⟨x, hx⟩ : ∃ x, ns[k]? = some x := ⟨_, List.getElem?_eq_getElem hlt⟩
     have hc : wr.cell? ⟨g, k, none⟩ = some (.int .i64 x) := (K.on BW).c k _ (by rw [List.getElem?_map, hx]; rfl)
     obtain ⟨y, hy⟩ : ∃ y, wrap64 (n + x) = y := ⟨_, rfl⟩
     clear hx
     by_cases hm : 1048576 < y
     · have hm2 : decide (1048576 < y) = true := by simp; omega
       go_wp2_with fail
       go_ret
       exact ⟨true, rfl, BW⟩
     · have hm2 : decide (1048576 < y) = false := by simp; omega
       go_wp2_with fail
       go_roundw
       case rel => exact ⟨k + 1, _, rfl, by go_num, by omega, BW⟩
       case measure => simp [intOf]; omega
   · obtain rfl : k = ns.length := by omega
     go_wp2_with fail
     go_ret
     exact ⟨_, rfl, BW⟩
end Go.Proofs.YtjamfkafgfpobaaGreatDoor
namespace Go.Proofs.YtjamfkafgfpobaaGreatDoor
open Go.RowKit Nb
section
variable {W w : World} {a a' : Option Addr} {b c c' : Nat} {xs es ds : List Ev}
theorem row_sle (K : Box W b (xs.flatMap ecs)) (hx : ∀ (i : Nat) (e : Ev), es[i]? = some e → xs[i]? = some e) (hX : ∀ e ∈ es, Xe W e) (hc : es.length ≤ c) (hm : c ≤ maxLen) : Sle W (some ⟨b, 0, none⟩) c es :=
 ⟨hc, by simpa [maxLen] using hm, hX, fun i e he => ⟨b, 0, rfl, K.lt, by rw [Nat.zero_add]; exact K.atB (flat_at ecs_len (hx i e he))⟩⟩
end
end Go.Proofs.YtjamfkafgfpobaaGreatDoor
namespace Go.Proofs.YtjamfkafgfpobaaGreatDoor
open Go.RowKit Nb
def alz : List Eq := [⟨1, Rat.divInt 1 2, Rat.divInt 0 1⟩, ⟨2, Rat.divInt 2 1, Rat.divInt 0 1⟩]
end Go.Proofs.YtjamfkafgfpobaaGreatDoor
namespace Go.Proofs.YtjamfkafgfpobaaGreatDoor
open Go.RowKit Nb
def alq : Mq := ⟨Rat.divInt 1 1, Rat.divInt 1 2, Rat.divInt (-2) 1, Rat.divInt 0 1⟩
end Go.Proofs.YtjamfkafgfpobaaGreatDoor
namespace Go.Proofs.YtjamfkafgfpobaaGreatDoor
open Go.RowKit Nb
theorem alz_eq : benchM alz = alq := by unfold benchM alz alq; apply Mq.ext4 <;> decide +kernel
end Go.Proofs.YtjamfkafgfpobaaGreatDoor
namespace Go.Proofs.YtjamfkafgfpobaaGreatDoor
open Go.RowKit Nb
theorem alz_fits : FitsM (benchM alz) := by
 rw [alz_eq]
 exact ⟨⟨fits_low (by unfold alq; decide +kernel), fits_low (by unfold alq; decide +kernel)⟩, ⟨fits_low (by unfold alq; decide +kernel), fits_low (by unfold alq; decide +kernel)⟩, ⟨fits_low (by unfold alq; decide +kernel), fits_low (by unfold alq; decide +kernel)⟩, ⟨fits_low (by unfold alq; decide +kernel), fits_low (by unfold alq; decide +kernel)⟩⟩
end Go.Proofs.YtjamfkafgfpobaaGreatDoor
namespace Go.Proofs.YtjamfkafgfpobaaGreatDoor
open Go.RowKit Nb
theorem sm_fits {X Y : Int} (h : (Rat.divInt X Y).num.natAbs < 2 ^ 100) (k : (((Rat.divInt X Y).den : Nat) : Int).natAbs < 2 ^ 100) : FitsQ (Rat.divInt X Y) := ⟨fits_low h, fits_low k⟩
end Go.Proofs.YtjamfkafgfpobaaGreatDoor
namespace Go.Proofs.YtjamfkafgfpobaaGreatDoor
open Go.RowKit Nb
theorem sle_two {W : World} {g : Nat} {e f : Ev} (K : Box W g (ecs e ++ ecs f)) (X : Xe W e) (Y : Xe W f) : Sle W (some ⟨g, 0, none⟩) 2 [e, f] :=
 row_sle (xs := [e, f]) (by rw [List.flatMap_cons, List.flatMap_cons, List.flatMap_nil, List.append_nil]; exact K) (fun _ _ h => h) (fun x hx => by simp at hx; rcases hx with rfl | rfl; exact X; exact Y) (by simp) (by simp [maxLen])
end Go.Proofs.YtjamfkafgfpobaaGreatDoor
namespace Go.Proofs.YtjamfkafgfpobaaGreatDoor
open Go.RowKit Nb
theorem Fes.two {W : World} {y z : Eq} {e f : Ev} (h : Fe W y e ∧ y.may) (k : Fe W z f ∧ z.may) : Fes W [y, z] [e, f] := ⟨rfl, fun i x u h1 h2 => by
 rcases i with _ | _ | i
 ·simp at h1 h2; subst h1; subst h2; exact h
 ·simp at h1 h2; subst h1; subst h2; exact k
 ·simp at h1⟩
end Go.Proofs.YtjamfkafgfpobaaGreatDoor
namespace Go.Proofs.YtjamfkafgfpobaaGreatDoor
open Go.RowKit Nb
theorem chainM_det : ∀ (l : List Mq), (∀ m ∈ l, m.det = 1) → (chainM l).det = 1
 | [], _ => Mq.det_one
 | m :: r, h => Mq.det_mul (chainM_det r fun x hx => h x (by simp [hx])) (h m (by simp))
end Go.Proofs.YtjamfkafgfpobaaGreatDoor
namespace Go.Proofs.YtjamfkafgfpobaaGreatDoor
open Go.RowKit Nb
section
variable {W W' w : World} {zs ys : List Eq} {es ds : List Ev}
theorem MayL.fes : ∀ {es : List Ev}, MayL W es → ∃ zs, Fes W zs es
 | [], _ => ⟨[], rfl, fun i z e h => by simp at h⟩
 | e :: r, h => by
  obtain ⟨zs, h1, h2⟩ := MayL.fes (es := r) fun x hx => h x (by simp [hx])
  obtain ⟨z, h3, h4⟩ := h e (by simp)
  refine ⟨z :: zs, by simp [h1], fun i y x hy hx => ?_⟩
  cases i with
  | zero => simp at hy hx; subst hy; subst hx; exact ⟨h3, h4⟩
  | succ i => exact h2 i y x (by simpa using hy) (by simpa using hx)
end
end Go.Proofs.YtjamfkafgfpobaaGreatDoor
namespace Go.Proofs.YtjamfkafgfpobaaGreatDoor
open Go.RowKit Nb
section
variable {W W' w : World} {zs ys : List Eq} {es ds : List Ev}
theorem benchM_app (zs ys : List Eq) : benchM (zs ++ ys) = (benchM ys).mul (benchM zs) := by unfold benchM; rw [List.map_append, chainM_app]
end
end Go.Proofs.YtjamfkafgfpobaaGreatDoor
namespace Go.Proofs.YtjamfkafgfpobaaGreatDoor
open Go.RowKit Nb
section
variable {W W' w : World} {zs ys : List Eq} {es ds : List Ev}
theorem benchM_det (zs : List Eq) : (benchM zs).det = 1 := chainM_det _ fun m hm => by
 obtain ⟨z, _, rfl⟩ := List.mem_map.1 hm
 exact z.det
end
end Go.Proofs.YtjamfkafgfpobaaGreatDoor
namespace Go.Proofs.YtjamfkafgfpobaaGreatDoor
open Go.RowKit Nb
theorem Xe.xP {W : World} {e : Ev} (h : Xe W e) : Fx W e.P := h.2.1
end Go.Proofs.YtjamfkafgfpobaaGreatDoor
namespace Go.Proofs.YtjamfkafgfpobaaGreatDoor
open Go.RowKit Nb
theorem Xe.xQ {W : World} {e : Ev} (h : Xe W e) : Fx W e.Q := h.2.2
end Go.Proofs.YtjamfkafgfpobaaGreatDoor
namespace Go.Proofs.YtjamfkafgfpobaaGreatDoor
open Go.RowKit Nb
set_option maxHeartbeats 8000000 in
set_option maxRecDepth 20000 in
theorem c_elem {e : Ev} {w : World} (X : Xe w e) :
    Calls Tryz.prog 24 #[ev e] w (IW w) := by
 have BW : Below w.heap.size w w := Below.refl _ _
 obtain ⟨V1, e2, hb3, K4, -, -⟩ := alloc_new w [.int .u8 e.k, .bool e.P.n, .slice e.P.A e.P.xs.length e.P.c, .bool e.P.m, .slice e.P.B e.P.ds.length e.P.d, .bool e.Q.n, .slice e.Q.A e.Q.xs.length e.Q.c, .bool e.Q.m, .slice e.Q.B e.Q.ds.length e.Q.d] 65
 replace X := X.kp (Kept.of hb3)
 replace BW := BW.trans (hb3.mono BW.size)
 clear hb3
 go_enter Tryz.func24, Tryz.ntmps24
 go_wp2_with fail
 rw [← e2]
 clear e2
 refine wp_region_noPanic ?_
 have hb : Below V1.heap.size V1 V1.drew := (Below.refl _ _).drew
 replace K4 := K4.on hb
 replace X := X.kp (Kept.of hb)
 replace BW := BW.trans (hb.mono BW.size)
 clear hb
 refine wp_region_held_drew (S := (fun wx => Cs wx (w.heap.size) 0 [.int .u8 e.k, .bool e.P.n, .slice e.P.A e.P.xs.length e.P.c, .bool e.P.m, .slice e.P.B e.P.ds.length e.P.d, .bool e.Q.n, .slice e.Q.A e.Q.xs.length e.Q.c, .bool e.Q.m, .slice e.Q.B e.Q.ds.length e.Q.d])) (by kernel_rfl) (by exact K4.cs) (fun hHeld => ?_)
 generalize V1.drew = Vd5 at *
 refine pT 0 ?_
 (try simp only [p0, p1, p2, p3])
 refine pT 1 ?_
 (try simp only [p0, p1, p2, p3])
 refine pT 3 ?_
 (try simp only [p0, p1, p2, p3])
 refine pT 4 ?_
 (try simp only [p0, p1, p2, p3])
 refine pR1 2 (fun K hK => ?_)
 go_simp
 (go_at_call 25; with_reducible refine (c_frac X.xP).mono ?_)
 rintro _ w6 ⟨n1, rfl, hb⟩
 (try go_wp2_with fail)
 replace K4 := K4.on hb
 replace X := X.kp (Kept.of hb)
 replace BW := BW.trans (hb.mono BW.size)
 clear hb
 clear hHeld
 refine hK.out _ _ (by exact K4.cs) (fun hHeld => ?_)
 clear hK
 (try simp only [p0, p1, p2, p3])
 refine pR1 5 (fun K hK => ?_)
 go_simp
 (go_at_call 25; with_reducible refine (c_frac X.xQ).mono ?_)
 rintro _ w7 ⟨n2, rfl, hb⟩
 (try go_wp2_with fail)
 replace K4 := K4.on hb
 replace BW := BW.trans (hb.mono BW.size)
 clear hb
 clear hHeld
 refine hK.out _ _ (by exact K4.cs) (fun hHeld => ?_)
 clear hK
 (try simp only [p0, p1, p2, p3])
 refine pT 6 ?_
 (try simp only [p0, p1, p2, p3])
 refine pT 7 ?_
 (try simp only [p0, p1, p2, p3])
 refine wpAnyH_done (by kernel_rfl) (NoPanic.normal ?_) _
 go_wp2
 go_ret
 exact ⟨_, rfl, BW⟩
end Go.Proofs.YtjamfkafgfpobaaGreatDoor
namespace Go.Proofs.YtjamfkafgfpobaaGreatDoor
open Go.RowKit Nb
set_option maxHeartbeats 16000000 in
set_option maxRecDepth 100000 in
theorem c_elems {a : Option Addr} {c : Nat} {es : List Ev} {w : World} (S : Sle w a c es) :
    Calls Tryz.prog 7 #[.slice a es.length c] w (IW w) := by
 have hlen : (es.length : Int) ≤ 9223372036854775807 := by have h1 := S.1; have h2 := S.2.1; omega
 have HS := Lib.hid S
 have BW : Below w.heap.size w w := Below.refl _ _
 go_enter Tryz.func7, Tryz.ntmps7
 go_wp2_with fail
 go_loopw [3, 4] (fun nv iv wr => ∃ (k : Nat) (n : Int), nv = .int .i64 n ∧ iv = .int .i64 (k : Nat) ∧ k ≤ es.length ∧ Below w.heap.size w wr) (fun _ iv _ => es.length - (intOf iv).toNat)
 case atStart => exact ⟨0, _, rfl, rfl, by omega, BW⟩
 case round =>
   obtain ⟨k, n, rfl, rfl, hk, BW⟩ := hrel
   by_cases hlt : k < es.length
   · have h2 : (k : Int) < (es.length : Int) := by omega
     obtain ⟨e, he⟩ : ∃ e, es[k]? = some e := ⟨_, List.getElem?_eq_getElem hlt⟩
     obtain ⟨g, o, ha, hg, hat0⟩ := HS.out.2.2.2 k e he
     have hat : AtB wr g (o + k * 9) [.int .u8 e.k, .bool e.P.n, .slice e.P.A e.P.xs.length e.P.c, .bool e.P.m, .slice e.P.B e.P.ds.length e.P.d, .bool e.Q.n, .slice e.Q.A e.Q.xs.length e.Q.c, .bool e.Q.m, .slice e.Q.B e.Q.ds.length e.Q.d] := hat0.on hg BW
     have X := (HS.out.xe he).kp (Kept.of BW)
     clear hat0 he
     subst ha
     by_cases hm : n ≤ 1048576
     · go_wp2_with (first | (refine wpList_ldE (by rfl) (by rfl) (by rfl) hat (by rfl) ?_))
       refine (c_elem X).mono ?_
       rintro _ w501 ⟨n1, rfl, hb⟩
       replace X := X.kp (Kept.of hb)
       replace BW := BW.trans (hb.mono BW.size)
       clear hb
       go_wp2_with fail
       go_roundw
       case rel => exact ⟨k + 1, _, rfl, by go_num, by omega, BW⟩
       case measure => simp [intOf]; omega
     · have hm2 : decide (n ≤ 1048576) = false := by simp; omega
       go_wp2_with fail
       go_ret
       exact ⟨_, rfl, BW⟩
   · obtain rfl : k = es.length := by omega
     go_wp2_with fail
     go_ret
     exact ⟨_, rfl, BW⟩
end Go.Proofs.YtjamfkafgfpobaaGreatDoor
namespace Go.Proofs.YtjamfkafgfpobaaGreatDoor
open Go.RowKit Nb
set_option maxHeartbeats 8000000 in
set_option maxRecDepth 20000 in
theorem c_ray {y : Yv} {w : World} (X : Xy w y) :
    Calls Tryz.prog 8 #[yv y] w (IW w) := by
 have BW : Below w.heap.size w w := Below.refl _ _
 obtain ⟨V1, e2, hb3, K4, -, -⟩ := alloc_new w [.bool y.Y.n, .slice y.Y.A y.Y.xs.length y.Y.c, .bool y.Y.m, .slice y.Y.B y.Y.ds.length y.Y.d, .bool y.U.n, .slice y.U.A y.U.xs.length y.U.c, .bool y.U.m, .slice y.U.B y.U.ds.length y.U.d] 29
 replace K4 : Box V1 (w.heap.size) (ycs y) := K4
 replace X := X.kp (Kept.of hb3)
 replace BW := BW.trans (hb3.mono BW.size)
 clear hb3
 go_enter Tryz.func8, Tryz.ntmps8
 go_wp2_with fail
 rw [← e2]
 clear e2
 refine wp_region_noPanic ?_
 have hb : Below V1.heap.size V1 V1.drew := (Below.refl _ _).drew
 replace K4 := K4.on hb
 replace X := X.kp (Kept.of hb)
 replace BW := BW.trans (hb.mono BW.size)
 clear hb
 refine wp_region_held_drew (S := (fun wx => Cs wx (w.heap.size) 0 [.bool y.Y.n, .slice y.Y.A y.Y.xs.length y.Y.c, .bool y.Y.m, .slice y.Y.B y.Y.ds.length y.Y.d, .bool y.U.n, .slice y.U.A y.U.xs.length y.U.c, .bool y.U.m, .slice y.U.B y.U.ds.length y.U.d])) (by kernel_rfl) (by exact K4.cs) (fun hHeld => ?_)
 generalize V1.drew = Vd5 at *
 refine pT 0 ?_
 (try simp only [p0, p1, p2, p3])
 refine pT 1 ?_
 (try simp only [p0, p1, p2, p3])
 refine pT 3 ?_
 (try simp only [p0, p1, p2, p3])
 refine pT 4 ?_
 (try simp only [p0, p1, p2, p3])
 refine pR1 2 (fun K hK => ?_)
 go_simp
 (go_at_call 25; with_reducible refine (c_frac X.xY).mono ?_)
 rintro _ w6 ⟨n1, rfl, hb⟩
 (try go_wp2_with fail)
 replace K4 := K4.on hb
 replace X := X.kp (Kept.of hb)
 replace BW := BW.trans (hb.mono BW.size)
 clear hb
 clear hHeld
 refine hK.out _ _ (by exact K4.cs) (fun hHeld => ?_)
 clear hK
 (try simp only [p0, p1, p2, p3])
 refine pR1 5 (fun K hK => ?_)
 go_simp
 (go_at_call 25; with_reducible refine (c_frac X.xU).mono ?_)
 rintro _ w7 ⟨n2, rfl, hb⟩
 (try go_wp2_with fail)
 replace K4 := K4.on hb
 replace BW := BW.trans (hb.mono BW.size)
 clear hb
 clear hHeld
 refine hK.out _ _ (by exact K4.cs) (fun hHeld => ?_)
 clear hK
 (try simp only [p0, p1, p2, p3])
 refine pT 6 ?_
 (try simp only [p0, p1, p2, p3])
 refine pT 7 ?_
 (try simp only [p0, p1, p2, p3])
 refine wpAnyH_done (by kernel_rfl) (NoPanic.normal ?_) _
 go_wp2
 go_ret
 exact ⟨_, rfl, BW⟩
end Go.Proofs.YtjamfkafgfpobaaGreatDoor
