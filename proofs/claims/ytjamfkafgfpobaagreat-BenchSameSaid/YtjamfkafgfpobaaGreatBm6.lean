/-
  A row of matrices, made one by halves. Conditions: as each theorem states.
-/
import Derived.Test.YtjamfkafgfpobaaGreatBm4
import Derived.Test.YtjamfkafgfpobaaGreatBl2
import Derived.Test.YtjamfkafgfpobaaGreatBn1
import Derived.Deep.RegionHeld3
import Derived.Deep.DeepCutAuto
import Derived.BigRegion
namespace Go.Proofs.YtjamfkafgfpobaaGreat
open Go.RowKit Nb
set_option maxHeartbeats 8000000 in
set_option maxRecDepth 20000 in
theorem b_tog0 {n : Mv} {g o c C : Nat} {w : World} (G : Gm w .one n C) :
    Calls Tryz.prog 74 #[.slice (some ⟨g, o, none⟩) 0 c, mv n, .func (.func 76) #[] #[]] w (GMx w (.one) (C)) := by
 have BW : Below w.heap.size w w := Below.refl _ _
 obtain ⟨V2, e3, hb4, K5, Z6, z1⟩ := alloc_new w [.bool n.A.n, .slice n.A.A n.A.xs.length n.A.c, .bool n.A.m, .slice n.A.B n.A.ds.length n.A.d, .bool n.B.n, .slice n.B.A n.B.xs.length n.B.c, .bool n.B.m, .slice n.B.B n.B.ds.length n.B.d, .bool n.C.n, .slice n.C.A n.C.xs.length n.C.c, .bool n.C.m, .slice n.C.B n.C.ds.length n.C.d, .bool n.D.n, .slice n.D.A n.D.xs.length n.D.c, .bool n.D.m, .slice n.D.B n.D.ds.length n.D.d] 76
 replace K5 : Box V2 (w.heap.size) (mcs n) := K5
 have g7 : w.heap.size ≤ w.heap.size := BW.size
 replace G := G.kp (Kept.of hb4)
 replace BW := BW.trans (hb4.mono BW.size)
 clear hb4
 obtain ⟨V8, e9, hb10, K11, Z12, -⟩ := alloc_new V2 [.bool false, .slice none 0 0, .bool false, .slice none 0 0, .bool false, .slice none 0 0, .bool false, .slice none 0 0, .bool false, .slice none 0 0, .bool false, .slice none 0 0, .bool false, .slice none 0 0, .bool false, .slice none 0 0] 76
 rw [z1] at K11 Z12
 replace K11 : Box V8 (w.heap.size + 1) (zcs16) := K11
 have n13 : w.heap.size ≠ w.heap.size + 1 := Nat.ne_of_lt (z1 ▸ K5.lt)
 have g14 : w.heap.size ≤ w.heap.size + 1 := z1 ▸ BW.size
 replace K5 := K5.on hb10
 replace G := G.kp (Kept.of hb10)
 replace BW := BW.trans (hb10.mono BW.size)
 clear hb10
 clear z1
 go_enter Tryz.func74, Tryz.ntmps74
 go_upto_region 1 with fail
 rw [← e3, ← e9]
 clear e3 e9
 go_upto_region 2 with fail
 go_upto_region 3 with fail
 go_upto_region 4 with fail
 have c15 := K5
 have c16 := Lib.hid (st16 (P := Tryz.prog) (vs := mcs n) K11 Z12 rfl rfl)
 obtain ⟨V17, hk19⟩ : ∃ V17, V17 = V8.setCells (w.heap.size + 1) 0 (mcs n) := ⟨_, rfl⟩
 have e18 := Lib.hid hk19
 have hk20 := Kept.overE hk19 K11 rfl (Nat.le_of_ble_eq_true rfl)
 replace K11 := K11.overE hk19 rfl
 replace G := G.kp hk20
 replace BW := Below.putE BW hk19 g14
 clear hk19 hk20
 replace K11 : Box V17 (w.heap.size + 1) (mcs n) := K11
 go_wp2_with (first | (refine wpList_ldL (by rfl) (by rfl) (by rfl) c15 (by rfl) ?_))
 rw [c16.out, ← e18.out]
 go_wp2_with fail
 clear c16 e18
 clear c15
 exact bodyPost_ret (v := mv n) (res_L Tryz.results74 (by rfl) K11 rfl) rfl ⟨n, rfl, G, BW⟩
set_option maxHeartbeats 8000000 in
set_option maxRecDepth 20000 in
theorem b_tog1 {n m : Mv} {q : Mq} {g o c C : Nat} {w : World} (G : Gm w q m C) (hg : g < w.heap.size) (hat : AtB w g o (mcs m)) (_hc : 1 ≤ c) :
    Calls Tryz.prog 74 #[.slice (some ⟨g, o, none⟩) 1 c, mv n, .func (.func 76) #[] #[]] w (GMx w (q) (C)) := by
 have BW : Below w.heap.size w w := Below.refl _ _
 obtain ⟨V2, e3, hb4, K5, Z6, z1⟩ := alloc_new w [.bool n.A.n, .slice n.A.A n.A.xs.length n.A.c, .bool n.A.m, .slice n.A.B n.A.ds.length n.A.d, .bool n.B.n, .slice n.B.A n.B.xs.length n.B.c, .bool n.B.m, .slice n.B.B n.B.ds.length n.B.d, .bool n.C.n, .slice n.C.A n.C.xs.length n.C.c, .bool n.C.m, .slice n.C.B n.C.ds.length n.C.d, .bool n.D.n, .slice n.D.A n.D.xs.length n.D.c, .bool n.D.m, .slice n.D.B n.D.ds.length n.D.d] 76
 replace K5 : Box V2 (w.heap.size) (mcs n) := K5
 have g7 : w.heap.size ≤ w.heap.size := BW.size
 replace G := G.kp (Kept.of hb4)
 replace BW := BW.trans (hb4.mono BW.size)
 clear hb4
 obtain ⟨V8, e9, hb10, K11, Z12, -⟩ := alloc_new V2 [.bool false, .slice none 0 0, .bool false, .slice none 0 0, .bool false, .slice none 0 0, .bool false, .slice none 0 0, .bool false, .slice none 0 0, .bool false, .slice none 0 0, .bool false, .slice none 0 0, .bool false, .slice none 0 0] 76
 rw [z1] at K11 Z12
 replace K11 : Box V8 (w.heap.size + 1) (zcs16) := K11
 have n13 : w.heap.size ≠ w.heap.size + 1 := Nat.ne_of_lt (z1 ▸ K5.lt)
 have g14 : w.heap.size ≤ w.heap.size + 1 := z1 ▸ BW.size
 replace G := G.kp (Kept.of hb10)
 replace BW := BW.trans (hb10.mono BW.size)
 clear hb10
 clear z1
 go_enter Tryz.func74, Tryz.ntmps74
 go_upto_region 1 with fail
 rw [← e3, ← e9]
 clear e3 e9
 go_upto_region 2 with fail
 go_upto_region 3 with fail
 go_upto_region 5 with fail
 skip
 have at1 := hat.on hg BW
 go_upto_region 6 with fail
 have c15 := Lib.hid (st16 (P := Tryz.prog) (vs := mcs m) K11 Z12 rfl rfl)
 obtain ⟨V16, hk18⟩ : ∃ V16, V16 = V8.setCells (w.heap.size + 1) 0 (mcs m) := ⟨_, rfl⟩
 have e17 := Lib.hid hk18
 have hk19 := Kept.overE hk18 K11 rfl (Nat.le_of_ble_eq_true rfl)
 replace K11 := K11.overE hk18 rfl
 replace G := G.kp hk19
 replace BW := Below.putE BW hk18 g14
 clear hk18 hk19
 replace K11 : Box V16 (w.heap.size + 1) (mcs m) := K11
 go_wp2_with (first | (refine wpList_ldLO (by rfl) (by rfl) (by rfl) at1 (by rfl) ?_))
 rw [c15.out, ← e17.out]
 go_wp2_with fail
 clear c15 e17
 exact bodyPost_ret (v := mv m) (res_L Tryz.results74 (by rfl) K11 rfl) rfl ⟨m, rfl, G, BW⟩
set_option maxHeartbeats 16000000 in
set_option maxRecDepth 100000 in
theorem b_tog2 {z : Mv} {q1 q2 : Mq} {g o n c C : Nat} {w : World} (hn : 2 ≤ n) (hn2 : n ≤ 4096) (hc : n ≤ c) (_hc2 : c ≤ 9223372036854775807) (hC : 2 * C + 2 ≤ 1759218604390)
  (H1 : ∀ W : World, Below w.heap.size w W → Calls Tryz.prog 74 #[.slice (some ⟨g, o, none⟩) (n / 2 : Nat) c, mv z, .func (.func 76) #[] #[]] W (GMx W q1 C))
  (H2 : ∀ W : World, Below w.heap.size w W → Calls Tryz.prog 74 #[.slice (some ⟨g, o + n / 2 * 16, none⟩) (n - n / 2) (c - n / 2), mv z, .func (.func 76) #[] #[]] W (GMx W q2 C)) :
    Calls Tryz.prog 74 #[.slice (some ⟨g, o, none⟩) n c, mv z, .func (.func 76) #[] #[]] w (GMx w (q2.mul q1) (4 * C + 8)) := by
 have h2 : (2 : Int) ≤ (n : Int) := by omega
 have h3 : (n : Int) ≤ 4096 := by omega
 have BW : Below w.heap.size w w := Below.refl _ _
 obtain ⟨V2, e3, hb4, K5, Z6, z1⟩ := alloc_new w [.bool z.A.n, .slice z.A.A z.A.xs.length z.A.c, .bool z.A.m, .slice z.A.B z.A.ds.length z.A.d, .bool z.B.n, .slice z.B.A z.B.xs.length z.B.c, .bool z.B.m, .slice z.B.B z.B.ds.length z.B.d, .bool z.C.n, .slice z.C.A z.C.xs.length z.C.c, .bool z.C.m, .slice z.C.B z.C.ds.length z.C.d, .bool z.D.n, .slice z.D.A z.D.xs.length z.D.c, .bool z.D.m, .slice z.D.B z.D.ds.length z.D.d] 76
 replace K5 : Box V2 (w.heap.size) (mcs z) := K5
 have g7 : w.heap.size ≤ w.heap.size := BW.size
 replace BW := BW.trans (hb4.mono BW.size)
 clear hb4
 obtain ⟨V8, e9, hb10, K11, Z12, -⟩ := alloc_new V2 [.bool false, .slice none 0 0, .bool false, .slice none 0 0, .bool false, .slice none 0 0, .bool false, .slice none 0 0, .bool false, .slice none 0 0, .bool false, .slice none 0 0, .bool false, .slice none 0 0, .bool false, .slice none 0 0] 76
 rw [z1] at K11 Z12
 replace K11 : Box V8 (w.heap.size + 1) (zcs16) := K11
 have n13 : w.heap.size ≠ w.heap.size + 1 := Nat.ne_of_lt (z1 ▸ K5.lt)
 have g14 : w.heap.size ≤ w.heap.size + 1 := z1 ▸ BW.size
 replace K5 := K5.on hb10
 replace BW := BW.trans (hb10.mono BW.size)
 clear hb10
 clear z1
 go_enter Tryz.func74, Tryz.ntmps74
 go_wp2_with fail
 rw [← e3, ← e9]
 clear e3 e9
 refine wp_region_noPanic ?_
 have hb : Below V8.heap.size V8 V8.drew := (Below.refl _ _).drew
 replace K5 := K5.on hb
 replace K11 := K11.on hb
 replace Z12 := Z12.on hb
 replace BW := BW.trans (hb.mono BW.size)
 clear hb
 refine wp_region_held_drew (S := (fun wx => Box wx (w.heap.size) [.bool z.A.n, .slice z.A.A z.A.xs.length z.A.c, .bool z.A.m, .slice z.A.B z.A.ds.length z.A.d, .bool z.B.n, .slice z.B.A z.B.xs.length z.B.c, .bool z.B.m, .slice z.B.B z.B.ds.length z.B.d, .bool z.C.n, .slice z.C.A z.C.xs.length z.C.c, .bool z.C.m, .slice z.C.B z.C.ds.length z.C.d, .bool z.D.n, .slice z.D.A z.D.xs.length z.D.c, .bool z.D.m, .slice z.D.B z.D.ds.length z.D.d])) (by kernel_rfl) (by exact K5) (fun hHeld => ?_)
 generalize V8.drew = Vd15 at *
 refine pT 0 ?_
 (try simp only [p0, p1, p2, p3])
 refine pT 1 ?_
 (try simp only [p0, p1, p2, p3])
 refine pT 2 ?_
 (try simp only [p0, p1, p2, p3])
 refine pT 3 ?_ (hy := fun wt hSw => slH (h := n / 2) rfl rfl rfl (by omega))
 (try simp only [p0, p1, p2, p3])
 refine pT 4 ?_ (hy := fun wt hSw => ldL rfl rfl hSw)
 (try simp only [p0, p1, p2, p3])
 refine pT 5 ?_
 (try simp only [p0, p1, p2, p3])
 refine pT 7 ?_
 (try simp only [p0, p1, p2, p3])
 refine pT 8 ?_
 (try simp only [p0, p1, p2, p3])
 refine pT 9 ?_ (hy := fun wt hSw => slL (h := n / 2) rfl rfl rfl (by omega) (by omega))
 (try simp only [p0, p1, p2, p3])
 refine pT 10 ?_ (hy := fun wt hSw => ldL rfl rfl hSw)
 (try simp only [p0, p1, p2, p3])
 refine pT 11 ?_
 (try simp only [p0, p1, p2, p3])
 refine pR1 6 (fun K hK => ?_)
 go_simp
 (go_at_call 74; with_reducible refine (H1 _ BW).mono ?_)
 rintro _ w16 ⟨f1, rfl, L1, hb⟩
 (try go_wp2_with fail)
 replace K5 := K5.on hb
 replace K11 := K11.on hb
 replace Z12 := Z12.on hb
 replace BW := BW.trans (hb.mono BW.size)
 clear hb
 clear hHeld
 refine hK.out _ _ (by exact K5) (fun hHeld => ?_)
 clear hK
 (try simp only [p0, p1, p2, p3])
 refine pR1 12 (fun K hK => ?_)
 go_simp
 (go_at_call 74; with_reducible refine (H2 _ BW).mono ?_)
 rintro _ w17 ⟨f2, rfl, L2, hb⟩
 (try go_wp2_with fail)
 replace K5 := K5.on hb
 replace K11 := K11.on hb
 replace Z12 := Z12.on hb
 replace L1 := L1.kp (Kept.of hb)
 replace BW := BW.trans (hb.mono BW.size)
 clear hb
 clear hHeld
 refine hK.out _ _ (by exact K5) (fun hHeld => ?_)
 clear hK
 (try simp only [p0, p1, p2, p3])
 refine pR1 13 (fun K hK => ?_)
 go_simp
 (go_at_call 76; with_reducible refine (b_both L1 L2 hC).mono ?_)
 rintro _ w18 ⟨f, rfl, L, hb⟩
 (try go_wp2_with fail)
 replace K5 := K5.on hb
 replace K11 := K11.on hb
 replace Z12 := Z12.on hb
 replace BW := BW.trans (hb.mono BW.size)
 clear hb
 clear hHeld
 refine hK.out _ _ (by exact K5) (fun hHeld => ?_)
 clear hK
 (try simp only [p0, p1, p2, p3])
 refine pR1 14 (fun K hK => ?_)
 refine ite_yes (by rfl) (wp_stL rfl rfl rfl K11 Z12 rfl rfl rfl ?_)
 obtain ⟨V19, hk21⟩ : ∃ V19, V19 = w18.setCells (w.heap.size + 1) 0 [.bool f.A.n, .slice f.A.A f.A.xs.length f.A.c, .bool f.A.m, .slice f.A.B f.A.ds.length f.A.d, .bool f.B.n, .slice f.B.A f.B.xs.length f.B.c, .bool f.B.m, .slice f.B.B f.B.ds.length f.B.d, .bool f.C.n, .slice f.C.A f.C.xs.length f.C.c, .bool f.C.m, .slice f.C.B f.C.ds.length f.C.d, .bool f.D.n, .slice f.D.A f.D.xs.length f.D.c, .bool f.D.m, .slice f.D.B f.D.ds.length f.D.d] := ⟨_, rfl⟩
 have e20 := hk21
 have hk22 := Kept.overE hk21 K11 rfl (Nat.le_of_ble_eq_true rfl)
 replace K5 := K5.awayE hk21 n13
 replace K11 := K11.overE hk21 rfl
 replace L := L.kp hk22
 replace BW := Below.putE BW hk21 g14
 clear hk21 hk22
 replace K11 : Box V19 (w.heap.size + 1) (mcs f) := K11
 rw [← e20]
 clear e20
 clear hHeld
 refine hK.out _ _ (by exact K5) (fun hHeld => ?_)
 clear hK
 (try simp only [p0])
 refine wpAnyH_done (by kernel_rfl) (NoPanic.normal ?_) _
 go_wp2
 exact bodyPost_ret (v := mv f) (res_L Tryz.results74 (by rfl) K11 rfl) rfl ⟨f, rfl, L, BW⟩
theorem b_togS {C : Nat} {qs : List Mq} {ms : List Mv} {z : Mv} {g o c : Nat} {w : World} (h1 : qs.length < 2) (h3 : ms.length = qs.length) (hG : ∀ (i : Nat) (q : Mq) (m : Mv), qs[i]? = some q → ms[i]? = some m → Gm w q m C) (hz : Gm w .one z C) (hg : g < w.heap.size) (hat : AtB w g o (ms.flatMap mcs)) (hc : qs.length ≤ c) :
  Calls Tryz.prog 74 #[.slice (some ⟨g, o, none⟩) qs.length c, mv z, .func (.func 76) #[] #[]] w (GMx w (chainM qs) C) := by
 rcases qs with _ | ⟨q, _ | ⟨q2, r⟩⟩
 ·exact b_tog0 hz
 ·rcases ms with _ | ⟨m, _ | ⟨m2, r⟩⟩
  ·simp at h3
  ·rw [chainM_one]
   rw [List.flatMap_cons, List.flatMap_nil, List.append_nil] at hat
   exact b_tog1 (hG 0 q m rfl rfl) hg hat hc
  ·simp at h3
 ·exfalso; simp only [List.length_cons] at h1; omega
theorem b_togH {C : Nat} {qs : List Mq} {ms : List Mv} {k _i : Nat} {w W : World} (hG : ∀ (i : Nat) (q : Mq) (m : Mv), qs[i]? = some q → ms[i]? = some m → Gm w q m C) (hb : Below w.heap.size w W) : (∀ (i : Nat) (q : Mq) (m : Mv), (qs.take k)[i]? = some q → (ms.take k)[i]? = some m → Gm W q m C) ∧ ∀ (i : Nat) (q : Mq) (m : Mv), (qs.drop k)[i]? = some q → (ms.drop k)[i]? = some m → Gm W q m C := by
 refine ⟨fun i q m hq hm => ?_, fun i q m hq hm => ?_⟩
 ·rw [List.getElem?_take] at hq hm
  by_cases hi : i < k
  ·rw [if_pos hi] at hq hm; exact (hG i q m hq hm).kp (Kept.of hb)
  ·rw [if_neg hi] at hq; cases hq
 ·rw [List.getElem?_drop] at hq hm
  exact (hG (k + i) q m hq hm).kp (Kept.of hb)
set_option maxHeartbeats 400000 in
theorem b_tog {C : Nat} (d : Nat) : ∀ {qs : List Mq} {ms : List Mv} {z : Mv} {g o c : Nat} {w : World}, qs.length ≤ 2 ^ d → qs.length ≤ 4096 → ms.length = qs.length → (∀ (i : Nat) (q : Mq) (m : Mv), qs[i]? = some q → ms[i]? = some m → Gm w q m C) → Gm w .one z C → g < w.heap.size → AtB w g o (ms.flatMap mcs) → qs.length ≤ c → c ≤ 9223372036854775807 → 2 * grow d C + 2 ≤ 1759218604390 →
  Calls Tryz.prog 74 #[.slice (some ⟨g, o, none⟩) qs.length c, mv z, .func (.func 76) #[] #[]] w (GMx w (chainM qs) (grow d C)) := by
 induction d with
 | zero =>
  intro qs ms z g o c w h1 h2 h3 hG hz hg hat hc hc2 hC
  exact b_togS (by rw [Nat.pow_zero] at h1; omega) h3 hG hz hg hat hc
 | succ d ih =>
  intro qs ms z g o c w h1 h2 h3 hG hz hg hat hc hc2 hC
  have hgr : grow (d + 1) C = 4 * grow d C + 8 := rfl
  by_cases hn : qs.length < 2
  ·refine (b_togS hn h3 hG hz hg hat hc).mono ?_
   rintro _ w1 ⟨f, rfl, h, hb⟩
   exact ⟨f, rfl, h.mono (grow_ge _ _), hb⟩
  ·have hp : 2 ^ (d + 1) = 2 * 2 ^ d := by rw [Nat.pow_succ]; omega
   have hsp : chainM qs = (chainM (qs.drop (qs.length / 2))).mul (chainM (qs.take (qs.length / 2))) := by rw [← chainM_app, List.take_append_drop]
   have hms : (ms.take (qs.length / 2) ++ ms.drop (qs.length / 2)).flatMap mcs = ms.flatMap mcs := by rw [List.take_append_drop]
   rw [← hms] at hat
   obtain ⟨ha1, ha2⟩ := hat.split
   have hlk : (ms.take (qs.length / 2)).length = qs.length / 2 := by rw [List.length_take]; omega
   rw [hlk] at ha2
   rw [hsp, hgr]
   have e1 : (qs.take (qs.length / 2)).length = qs.length / 2 := by rw [List.length_take]; omega
   have e2 : (qs.drop (qs.length / 2)).length = qs.length - qs.length / 2 := List.length_drop
   rw [hgr] at hC
   clear hsp hms hat hlk hgr
   refine b_tog2 (n := qs.length) (by omega) h2 hc hc2 (by omega) (fun W hb => ?_) (fun W hb => ?_)
   ·have hi := ih (qs := qs.take (qs.length / 2)) (c := c) (by omega) (by omega) (by rw [List.length_take, List.length_take, h3]) (b_togH (_i := 0) hG hb).1 (hz.kp (Kept.of hb)) (Nat.lt_of_lt_of_le hg hb.size) (ha1.on hg hb) (by omega) hc2 (by omega)
    rw [e1] at hi
    exact hi
   ·have hi := ih (qs := qs.drop (qs.length / 2)) (c := c - qs.length / 2) (by omega) (by omega) (by rw [List.length_drop, List.length_drop, h3]) (b_togH (_i := 0) hG hb).2 (hz.kp (Kept.of hb)) (Nat.lt_of_lt_of_le hg hb.size) (ha2.on hg hb) (by omega) (by omega) (by omega)
    rw [e2] at hi
    exact hi
end Go.Proofs.YtjamfkafgfpobaaGreat
