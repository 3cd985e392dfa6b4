/-
  What a matrix costs. Conditions: as each theorem states.
-/
import Derived.Test.YtjamfkafgfpobaaGreatBea
import Derived.Deep.RegionHeld3
import Derived.Deep.DeepCutAuto
import Derived.BigRegion
namespace Go.Proofs.YtjamfkafgfpobaaGreat
open Go.RowKit Nb
def adjs : List Int → Bool
 | x :: y :: r => decide (x ≠ y) && adjs (y :: r)
 | _ => true
theorem adj_rows0 {q : Mq} (hb : 0 < q.b) : adjs ((flt (rows0 q)).map (·.1)) = true := by
 have h0 : ¬ q.b = 0 := by grind
 unfold rows0 flt
 by_cases h1 : (1 - q.a) / q.b = 0 <;> by_cases h2 : (1 - q.d) / q.b = 0 <;> simp [zemp, h0, h1, h2, adjs]
theorem adj_cons {k : Int} {l : List Int} (h : adjs l = true) (hk : ∀ y, l[0]? = some y → k ≠ y) : adjs (k :: l) = true := by
 cases l with
 | nil => rfl
 | cons y r =>
  have h2 := hk y rfl
  simp [adjs, h2, h]
theorem head_rows0 {q : Mq} (hb : 0 < q.b) (ha : q.a ≠ 1) : ((flt (rows0 q)).map (·.1))[0]? = some 2 := by
 have h1 : ¬ (1 - q.a) / q.b = 0 := fun e => by
  have h3 := Rat.div_mul_cancel (a := 1 - q.a) (b := q.b) (by grind)
  rw [e] at h3
  grind
 unfold rows0 flt
 simp [List.filter_cons, zemp, h1]
theorem kinds_rows0 {q : Mq} : ∀ y, ((flt (rows0 q)).map (·.1))[0]? = some y → (5 : Int) ≠ y := fun y h => by
 have h1 := List.mem_of_getElem? h
 obtain ⟨z, hz, rfl⟩ := List.mem_map.1 h1
 have h2 := (List.mem_filter.1 hz).1
 simp only [rows0, List.mem_cons, List.not_mem_nil, or_false] at h2
 rcases h2 with rfl | rfl | rfl <;> simp
theorem flt_cons {z : Int × Rat} {l : List (Int × Rat)} (h : zemp z = false) : flt (z :: l) = z :: flt l := by
 unfold flt
 rw [List.filter_cons_of_pos (by simp [h])]
theorem adj_partsQ {q : Mq} (ha : q.b = 0 → q.a ≠ 0) : adjs ((flt (partsQ q)).map (·.1)) = true := by
 have hi : ((1 : Int) : Rat) = 1 := by first | rfl | simp
 have e5 : ∀ p : Rat, zemp (5, p) = false := fun p => by simp [zemp]
 have e1 : zemp (1, (1 : Rat)) = false := by simp [zemp]
 unfold partsQ
 rw [hi]
 split
 · rename_i h; exact adj_rows0 h
 split
 · rename_i h
   rw [flt_cons (e5 _), List.map_cons]
   exact adj_cons (adj_rows0 (by show 0 < -q.b; grind)) kinds_rows0
 split
 · unfold flt
   by_cases h : -q.c = 0 <;> simp [List.filter_cons, zemp]
   all_goals split <;> simp [adjs]
 split
 · rw [flt_cons (e5 _)]
   unfold flt
   simp only [List.filter_cons, List.filter_nil]
   split <;> simp [adjs]
 split
 · rename_i h3 h4 h5 h6 h7
   have hb : 0 < (q.mul (Mq.space (-1))).b := by simp only [Mq.mul, Mq.space]; grind
   have hh := head_rows0 hb (by simp only [Mq.mul, Mq.space]; grind)
   rw [flt_cons e1, List.map_cons]
   exact adj_cons (adj_rows0 hb) (fun y hy => by rw [hh] at hy; cases hy; decide)
 · rename_i h3 h4 h5 h6 h7
   have hb : 0 < (q.neg.mul (Mq.space (-1))).b := by simp only [Mq.mul, Mq.space, Mq.neg]; grind
   have hh := head_rows0 hb (by simp only [Mq.mul, Mq.space, Mq.neg]; grind)
   rw [flt_cons (e5 _), flt_cons e1, List.map_cons, List.map_cons]
   exact adj_cons (adj_cons (adj_rows0 hb) (fun y hy => by rw [hh] at hy; cases hy; decide)) (fun y hy => by cases hy; decide)
theorem flt_chain {q : Mq} (hd : q.det = 1) : chainM ((flt (partsQ q)).map zmat) = q := by
 unfold flt
 rw [chain_filt _ zkind_partsQ, chain_partsQ hd]
theorem flt_len {q : Mq} : (flt (partsQ q)).length ≤ 5 := Nat.le_trans (List.length_filter_le _ _) len_partsQ
end Go.Proofs.YtjamfkafgfpobaaGreat
namespace Go.Proofs.YtjamfkafgfpobaaGreat
open Go.RowKit Nb
set_option maxHeartbeats 16000000 in
set_option maxRecDepth 100000 in
theorem p_Parts1 {m : Mv} {w : World} (X : Xm w m) (h : ∀ W, Below w.heap.size w W → ¬ MayM W m) :
    Calls Tryz.prog 32 #[mv m] w (fun e w' => e = .returned (.tuple #[.slice none 0 0, .int .i64 1]) ∧ Below w.heap.size w w') := by
 have HN := Lib.hid h
 have HX := Lib.hid X
 clear X h
 have BW : Below w.heap.size w w := Below.refl _ _
 obtain ⟨V1, e2, hb3, K4, -, -⟩ := alloc_new w [.bool m.A.n, .slice m.A.A m.A.xs.length m.A.c, .bool m.A.m, .slice m.A.B m.A.ds.length m.A.d, .bool m.B.n, .slice m.B.A m.B.xs.length m.B.c, .bool m.B.m, .slice m.B.B m.B.ds.length m.B.d, .bool m.C.n, .slice m.C.A m.C.xs.length m.C.c, .bool m.C.m, .slice m.C.B m.C.ds.length m.C.d, .bool m.D.n, .slice m.D.A m.D.xs.length m.D.c, .bool m.D.m, .slice m.D.B m.D.ds.length m.D.d] 31
 replace K4 : Box V1 (w.heap.size) (mcs m) := K4
 replace BW := BW.trans (hb3.mono BW.size)
 clear hb3
 go_enter Tryz.func32, Tryz.ntmps32
 go_upto_region 1 with fail
 rw [← e2]
 clear e2
 have c5 : Box V1 (w.heap.size) [.bool m.A.n, .slice m.A.A m.A.xs.length m.A.c, .bool m.A.m, .slice m.A.B m.A.ds.length m.A.d, .bool m.B.n, .slice m.B.A m.B.xs.length m.B.c, .bool m.B.m, .slice m.B.B m.B.ds.length m.B.d, .bool m.C.n, .slice m.C.A m.C.xs.length m.C.c, .bool m.C.m, .slice m.C.B m.C.ds.length m.C.d, .bool m.D.n, .slice m.D.A m.D.xs.length m.D.c, .bool m.D.m, .slice m.D.B m.D.ds.length m.D.d] := K4
 go_wp2_with (first | (refine wpList_ldM (by rfl) (by rfl) (by rfl) c5 (by rfl) ?_))
 clear c5
 have HBW := Lib.hid BW
 refine (y_check1 (HX.out.kp (Kept.of HBW.out)) (HN.out _ HBW.out)).mono ?_
 rintro _ w6 ⟨rfl, hb⟩
 replace BW := BW.trans (hb.mono BW.size)
 clear hb
 go_wp2_with fail
 exact bodyPost_ret (v := .tuple #[.slice none 0 0, .int .i64 1]) (by simp [results, Tryz.results32, go_sem]) rfl ⟨rfl, BW⟩
end Go.Proofs.YtjamfkafgfpobaaGreat
namespace Go.Proofs.YtjamfkafgfpobaaGreat
open Go.RowKit Nb
theorem xmA {W : World} {m : Mv} (h : Xm W m) : Fx W m.A := h.1
theorem xmB {W : World} {m : Mv} (h : Xm W m) : Fx W m.B := h.2.1
theorem xmC {W : World} {m : Mv} (h : Xm W m) : Fx W m.C := h.2.2.1
theorem xmD {W : World} {m : Mv} (h : Xm W m) : Fx W m.D := h.2.2.2
set_option maxHeartbeats 16000000 in
set_option maxRecDepth 100000 in
theorem c_matrix {m : Mv} {w : World} (X : Xm w m) :
    Calls Tryz.prog 31 #[mv m] w (IW w) := by
 have BW : Below w.heap.size w w := Below.refl _ _
 obtain ⟨V1, e2, hb3, K4, Z5, -⟩ := alloc_new w [.bool m.A.n, .slice m.A.A m.A.xs.length m.A.c, .bool m.A.m, .slice m.A.B m.A.ds.length m.A.d, .bool m.B.n, .slice m.B.A m.B.xs.length m.B.c, .bool m.B.m, .slice m.B.B m.B.ds.length m.B.d, .bool m.C.n, .slice m.C.A m.C.xs.length m.C.c, .bool m.C.m, .slice m.C.B m.C.ds.length m.C.d, .bool m.D.n, .slice m.D.A m.D.xs.length m.D.c, .bool m.D.m, .slice m.D.B m.D.ds.length m.D.d] 31
 replace K4 : Box V1 (w.heap.size) (mcs m) := K4
 have g6 : w.heap.size ≤ w.heap.size := BW.size
 replace X := X.kp (Kept.of hb3)
 replace BW := BW.trans (hb3.mono BW.size)
 clear hb3
 go_enter Tryz.func31, Tryz.ntmps31
 go_wp2_with fail
 rw [← e2]
 clear e2
 refine wp_region_noPanic ?_
 have hb : Below V1.heap.size V1 V1.drew := (Below.refl _ _).drew
 replace K4 := K4.on hb
 replace X := X.kp (Kept.of hb)
 replace BW := BW.trans (hb.mono BW.size)
 clear hb
 refine wp_region_held_drew (S := (fun wx => Cs wx (w.heap.size) 0 [.bool m.A.n, .slice m.A.A m.A.xs.length m.A.c, .bool m.A.m, .slice m.A.B m.A.ds.length m.A.d, .bool m.B.n, .slice m.B.A m.B.xs.length m.B.c, .bool m.B.m, .slice m.B.B m.B.ds.length m.B.d, .bool m.C.n, .slice m.C.A m.C.xs.length m.C.c, .bool m.C.m, .slice m.C.B m.C.ds.length m.C.d, .bool m.D.n, .slice m.D.A m.D.xs.length m.D.c, .bool m.D.m, .slice m.D.B m.D.ds.length m.D.d])) (by kernel_rfl) (by exact K4.cs) (fun hHeld => ?_)
 generalize V1.drew = Vd7 at *
 refine pT 0 ?_
 (try simp only [p0, p1, p2, p3])
 refine pT 1 ?_
 (try simp only [p0, p1, p2, p3])
 refine pT 3 ?_
 (try simp only [p0, p1, p2, p3])
 refine pT 4 ?_
 (try simp only [p0, p1, p2, p3])
 refine pT 7 ?_
 (try simp only [p0, p1, p2, p3])
 refine pT 8 ?_
 (try simp only [p0, p1, p2, p3])
 refine pT 11 ?_
 (try simp only [p0, p1, p2, p3])
 refine pT 12 ?_
 (try simp only [p0, p1, p2, p3])
 refine pR1 2 (fun K hK => ?_)
 go_simp
 (go_at_call 47; with_reducible refine (c_frac (xmA X)).mono ?_)
 rintro _ w8 ⟨n0, rfl, hb⟩
 (try go_wp2_with fail)
 replace K4 := K4.on hb
 replace X := X.kp (Kept.of hb)
 replace BW := BW.trans (hb.mono BW.size)
 clear hb
 clear hHeld
 refine hK.out _ _ (by exact K4.cs) (fun hHeld => ?_)
 clear hK
 (try simp only [p0, p1, p2, p3])
 refine pR1 5 (fun K hK => ?_)
 go_simp
 (go_at_call 47; with_reducible refine (c_frac (xmB X)).mono ?_)
 rintro _ w9 ⟨n1, rfl, hb⟩
 (try go_wp2_with fail)
 replace K4 := K4.on hb
 replace X := X.kp (Kept.of hb)
 replace BW := BW.trans (hb.mono BW.size)
 clear hb
 clear hHeld
 refine hK.out _ _ (by exact K4.cs) (fun hHeld => ?_)
 clear hK
 (try simp only [p0, p1, p2, p3])
 refine pT 6 ?_
 (try simp only [p0, p1, p2, p3])
 refine pR1 9 (fun K hK => ?_)
 go_simp
 (go_at_call 47; with_reducible refine (c_frac (xmC X)).mono ?_)
 rintro _ w10 ⟨n2, rfl, hb⟩
 (try go_wp2_with fail)
 replace K4 := K4.on hb
 replace X := X.kp (Kept.of hb)
 replace BW := BW.trans (hb.mono BW.size)
 clear hb
 clear hHeld
 refine hK.out _ _ (by exact K4.cs) (fun hHeld => ?_)
 clear hK
 (try simp only [p0, p1, p2, p3])
 refine pT 10 ?_
 (try simp only [p0, p1, p2, p3])
 refine pR1 13 (fun K hK => ?_)
 go_simp
 (go_at_call 47; with_reducible refine (c_frac (xmD X)).mono ?_)
 rintro _ w11 ⟨n3, rfl, hb⟩
 (try go_wp2_with fail)
 replace K4 := K4.on hb
 replace BW := BW.trans (hb.mono BW.size)
 clear hb
 clear hHeld
 refine hK.out _ _ (by exact K4.cs) (fun hHeld => ?_)
 clear hK
 (try simp only [p0, p1, p2, p3])
 refine pT 14 ?_
 (try simp only [p0, p1, p2, p3])
 refine pT 15 ?_
 (try simp only [p0, p1, p2, p3])
 refine wpAnyH_done (by kernel_rfl) (NoPanic.normal ?_) _
 go_wp2
 go_ret
 exact ⟨_, rfl, BW⟩
end Go.Proofs.YtjamfkafgfpobaaGreat
