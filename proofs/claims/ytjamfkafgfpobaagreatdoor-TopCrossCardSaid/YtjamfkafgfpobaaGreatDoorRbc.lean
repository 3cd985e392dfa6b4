/-
  What undoes a matrix; what two rays keep. Conditions: as each theorem states.
-/
import Derived.Test.YtjamfkafgfpobaaGreatDoorRgt
import Derived.Test.YtjamfkafgfpobaaGreatDoorRlb
import Derived.Test.YtjamfkafgfpobaaGreatDoorRsy
import Derived.Deep.RegionHeld3
import Derived.Deep.DeepCutAuto
import Derived.BigRegion
namespace Go.Proofs.YtjamfkafgfpobaaGreatDoor
open Go.RowKit Nb
def Mq.back (m : Mq) : Mq := ⟨m.d, -m.b, -m.c, m.a⟩
end Go.Proofs.YtjamfkafgfpobaaGreatDoor
namespace Go.Proofs.YtjamfkafgfpobaaGreatDoor
open Go.RowKit Nb
def Yq.cross (r s : Yq) : Rat := r.y * s.u - s.y * r.u
end Go.Proofs.YtjamfkafgfpobaaGreatDoor
namespace Go.Proofs.YtjamfkafgfpobaaGreatDoor
open Go.RowKit Nb
section
variable {m n o : Mq} {r s : Yq}
theorem Mq.det_back (h : m.det = 1) : m.back.det = 1 := by simp only [Mq.back, Mq.det] at *; grind
end
end Go.Proofs.YtjamfkafgfpobaaGreatDoor
namespace Go.Proofs.YtjamfkafgfpobaaGreatDoor
open Go.RowKit Nb
section
variable {m n o : Mq} {r s : Yq}
theorem Mq.mul_back (h : m.det = 1) : m.mul m.back = Mq.one := by
 simp only [Mq.det] at h
 apply Mq.ext4 <;> simp only [Mq.mul, Mq.back, Mq.one] <;> grind
end
end Go.Proofs.YtjamfkafgfpobaaGreatDoor
namespace Go.Proofs.YtjamfkafgfpobaaGreatDoor
open Go.RowKit Nb
section
variable {m n o : Mq} {r s : Yq}
theorem Mq.cross_thr (h : m.det = 1) : (m.thr r).cross (m.thr s) = r.cross s := by
 simp only [Mq.det, Mq.thr, Yq.cross] at *; grind
end
end Go.Proofs.YtjamfkafgfpobaaGreatDoor
namespace Go.Proofs.YtjamfkafgfpobaaGreatDoor
open Go.RowKit Nb
section
variable {m n o : Mq} {r s : Yq}
theorem Mq.thr_two : (n.mul m).thr r = n.thr (m.thr r) := by
 apply Yq.ext2 <;> simp only [Mq.mul, Mq.thr] <;> grind
end
end Go.Proofs.YtjamfkafgfpobaaGreatDoor
namespace Go.Proofs.YtjamfkafgfpobaaGreatDoor
open Go.RowKit Nb
section
variable {m n o : Mq} {r s : Yq}
theorem Mq.thr_back (h : m.det = 1) : m.back.thr (m.thr r) = r := by
 simp only [Mq.det] at h
 apply Yq.ext2 <;> simp only [Mq.back, Mq.thr] <;> grind
end
end Go.Proofs.YtjamfkafgfpobaaGreatDoor
namespace Go.Proofs.YtjamfkafgfpobaaGreatDoor
open Go.RowKit Nb
theorem fis_one {W : World} {z : Rat} {f : Fv} {e1 : Int} (h1 : PutIs W z f 0 e1) : FIs W z f e1 := by
 by_cases he : e1 = 0
 ·obtain ⟨k0, f1, g1⟩ := h1.zero he
  exact .inl ⟨he, f1, g1⟩
 ·obtain ⟨k2, n2⟩ := h1.four he (.inl rfl)
  rcases n2 with n2 | n2
  ·cases n2
  ·exact .inr ⟨k2, n2⟩
end Go.Proofs.YtjamfkafgfpobaaGreatDoor
namespace Go.Proofs.YtjamfkafgfpobaaGreatDoor
open Go.RowKit Nb
set_option maxHeartbeats 8000000 in
set_option maxRecDepth 20000 in
theorem y_putF {q p s t : Rat} {a b c d : Fv} {w : World} (La : Ff w q a) (Lb : Ff w p b) (Lc : Ff w s c) (Ld : Ff w t d) {g : Nat} {e0 : Int} (Kg : Box w g [.int .i64 e0]) (Zg : Fz w g) :
    Calls Tryz.prog 79 #[fv a, fv b, fv c, fv d, .pointer (some ⟨g, 0, none⟩)] w (fun e w' => ∃ (f : Fv) (e1 : Int), e = .returned (fv f) ∧ PutIs w' (q * p + s * t) f e0 e1 ∧ Box w' g [.int .i64 e1] ∧ Fz w' g ∧ But g w w') := by
 have hg0 := Kg.lt
 have BW : But g w w := But.refl _ _
 obtain ⟨V2, e3, hb4, K5, -, z1⟩ := alloc_new w [.bool a.n, .slice a.A a.xs.length a.c, .bool a.m, .slice a.B a.ds.length a.d] 27
 have n6 : g ≠ w.heap.size := Nat.ne_of_lt (Kg.lt)
 replace Kg := Kg.on hb4
 replace Zg := Zg.on hb4
 replace La := La.kp (Kept.of hb4)
 replace Lb := Lb.kp (Kept.of hb4)
 replace Lc := Lc.kp (Kept.of hb4)
 replace Ld := Ld.kp (Kept.of hb4)
 replace BW := BW.go hg0 hb4
 clear hb4
 obtain ⟨V8, e9, hb10, K11, -, z7⟩ := alloc_new V2 [.bool b.n, .slice b.A b.xs.length b.c, .bool b.m, .slice b.B b.ds.length b.d] 27
 rw [z1] at K11 z7
 have n12 : g ≠ w.heap.size + 1 := Nat.ne_of_lt (z1 ▸ Kg.lt)
 replace Kg := Kg.on hb10
 replace K5 := K5.on hb10
 replace Zg := Zg.on hb10
 replace La := La.kp (Kept.of hb10)
 replace Lb := Lb.kp (Kept.of hb10)
 replace Lc := Lc.kp (Kept.of hb10)
 replace Ld := Ld.kp (Kept.of hb10)
 replace BW := BW.go hg0 hb10
 clear hb10
 obtain ⟨V14, e15, hb16, K17, -, z13⟩ := alloc_new V8 [.bool c.n, .slice c.A c.xs.length c.c, .bool c.m, .slice c.B c.ds.length c.d] 27
 rw [z7] at K17 z13
 have n18 : g ≠ w.heap.size + 1 + 1 := Nat.ne_of_lt (z7 ▸ Kg.lt)
 replace Kg := Kg.on hb16
 replace K5 := K5.on hb16
 replace K11 := K11.on hb16
 replace Zg := Zg.on hb16
 replace La := La.kp (Kept.of hb16)
 replace Lb := Lb.kp (Kept.of hb16)
 replace Lc := Lc.kp (Kept.of hb16)
 replace Ld := Ld.kp (Kept.of hb16)
 replace BW := BW.go hg0 hb16
 clear hb16
 obtain ⟨V20, e21, hb22, K23, -, z19⟩ := alloc_new V14 [.bool d.n, .slice d.A d.xs.length d.c, .bool d.m, .slice d.B d.ds.length d.d] 27
 rw [z13] at K23 z19
 have n24 : g ≠ w.heap.size + 1 + 1 + 1 := Nat.ne_of_lt (z13 ▸ Kg.lt)
 replace Kg := Kg.on hb22
 replace K5 := K5.on hb22
 replace K11 := K11.on hb22
 replace K17 := K17.on hb22
 replace Zg := Zg.on hb22
 replace La := La.kp (Kept.of hb22)
 replace Lb := Lb.kp (Kept.of hb22)
 replace Lc := Lc.kp (Kept.of hb22)
 replace Ld := Ld.kp (Kept.of hb22)
 replace BW := BW.go hg0 hb22
 clear hb22
 obtain ⟨V25, e26, hb27, K28, Z29, -⟩ := alloc_new V20 [.bool false, .slice none 0 0, .bool false, .slice none 0 0] 27
 rw [z19] at K28 Z29
 have n30 : g ≠ w.heap.size + 1 + 1 + 1 + 1 := Nat.ne_of_lt (z19 ▸ Kg.lt)
 have n31 : w.heap.size ≠ w.heap.size + 1 + 1 + 1 + 1 := Nat.ne_of_lt (z19 ▸ K5.lt)
 have n32 : w.heap.size + 1 ≠ w.heap.size + 1 + 1 + 1 + 1 := Nat.ne_of_lt (z19 ▸ K11.lt)
 have n33 : w.heap.size + 1 + 1 ≠ w.heap.size + 1 + 1 + 1 + 1 := Nat.ne_of_lt (z19 ▸ K17.lt)
 have n34 : w.heap.size + 1 + 1 + 1 ≠ w.heap.size + 1 + 1 + 1 + 1 := Nat.ne_of_lt (z19 ▸ K23.lt)
 have g35 : w.heap.size ≤ w.heap.size + 1 + 1 + 1 + 1 := z19 ▸ BW.size
 replace Kg := Kg.on hb27
 replace K5 := K5.on hb27
 replace K11 := K11.on hb27
 replace K17 := K17.on hb27
 replace K23 := K23.on hb27
 replace Zg := Zg.on hb27
 replace La := La.kp (Kept.of hb27)
 replace Lb := Lb.kp (Kept.of hb27)
 replace Lc := Lc.kp (Kept.of hb27)
 replace Ld := Ld.kp (Kept.of hb27)
 replace BW := BW.go hg0 hb27
 clear hb27
 clear z1 z7 z13 z19
 go_enter Tryz.func79, Tryz.ntmps79
 go_wp2_with fail
 rw [← e3, ← e9, ← e15, ← e21, ← e26]
 clear e3 e9 e15 e21 e26
 refine (y_sum La Lb Lc Ld).mono ?_
 rintro _ w36 ⟨f1, rfl, h1, hb⟩
 replace Kg := Kg.on hb
 replace K5 := K5.on hb
 replace K11 := K11.on hb
 replace K17 := K17.on hb
 replace K23 := K23.on hb
 replace K28 := K28.on hb
 replace Zg := Zg.on hb
 replace Z29 := Z29.on hb
 replace BW := BW.go hg0 hb
 clear hb
 go_wp2_with fail
 refine (q_fit h1 (by decide)).mono ?_
 rintro _ w37 ⟨f2, er, rfl, h2, hb⟩
 replace Kg := Kg.on hb
 replace K5 := K5.on hb
 replace K11 := K11.on hb
 replace K17 := K17.on hb
 replace K23 := K23.on hb
 replace K28 := K28.on hb
 replace Zg := Zg.on hb
 replace Z29 := Z29.on hb
 replace BW := BW.go hg0 hb
 clear hb
 obtain ⟨V39, e40, hb41, K42, Z43, z38⟩ := alloc_new w37 [.bool f2.n, .slice f2.A f2.xs.length f2.c, .bool f2.m, .slice f2.B f2.ds.length f2.d] 27
 have n44 : g ≠ w37.heap.size := Nat.ne_of_lt (Kg.lt)
 have n45 : w.heap.size ≠ w37.heap.size := Nat.ne_of_lt (K5.lt)
 have n46 : w.heap.size + 1 ≠ w37.heap.size := Nat.ne_of_lt (K11.lt)
 have n47 : w.heap.size + 1 + 1 ≠ w37.heap.size := Nat.ne_of_lt (K17.lt)
 have n48 : w.heap.size + 1 + 1 + 1 ≠ w37.heap.size := Nat.ne_of_lt (K23.lt)
 have n49 : w.heap.size + 1 + 1 + 1 + 1 ≠ w37.heap.size := Nat.ne_of_lt (K28.lt)
 have g50 : w.heap.size ≤ w37.heap.size := BW.size
 replace Kg := Kg.on hb41
 replace K5 := K5.on hb41
 replace K11 := K11.on hb41
 replace K17 := K17.on hb41
 replace K23 := K23.on hb41
 replace K28 := K28.on hb41
 replace Zg := Zg.on hb41
 replace Z29 := Z29.on hb41
 replace h2 := h2.kp (Kept.of hb41)
 replace BW := BW.go hg0 hb41
 clear hb41
 have c51 := Kg.c1
 rw [e40] at c51
 obtain ⟨V52, e53, hb54, K55, Z56, -⟩ := alloc_new V39 [.int .i64 e0, .int .i64 er] 38
 rw [z38] at K55 Z56
 have n57 : g ≠ w37.heap.size + 1 := Nat.ne_of_lt (z38 ▸ Kg.lt)
 have n58 : w.heap.size ≠ w37.heap.size + 1 := Nat.ne_of_lt (z38 ▸ K5.lt)
 have n59 : w.heap.size + 1 ≠ w37.heap.size + 1 := Nat.ne_of_lt (z38 ▸ K11.lt)
 have n60 : w.heap.size + 1 + 1 ≠ w37.heap.size + 1 := Nat.ne_of_lt (z38 ▸ K17.lt)
 have n61 : w.heap.size + 1 + 1 + 1 ≠ w37.heap.size + 1 := Nat.ne_of_lt (z38 ▸ K23.lt)
 have n62 : w.heap.size + 1 + 1 + 1 + 1 ≠ w37.heap.size + 1 := Nat.ne_of_lt (z38 ▸ K28.lt)
 have n63 : w37.heap.size ≠ w37.heap.size + 1 := Nat.ne_of_lt (z38 ▸ K42.lt)
 have g64 : w.heap.size ≤ w37.heap.size + 1 := z38 ▸ BW.size
 replace Kg := Kg.on hb54
 replace K28 := K28.on hb54
 replace K42 := K42.on hb54
 replace Zg := Zg.on hb54
 replace Z29 := Z29.on hb54
 replace h2 := h2.kp (Kept.of hb54)
 replace BW := BW.go hg0 hb54
 clear hb54
 clear z38
 go_wp2_with fail
 clear c51
 rw [← e40, ← e53]
 clear e40 e53
 generalize w37.heap.size + 1 = b65 at *
 generalize w37.heap.size = b66 at *
 refine (cor_two K55).mono ?_
 rintro _ w67 ⟨rfl, hb⟩
 replace Kg := Kg.on hb
 replace K28 := K28.on hb
 replace K42 := K42.on hb
 replace Zg := Zg.on hb
 replace Z29 := Z29.on hb
 replace h2 := h2.kp (Kept.of hb)
 replace BW := BW.go hg0 hb
 clear hb
 obtain ⟨e1, he1⟩ : ∃ x, orE e0 er = x := ⟨_, rfl⟩
 rw [he1]
 have HE := Lib.hid he1
 clear he1
 have c68 := Kg.c1
 have c69 := Zg.f1
 obtain ⟨V70, hk72⟩ : ∃ V70, V70 = w67.setCells (g) 0 [.int .i64 e1] := ⟨_, rfl⟩
 have e71 := hk72
 simp only [World.setCells] at e71
 have hk73 := Kept.overE hk72 Kg rfl (by simp)
 replace Kg := Kg.overE hk72 rfl
 replace K28 := K28.awayE hk72 n30.symm
 replace K42 := K42.awayE hk72 n44.symm
 replace Zg := Zg.putE hk72
 replace Z29 := Z29.putE hk72
 replace h2 := h2.kp hk73
 replace BW := BW.own hk72 hk73
 clear hk72 hk73
 obtain ⟨c74, c75, c76, c77⟩ := K42.c4
 rw [e71] at c74 c75 c76 c77
 obtain ⟨c78, c79, c80, c81⟩ := K28.c4
 obtain ⟨c82, c83, c84, c85⟩ := Z29.f4
 rw [e71] at c78 c79 c80 c81 c82 c83 c84 c85
 obtain ⟨V86, hk88⟩ : ∃ V86, V86 = V70.setCells (w.heap.size + 1 + 1 + 1 + 1) 0 [.bool f2.n, .slice f2.A f2.xs.length f2.c, .bool f2.m, .slice f2.B f2.ds.length f2.d] := ⟨_, rfl⟩
 have e87 := hk88
 simp only [World.setCells, Nat.zero_add, Nat.reduceAdd] at e87
 have hk89 := Kept.overE hk88 K28 rfl (by simp)
 replace Kg := Kg.awayE hk88 n30
 replace K28 := K28.overE hk88 rfl
 replace Zg := Zg.putE hk88
 replace h2 := h2.kp hk89
 replace BW := BW.put hk88 hk89 g35 hg0
 clear hk88 hk89
 go_wp2_with fail
 clear c68 c69 c74 c75 c76 c77 c78 c79 c80 c81 c82 c83 c84 c85
 rw [← e71, ← e87]
 clear e71 e87
 obtain ⟨c90, c91, c92, c93⟩ := K28.c4
 exact bodyPost_ret (v := fv f2) (by simp [results, Tryz.results79, go_sem, c90, c91, c92, c93]) rfl ⟨f2, e1, rfl, put_of h2 HE.out, Kg, Zg, BW⟩
end Go.Proofs.YtjamfkafgfpobaaGreatDoor
namespace Go.Proofs.YtjamfkafgfpobaaGreatDoor
open Go.RowKit Nb
set_option maxHeartbeats 8000000 in
set_option maxRecDepth 20000 in
theorem y_doBack {q : Mq} {m : Mv} {g p1 : Nat} {w : World} (Fm1 : Fm w q m) (K1 : Box w p1 (mcs m)) (_n1 : p1 ≠ g) (Kg : Box w g [.int .i64 0]) (Zg : Fz w g) :
    Calls Tryz.prog 46 #[.func (.func 80) #[] #[.pointer (some ⟨g, 0, none⟩)], .pointer (some ⟨p1, 0, none⟩)] w (fun e w' => ∃ f : Mv, e = .returned (mv f) ∧ Fm w' q.back f ∧ Box w' g [.int .i64 0] ∧ Fz w' g ∧ But g w w') := by
 have hg0 := Kg.lt
 have BW : But g w w := But.refl _ _
 obtain ⟨V1, e2, hb3, K4, Z5, -⟩ := alloc_new w [.bool false, .slice none 0 0, .bool false, .slice none 0 0, .bool false, .slice none 0 0, .bool false, .slice none 0 0, .bool false, .slice none 0 0, .bool false, .slice none 0 0, .bool false, .slice none 0 0, .bool false, .slice none 0 0] 37
 replace K4 : Box V1 (w.heap.size) (zcs16) := K4
 have n6 : g ≠ w.heap.size := Nat.ne_of_lt (Kg.lt)
 have n7 : p1 ≠ w.heap.size := Nat.ne_of_lt (K1.lt)
 have g8 : w.heap.size ≤ w.heap.size := BW.size
 replace Kg := Kg.on hb3
 replace K1 := K1.on hb3
 replace Zg := Zg.on hb3
 replace Fm1 := Fm1.kp (Kept.of hb3)
 replace BW := BW.go hg0 hb3
 clear hb3
 go_enter Tryz.func46, Tryz.ntmps46
 go_wp2_with fail
 rw [← e2]
 clear e2
 refine wp_region_noPanic ?_
 have hb : Below V1.heap.size V1 V1.drew := (Below.refl _ _).drew
 replace Kg := Kg.on hb
 replace K1 := K1.on hb
 replace K4 := K4.on hb
 replace Zg := Zg.on hb
 replace Z5 := Z5.on hb
 replace Fm1 := Fm1.kp (Kept.of hb)
 replace BW := BW.go hg0 hb
 clear hb
 refine wp_region_held_drew (S := (fun wx => Cs wx (p1) 0 [.bool m.A.n, .slice m.A.A m.A.xs.length m.A.c, .bool m.A.m, .slice m.A.B m.A.ds.length m.A.d, .bool m.B.n, .slice m.B.A m.B.xs.length m.B.c, .bool m.B.m, .slice m.B.B m.B.ds.length m.B.d, .bool m.C.n, .slice m.C.A m.C.xs.length m.C.c, .bool m.C.m, .slice m.C.B m.C.ds.length m.C.d, .bool m.D.n, .slice m.D.A m.D.xs.length m.D.c, .bool m.D.m, .slice m.D.B m.D.ds.length m.D.d])) (by kernel_rfl) (by exact K1.cs) (fun hHeld => ?_)
 generalize V1.drew = Vd9 at *
 refine pT 0 ?_
 (try simp only [p0, p1, p2, p3])
 refine pT 1 ?_
 (try simp only [p0, p1, p2, p3])
 refine pT 3 ?_
 (try simp only [p0, p1, p2, p3])
 refine pT 4 ?_
 (try simp only [p0, p1, p2, p3])
 refine pT 6 ?_
 (try simp only [p0, p1, p2, p3])
 refine pT 7 ?_
 (try simp only [p0, p1, p2, p3])
 refine pT 9 ?_
 (try simp only [p0, p1, p2, p3])
 refine pT 10 ?_
 (try simp only [p0, p1, p2, p3])
 refine pR1 2 (fun K hK => ?_)
 go_simp
 (go_at_call 47; with_reducible refine (y_copied Fm1.fD).mono ?_)
 rintro _ w10 ⟨f1, rfl, h1, hb⟩
 (try go_wp2_with fail)
 replace Kg := Kg.on hb
 replace K1 := K1.on hb
 replace K4 := K4.on hb
 replace Zg := Zg.on hb
 replace Z5 := Z5.on hb
 replace Fm1 := Fm1.kp (Kept.of hb)
 replace BW := BW.go hg0 hb
 clear hb
 clear hHeld
 refine hK.out _ _ (by exact K1.cs) (fun hHeld => ?_)
 clear hK
 (try simp only [p0, p1, p2, p3])
 refine pR1 5 (fun K hK => ?_)
 go_simp
 (go_at_call 34; with_reducible refine (y_minus Fm1.fB).mono ?_)
 rintro _ w11 ⟨f2, rfl, h2, hb⟩
 (try go_wp2_with fail)
 replace Kg := Kg.on hb
 replace K1 := K1.on hb
 replace K4 := K4.on hb
 replace Zg := Zg.on hb
 replace Z5 := Z5.on hb
 replace Fm1 := Fm1.kp (Kept.of hb)
 replace h1 := h1.kp (Kept.of hb)
 replace BW := BW.go hg0 hb
 clear hb
 clear hHeld
 refine hK.out _ _ (by exact K1.cs) (fun hHeld => ?_)
 clear hK
 (try simp only [p0, p1, p2, p3])
 refine pR1 8 (fun K hK => ?_)
 go_simp
 (go_at_call 34; with_reducible refine (y_minus Fm1.fC).mono ?_)
 rintro _ w12 ⟨f3, rfl, h3, hb⟩
 (try go_wp2_with fail)
 replace Kg := Kg.on hb
 replace K1 := K1.on hb
 replace K4 := K4.on hb
 replace Zg := Zg.on hb
 replace Z5 := Z5.on hb
 replace Fm1 := Fm1.kp (Kept.of hb)
 replace h1 := h1.kp (Kept.of hb)
 replace h2 := h2.kp (Kept.of hb)
 replace BW := BW.go hg0 hb
 clear hb
 clear hHeld
 refine hK.out _ _ (by exact K1.cs) (fun hHeld => ?_)
 clear hK
 (try simp only [p0, p1, p2, p3])
 refine pR1 11 (fun K hK => ?_)
 go_simp
 (go_at_call 47; with_reducible refine (y_copied Fm1.fA).mono ?_)
 rintro _ w13 ⟨f4, rfl, h4, hb⟩
 (try go_wp2_with fail)
 replace Kg := Kg.on hb
 replace K1 := K1.on hb
 replace K4 := K4.on hb
 replace Zg := Zg.on hb
 replace Z5 := Z5.on hb
 replace h1 := h1.kp (Kept.of hb)
 replace h2 := h2.kp (Kept.of hb)
 replace h3 := h3.kp (Kept.of hb)
 replace BW := BW.go hg0 hb
 clear hb
 clear hHeld
 refine hK.out _ _ (by exact K1.cs) (fun hHeld => ?_)
 clear hK
 (try simp only [p0, p1, p2, p3])
 refine pT 12 ?_
 (try simp only [p0, p1, p2, p3])
 refine pR1 13 (fun K hK => ?_)
 refine ite_yes (by rfl) (wp_stM rfl rfl rfl K4 Z5 rfl rfl rfl ?_)
 obtain ⟨V14, hk16⟩ : ∃ V14, V14 = w13.setCells (w.heap.size) 0 [.bool f1.n, .slice f1.A f1.xs.length f1.c, .bool f1.m, .slice f1.B f1.ds.length f1.d, .bool f2.n, .slice f2.A f2.xs.length f2.c, .bool f2.m, .slice f2.B f2.ds.length f2.d, .bool f3.n, .slice f3.A f3.xs.length f3.c, .bool f3.m, .slice f3.B f3.ds.length f3.d, .bool f4.n, .slice f4.A f4.xs.length f4.c, .bool f4.m, .slice f4.B f4.ds.length f4.d] := ⟨_, rfl⟩
 have e15 := hk16
 have hk17 := Kept.overE hk16 K4 rfl (Nat.le_of_ble_eq_true rfl)
 replace Kg := Kg.awayE hk16 n6
 replace K1 := K1.awayE hk16 n7
 replace K4 := K4.overE hk16 rfl
 replace Zg := Zg.putE hk16
 replace h1 := h1.kp hk17
 replace h2 := h2.kp hk17
 replace h3 := h3.kp hk17
 replace h4 := h4.kp hk17
 replace BW := BW.put hk16 hk17 g8 hg0
 clear hk16 hk17
 rw [← e15]
 clear e15
 clear hHeld
 refine hK.out _ _ (by exact K1.cs) (fun hHeld => ?_)
 clear hK
 (try simp only [p0, p1, p2, p3])
 refine wpAnyH_done (by kernel_rfl) (NoPanic.normal ?_) _
 go_wp2
 obtain ⟨c18, c19, c20, c21, c22, c23, c24, c25, c26, c27, c28, c29, c30, c31, c32, c33⟩ := K4.c16
 exact bodyPost_ret (v := mv ⟨f1, f2, f3, f4⟩) (by simp [results, Tryz.results46, go_sem, c18, c19, c20, c21, c22, c23, c24, c25, c26, c27, c28, c29, c30, c31, c32, c33]) rfl ⟨⟨f1, f2, f3, f4⟩, rfl, ⟨h1, h2, h3, h4⟩, Kg, Zg, BW⟩
end Go.Proofs.YtjamfkafgfpobaaGreatDoor
namespace Go.Proofs.YtjamfkafgfpobaaGreatDoor
open Go.RowKit Nb
set_option maxHeartbeats 8000000 in
set_option maxRecDepth 20000 in
theorem y_doCross {r s : Yq} {y z : Yv} {g p1 p2 : Nat} {w : World} (Fy1 : Fy w r y) (Fz1 : Fy w s z) (K1 : Box w p1 (ycs y)) (K2 : Box w p2 (ycs z)) (n1 : p1 ≠ g) (n2 : p2 ≠ g) (Kg : Box w g [.int .i64 0]) (Zg : Fz w g) :
    Calls Tryz.prog 43 #[.func (.func 79) #[] #[.pointer (some ⟨g, 0, none⟩)], .pointer (some ⟨p1, 0, none⟩), .pointer (some ⟨p2, 0, none⟩)] w (fun e w' => ∃ (f : Fv) (e1 : Int), e = .returned (fv f) ∧ FIs w' (r.cross s) f e1 ∧ Box w' g [.int .i64 e1] ∧ Fz w' g ∧ But g w w') := by
 have hg0 := Kg.lt
 have BW : But g w w := But.refl _ _
 obtain ⟨V1, e2, hb3, K4, Z5, -⟩ := alloc_new w [.bool false, .slice none 0 0, .bool false, .slice none 0 0] 27
 have n6 : g ≠ w.heap.size := Nat.ne_of_lt (Kg.lt)
 have n7 : p1 ≠ w.heap.size := Nat.ne_of_lt (K1.lt)
 have n8 : p2 ≠ w.heap.size := Nat.ne_of_lt (K2.lt)
 have g9 : w.heap.size ≤ w.heap.size := BW.size
 replace Kg := Kg.on hb3
 replace K1 := K1.on hb3
 replace K2 := K2.on hb3
 replace Zg := Zg.on hb3
 replace Fy1 := Fy1.kp (Kept.of hb3)
 replace Fz1 := Fz1.kp (Kept.of hb3)
 replace BW := BW.go hg0 hb3
 clear hb3
 go_enter Tryz.func43, Tryz.ntmps43
 go_wp2_with fail
 rw [← e2]
 clear e2
 refine wp_region_noPanic ?_
 have hb : Below V1.heap.size V1 V1.drew := (Below.refl _ _).drew
 replace Kg := Kg.on hb
 replace K1 := K1.on hb
 replace K2 := K2.on hb
 replace K4 := K4.on hb
 replace Zg := Zg.on hb
 replace Z5 := Z5.on hb
 replace Fy1 := Fy1.kp (Kept.of hb)
 replace Fz1 := Fz1.kp (Kept.of hb)
 replace BW := BW.go hg0 hb
 clear hb
 refine wp_region_held_drew (S := (fun wx => Cs wx (p1) 0 [.bool y.Y.n, .slice y.Y.A y.Y.xs.length y.Y.c, .bool y.Y.m, .slice y.Y.B y.Y.ds.length y.Y.d, .bool y.U.n, .slice y.U.A y.U.xs.length y.U.c, .bool y.U.m, .slice y.U.B y.U.ds.length y.U.d] ∧ Cs wx (p2) 0 [.bool z.Y.n, .slice z.Y.A z.Y.xs.length z.Y.c, .bool z.Y.m, .slice z.Y.B z.Y.ds.length z.Y.d, .bool z.U.n, .slice z.U.A z.U.xs.length z.U.c, .bool z.U.m, .slice z.U.B z.U.ds.length z.U.d])) (by kernel_rfl) (by exact ⟨K1.cs, K2.cs⟩) (fun hHeld => ?_)
 generalize V1.drew = Vd10 at *
 refine pT 0 ?_
 (try simp only [p0, p1, p2, p3])
 refine pT 1 ?_
 (try simp only [p0, p1, p2, p3])
 refine pT 2 ?_
 (try simp only [p0, p1, p2, p3])
 refine pT 3 ?_
 (try simp only [p0, p1, p2, p3])
 refine pT 4 ?_
 (try simp only [p0, p1, p2, p3])
 refine pT 5 ?_
 (try simp only [p0, p1, p2, p3])
 refine pT 6 ?_
 (try simp only [p0, p1, p2, p3])
 refine pT 8 ?_
 (try simp only [p0, p1, p2, p3])
 refine pT 9 ?_
 (try simp only [p0, p1, p2, p3])
 refine pR1 7 (fun K hK => ?_)
 go_simp
 (go_at_call 34; with_reducible refine (y_minus Fz1.fY).mono ?_)
 rintro _ w11 ⟨f1, rfl, h1, hb⟩
 (try go_wp2_with fail)
 replace Kg := Kg.on hb
 replace K1 := K1.on hb
 replace K2 := K2.on hb
 replace K4 := K4.on hb
 replace Zg := Zg.on hb
 replace Z5 := Z5.on hb
 replace Fy1 := Fy1.kp (Kept.of hb)
 replace Fz1 := Fz1.kp (Kept.of hb)
 replace BW := BW.go hg0 hb
 clear hb
 clear hHeld
 refine hK.out _ _ (by exact ⟨K1.cs, K2.cs⟩) (fun hHeld => ?_)
 clear hK
 (try simp only [p0, p1, p2, p3])
 refine pR1 10 (fun K hK => ?_)
 go_simp
 (go_at_call 79; with_reducible refine (y_putF Fy1.fY Fz1.fU h1 Fy1.fU Kg Zg).mono ?_)
 rintro _ w12 ⟨f2, e2, rfl, h2, Kg2, Zg2, hb⟩
 (try go_wp2_with fail)
 clear Kg Zg
 replace K1 := hb.box n1 K1
 replace K2 := hb.box n2 K2
 replace K4 := hb.box n6.symm K4
 replace Z5 := hb.fz n6.symm Z5
 replace BW := BW.but hb
 clear hb
 clear hHeld
 refine hK.out _ _ (by exact ⟨K1.cs, K2.cs⟩) (fun hHeld => ?_)
 clear hK
 (try simp only [p0, p1, p2, p3])
 refine pR1 11 (fun K hK => ?_)
 obtain ⟨c13, c14, c15, c16⟩ := K4.c4
 obtain ⟨c17, c18, c19, c20⟩ := Z5.f4
 go_simp
 clear c13 c14 c15 c16 c17 c18 c19 c20
 obtain ⟨V21, hk23⟩ : ∃ V21, V21 = w12.setCells (w.heap.size) 0 [.bool f2.n, .slice f2.A f2.xs.length f2.c, .bool f2.m, .slice f2.B f2.ds.length f2.d] := ⟨_, rfl⟩
 have e22 := hk23
 simp only [World.setCells, Nat.zero_add, Nat.reduceAdd] at e22
 have hk24 := Kept.overE hk23 K4 rfl (Nat.le_of_ble_eq_true rfl)
 replace Kg2 := Kg2.awayE hk23 n6
 replace K1 := K1.awayE hk23 n7
 replace K2 := K2.awayE hk23 n8
 replace K4 := K4.overE hk23 rfl
 replace Zg2 := Zg2.putE hk23
 replace h2 := h2.kp hk24
 replace BW := BW.put hk23 hk24 g9 hg0
 clear hk23 hk24
 rw [← e22]
 clear e22
 clear hHeld
 refine hK.out _ _ (by exact ⟨K1.cs, K2.cs⟩) (fun hHeld => ?_)
 clear hK
 (try simp only [p0, p1, p2, p3])
 refine wpAnyH_done (by kernel_rfl) (NoPanic.normal ?_) _
 go_wp2
 obtain ⟨c25, c26, c27, c28⟩ := K4.c4
 exact bodyPost_ret (v := fv f2) (by simp [results, Tryz.results43, go_sem, c25, c26, c27, c28]) rfl ⟨f2, e2, rfl, fis_one (z := r.cross s) (by have h := h2; rwa [show r.y * s.u + -s.y * r.u = r.cross s from by unfold Yq.cross; grind] at h), Kg2, Zg2, BW⟩
end Go.Proofs.YtjamfkafgfpobaaGreatDoor
namespace Go.Proofs.YtjamfkafgfpobaaGreatDoor
open Go.RowKit Nb
set_option maxHeartbeats 8000000 in
set_option maxRecDepth 20000 in
theorem y_rkBack {q : Mq} {m : Mv} {p1 : Nat} {w : World} (Fm1 : Fm w q m) (K1 : Box w p1 (mcs m)) :
    Calls Tryz.prog 45 #[.int .i64 0, .func (.func 46) #[] #[.pointer (some ⟨p1, 0, none⟩)]] w (fun e w' => ∃ (f : Mv) (e1 : Int), e = .returned (.tuple #[mv f, .int .i64 e1]) ∧ (Fm w' q.back f ∧ e1 = 0) ∧ Below w.heap.size w w') := by
 have BW : Below w.heap.size w w := Below.refl _ _
 obtain ⟨V2, e3, hb4, K5, Z6, z1⟩ := alloc_new w [.int .i64 0] 38
 have n7 : p1 ≠ w.heap.size := Nat.ne_of_lt (K1.lt)
 have g8 : w.heap.size ≤ w.heap.size := BW.size
 replace K1 := K1.on hb4
 replace Fm1 := Fm1.kp (Kept.of hb4)
 replace BW := BW.trans (hb4.mono BW.size)
 clear hb4
 obtain ⟨V10, e11, hb12, K13, Z14, z9⟩ := alloc_new V2 [.bool false, .slice none 0 0, .bool false, .slice none 0 0, .bool false, .slice none 0 0, .bool false, .slice none 0 0, .bool false, .slice none 0 0, .bool false, .slice none 0 0, .bool false, .slice none 0 0, .bool false, .slice none 0 0] 37
 rw [z1] at K13 Z14 z9
 replace K13 : Box V10 (w.heap.size + 1) (zcs16) := K13
 have n15 : p1 ≠ w.heap.size + 1 := Nat.ne_of_lt (z1 ▸ K1.lt)
 have n16 : w.heap.size ≠ w.heap.size + 1 := Nat.ne_of_lt (z1 ▸ K5.lt)
 have g17 : w.heap.size ≤ w.heap.size + 1 := z1 ▸ BW.size
 replace K1 := K1.on hb12
 replace K5 := K5.on hb12
 replace Z6 := Z6.on hb12
 replace Fm1 := Fm1.kp (Kept.of hb12)
 replace BW := BW.trans (hb12.mono BW.size)
 clear hb12
 obtain ⟨V18, e19, hb20, K21, Z22, -⟩ := alloc_new V10 [.bool false, .slice none 0 0, .bool false, .slice none 0 0, .bool false, .slice none 0 0, .bool false, .slice none 0 0, .bool false, .slice none 0 0, .bool false, .slice none 0 0, .bool false, .slice none 0 0, .bool false, .slice none 0 0] 37
 rw [z9] at K21 Z22
 replace K21 : Box V18 (w.heap.size + 1 + 1) (zcs16) := K21
 have n23 : p1 ≠ w.heap.size + 1 + 1 := Nat.ne_of_lt (z9 ▸ K1.lt)
 have n24 : w.heap.size ≠ w.heap.size + 1 + 1 := Nat.ne_of_lt (z9 ▸ K5.lt)
 have n25 : w.heap.size + 1 ≠ w.heap.size + 1 + 1 := Nat.ne_of_lt (z9 ▸ K13.lt)
 have g26 : w.heap.size ≤ w.heap.size + 1 + 1 := z9 ▸ BW.size
 replace K1 := K1.on hb20
 replace K5 := K5.on hb20
 replace K13 := K13.on hb20
 replace Z6 := Z6.on hb20
 replace Z14 := Z14.on hb20
 replace Fm1 := Fm1.kp (Kept.of hb20)
 replace BW := BW.trans (hb20.mono BW.size)
 clear hb20
 clear z1 z9
 go_enter Tryz.func45, Tryz.ntmps45
 go_wp2_with fail
 rw [← e3, ← e11, ← e19]
 clear e3 e11 e19
 go_wp2_with fail
 refine (y_doBack Fm1 K1 n7 K5 Z6).mono ?_
 rintro _ w27 ⟨f, rfl, h, Kg, Zg, hb⟩
 replace K1 := hb.box n7 K1
 clear K5 Z6
 replace K13 := hb.box n16.symm K13
 replace Z14 := hb.fz n16.symm Z14
 replace K21 := hb.box n24.symm K21
 replace Z22 := hb.fz n24.symm Z22
 replace BW := BW.trans (hb.b.mono g8)
 clear hb
 obtain ⟨V28, e29, hb30, K31, Z32, -⟩ := alloc_new w27 [.bool f.A.n, .slice f.A.A f.A.xs.length f.A.c, .bool f.A.m, .slice f.A.B f.A.ds.length f.A.d, .bool f.B.n, .slice f.B.A f.B.xs.length f.B.c, .bool f.B.m, .slice f.B.B f.B.ds.length f.B.d, .bool f.C.n, .slice f.C.A f.C.xs.length f.C.c, .bool f.C.m, .slice f.C.B f.C.ds.length f.C.d, .bool f.D.n, .slice f.D.A f.D.xs.length f.D.c, .bool f.D.m, .slice f.D.B f.D.ds.length f.D.d] 37
 replace K31 : Box V28 (w27.heap.size) (mcs f) := K31
 have n33 : p1 ≠ w27.heap.size := Nat.ne_of_lt (K1.lt)
 have n34 : w.heap.size ≠ w27.heap.size := Nat.ne_of_lt (Kg.lt)
 have n35 : w.heap.size + 1 ≠ w27.heap.size := Nat.ne_of_lt (K13.lt)
 have n36 : w.heap.size + 1 + 1 ≠ w27.heap.size := Nat.ne_of_lt (K21.lt)
 have g37 : w.heap.size ≤ w27.heap.size := BW.size
 replace Kg := Kg.on hb30
 replace K13 := K13.on hb30
 replace Z14 := Z14.on hb30
 replace h := h.kp (Kept.of hb30)
 replace BW := BW.trans (hb30.mono BW.size)
 clear hb30
 go_upto_region 5 with fail
 rw [← e29]
 clear e29
 generalize w27.heap.size = b38 at *
 have c39 := Kg.c1
 go_upto_region 7 with fail
 clear c39
 have c40 := K31
 have c41 := Lib.hid (st16 (P := Tryz.prog) (vs := mcs f) K13 Z14 rfl rfl)
 obtain ⟨V42, hk44⟩ : ∃ V42, V42 = V28.setCells (w.heap.size + 1) 0 (mcs f) := ⟨_, rfl⟩
 have e43 := Lib.hid hk44
 have hk45 := Kept.overE hk44 K13 rfl (Nat.le_of_ble_eq_true rfl)
 replace K13 := K13.overE hk44 rfl
 replace h := h.kp hk45
 replace BW := Below.putE BW hk44 g17
 clear hk44 hk45
 replace K13 : Box V42 (w.heap.size + 1) (mcs f) := K13
 go_wp2_with (first | (refine wpList_ldM (by rfl) (by rfl) (by rfl) c40 (by rfl) ?_))
 rw [c41.out, ← e43.out]
 go_wp2_with fail
 clear c41 e43
 clear c40
 obtain ⟨c46, c47, c48, c49, c50, c51, c52, c53, c54, c55, c56, c57, c58, c59, c60, c61⟩ := K13.c16
 exact bodyPost_ret (v := .tuple #[mv f, .int .i64 0]) (by simp [results, Tryz.results45, go_sem, c46, c47, c48, c49, c50, c51, c52, c53, c54, c55, c56, c57, c58, c59, c60, c61]) rfl ⟨f, 0, rfl, ⟨h, rfl⟩, BW⟩
end Go.Proofs.YtjamfkafgfpobaaGreatDoor
namespace Go.Proofs.YtjamfkafgfpobaaGreatDoor
open Go.RowKit Nb
set_option maxHeartbeats 8000000 in
set_option maxRecDepth 20000 in
theorem y_rkCross {r s : Yq} {y z : Yv} {p1 p2 : Nat} {w : World} (Fy1 : Fy w r y) (Fz1 : Fy w s z) (K1 : Box w p1 (ycs y)) (K2 : Box w p2 (ycs z)) :
    Calls Tryz.prog 42 #[.int .i64 0, .func (.func 43) #[] #[.pointer (some ⟨p1, 0, none⟩), .pointer (some ⟨p2, 0, none⟩)]] w (fun e w' => ∃ (f : Fv) (e1 : Int), e = .returned (.tuple #[fv f, .int .i64 e1]) ∧ FIs w' (r.cross s) f e1 ∧ Below w.heap.size w w') := by
 have BW : Below w.heap.size w w := Below.refl _ _
 obtain ⟨V2, e3, hb4, K5, Z6, z1⟩ := alloc_new w [.int .i64 0] 38
 have n7 : p1 ≠ w.heap.size := Nat.ne_of_lt (K1.lt)
 have n8 : p2 ≠ w.heap.size := Nat.ne_of_lt (K2.lt)
 have g9 : w.heap.size ≤ w.heap.size := BW.size
 replace K1 := K1.on hb4
 replace K2 := K2.on hb4
 replace Fy1 := Fy1.kp (Kept.of hb4)
 replace Fz1 := Fz1.kp (Kept.of hb4)
 replace BW := BW.trans (hb4.mono BW.size)
 clear hb4
 obtain ⟨V11, e12, hb13, K14, Z15, z10⟩ := alloc_new V2 [.bool false, .slice none 0 0, .bool false, .slice none 0 0] 27
 rw [z1] at K14 Z15 z10
 have n16 : p1 ≠ w.heap.size + 1 := Nat.ne_of_lt (z1 ▸ K1.lt)
 have n17 : p2 ≠ w.heap.size + 1 := Nat.ne_of_lt (z1 ▸ K2.lt)
 have n18 : w.heap.size ≠ w.heap.size + 1 := Nat.ne_of_lt (z1 ▸ K5.lt)
 have g19 : w.heap.size ≤ w.heap.size + 1 := z1 ▸ BW.size
 replace K1 := K1.on hb13
 replace K2 := K2.on hb13
 replace K5 := K5.on hb13
 replace Z6 := Z6.on hb13
 replace Fy1 := Fy1.kp (Kept.of hb13)
 replace Fz1 := Fz1.kp (Kept.of hb13)
 replace BW := BW.trans (hb13.mono BW.size)
 clear hb13
 obtain ⟨V20, e21, hb22, K23, Z24, -⟩ := alloc_new V11 [.bool false, .slice none 0 0, .bool false, .slice none 0 0] 27
 rw [z10] at K23 Z24
 have n25 : p1 ≠ w.heap.size + 1 + 1 := Nat.ne_of_lt (z10 ▸ K1.lt)
 have n26 : p2 ≠ w.heap.size + 1 + 1 := Nat.ne_of_lt (z10 ▸ K2.lt)
 have n27 : w.heap.size ≠ w.heap.size + 1 + 1 := Nat.ne_of_lt (z10 ▸ K5.lt)
 have n28 : w.heap.size + 1 ≠ w.heap.size + 1 + 1 := Nat.ne_of_lt (z10 ▸ K14.lt)
 have g29 : w.heap.size ≤ w.heap.size + 1 + 1 := z10 ▸ BW.size
 replace K1 := K1.on hb22
 replace K2 := K2.on hb22
 replace K5 := K5.on hb22
 replace K14 := K14.on hb22
 replace Z6 := Z6.on hb22
 replace Z15 := Z15.on hb22
 replace Fy1 := Fy1.kp (Kept.of hb22)
 replace Fz1 := Fz1.kp (Kept.of hb22)
 replace BW := BW.trans (hb22.mono BW.size)
 clear hb22
 clear z1 z10
 go_enter Tryz.func42, Tryz.ntmps42
 go_wp2_with fail
 rw [← e3, ← e12, ← e21]
 clear e3 e12 e21
 go_wp2_with fail
 refine (y_doCross Fy1 Fz1 K1 K2 n7 n8 K5 Z6).mono ?_
 rintro _ w30 ⟨f, e1, rfl, h, Kg, Zg, hb⟩
 replace K1 := hb.box n7 K1
 replace K2 := hb.box n8 K2
 clear K5 Z6
 replace K14 := hb.box n18.symm K14
 replace Z15 := hb.fz n18.symm Z15
 replace K23 := hb.box n27.symm K23
 replace Z24 := hb.fz n27.symm Z24
 replace BW := BW.trans (hb.b.mono g9)
 clear hb
 by_cases he : e1 = 0
 · obtain rfl : e1 = 0 := he
   obtain ⟨V31, e32, hb33, K34, Z35, -⟩ := alloc_new w30 [.bool f.n, .slice f.A f.xs.length f.c, .bool f.m, .slice f.B f.ds.length f.d] 27
   have n36 : p1 ≠ w30.heap.size := Nat.ne_of_lt (K1.lt)
   have n37 : p2 ≠ w30.heap.size := Nat.ne_of_lt (K2.lt)
   have n38 : w.heap.size ≠ w30.heap.size := Nat.ne_of_lt (Kg.lt)
   have n39 : w.heap.size + 1 ≠ w30.heap.size := Nat.ne_of_lt (K14.lt)
   have n40 : w.heap.size + 1 + 1 ≠ w30.heap.size := Nat.ne_of_lt (K23.lt)
   have g41 : w.heap.size ≤ w30.heap.size := BW.size
   replace K1 := K1.on hb33
   replace K2 := K2.on hb33
   replace Kg := Kg.on hb33
   replace K14 := K14.on hb33
   replace K23 := K23.on hb33
   replace Z15 := Z15.on hb33
   replace h := h.kp (Kept.of hb33)
   replace BW := BW.trans (hb33.mono BW.size)
   clear hb33
   have c42 := Kg.c1
   rw [e32] at c42
   obtain ⟨c43, c44, c45, c46⟩ := K14.c4
   obtain ⟨c47, c48, c49, c50⟩ := Z15.f4
   rw [e32] at c43 c44 c45 c46 c47 c48 c49 c50
   obtain ⟨V51, hk53⟩ : ∃ V51, V51 = V31.setCells (w.heap.size + 1) 0 [.bool f.n, .slice f.A f.xs.length f.c, .bool f.m, .slice f.B f.ds.length f.d] := ⟨_, rfl⟩
   have e52 := hk53
   simp only [World.setCells, Nat.zero_add, Nat.reduceAdd] at e52
   have hk54 := Kept.overE hk53 K14 rfl (Nat.le_of_ble_eq_true rfl)
   replace K1 := K1.awayE hk53 n16
   replace K2 := K2.awayE hk53 n17
   replace Kg := Kg.awayE hk53 n18
   replace K14 := K14.overE hk53 rfl
   replace K23 := K23.awayE hk53 n28.symm
   replace K34 := K34.awayE hk53 n39.symm
   replace Z15 := Z15.putE hk53
   replace Z35 := Z35.putE hk53
   replace h := h.kp hk54
   replace BW := Below.putE BW hk53 g19
   clear hk53 hk54
   go_wp2_with fail
   clear c42 c43 c44 c45 c46 c47 c48 c49 c50
   rw [← e32, ← e52]
   clear e32 e52
   generalize w30.heap.size = b55 at *
   obtain ⟨c56, c57, c58, c59⟩ := K14.c4
   exact bodyPost_ret (v := .tuple #[fv f, .int .i64 0]) (by simp [results, Tryz.results42, go_sem, c56, c57, c58, c59]) rfl ⟨f, 0, rfl, h, BW⟩
 · have he2 : (e1 == 0) = false := by simpa using he
   have HE := Lib.hid he
   clear he
   obtain ⟨V31, e32, hb33, K34, Z35, -⟩ := alloc_new w30 [.bool f.n, .slice f.A f.xs.length f.c, .bool f.m, .slice f.B f.ds.length f.d] 27
   have n36 : p1 ≠ w30.heap.size := Nat.ne_of_lt (K1.lt)
   have n37 : p2 ≠ w30.heap.size := Nat.ne_of_lt (K2.lt)
   have n38 : w.heap.size ≠ w30.heap.size := Nat.ne_of_lt (Kg.lt)
   have n39 : w.heap.size + 1 ≠ w30.heap.size := Nat.ne_of_lt (K14.lt)
   have n40 : w.heap.size + 1 + 1 ≠ w30.heap.size := Nat.ne_of_lt (K23.lt)
   have g41 : w.heap.size ≤ w30.heap.size := BW.size
   replace Kg := Kg.on hb33
   replace K14 := K14.on hb33
   replace K23 := K23.on hb33
   replace Z15 := Z15.on hb33
   replace h := h.kp (Kept.of hb33)
   replace BW := BW.trans (hb33.mono BW.size)
   clear hb33
   have c42 := Kg.c1
   rw [e32] at c42
   go_wp2_with fail
   clear c42
   rw [← e32]
   clear e32
   generalize w30.heap.size = b43 at *
   refine wp_region_noPanic ?_
   have hb : Below V31.heap.size V31 V31.drew := (Below.refl _ _).drew
   replace Kg := Kg.on hb
   replace K14 := K14.on hb
   replace K23 := K23.on hb
   replace Z15 := Z15.on hb
   replace h := h.kp (Kept.of hb)
   replace BW := BW.trans (hb.mono BW.size)
   clear hb
   refine wp_region_held_drew (S := (fun wx => Cs wx (w.heap.size) 0 [.int .i64 e1] ∧ Cs wx (w.heap.size + 1 + 1) 0 [.bool false, .slice none 0 0, .bool false, .slice none 0 0])) (by kernel_rfl) (by exact ⟨Kg.cs, K23.cs⟩) (fun hHeld => ?_)
   generalize V31.drew = Vd44 at *
   refine pT 0 ?_
   (try simp only [p0, p1, p2, p3])
   refine pT 1 ?_
   (try simp only [p0, p1, p2, p3])
   refine pR1 2 (fun K hK => ?_)
   obtain ⟨c45, c46, c47, c48⟩ := K14.c4
   obtain ⟨c49, c50, c51, c52⟩ := Z15.f4
   go_simp
   clear c45 c46 c47 c48 c49 c50 c51 c52
   obtain ⟨V53, hk55⟩ : ∃ V53, V53 = Vd44.setCells (w.heap.size + 1) 0 [.bool false, .slice none 0 0, .bool false, .slice none 0 0] := ⟨_, rfl⟩
   have e54 := hk55
   simp only [World.setCells, Nat.zero_add, Nat.reduceAdd] at e54
   have hk56 := Kept.overE hk55 K14 rfl (Nat.le_of_ble_eq_true rfl)
   replace Kg := Kg.awayE hk55 n18
   replace K14 := K14.overE hk55 rfl
   replace K23 := K23.awayE hk55 n28.symm
   replace h := h.kp hk56
   replace BW := Below.putE BW hk55 g19
   clear hk55 hk56
   rw [← e54]
   clear e54
   clear hHeld
   refine hK.out _ _ (by exact ⟨Kg.cs, K23.cs⟩) (fun hHeld => ?_)
   clear hK
   (try simp only [p0, p1, p2, p3])
   refine pT 3 ?_
   (try simp only [p0, p1, p2, p3])
   refine wpAnyH_done (by kernel_rfl) (NoPanic.normal ?_) _
   go_wp2
   obtain ⟨c57, c58, c59, c60⟩ := K14.c4
   exact bodyPost_ret (v := .tuple #[.agg #[.bool false, .slice none 0 0, .bool false, .slice none 0 0], .int .i64 e1]) (by simp [results, Tryz.results42, go_sem, c57, c58, c59, c60]) rfl ⟨fv0, e1, rfl, h.no HE.out, BW⟩
end Go.Proofs.YtjamfkafgfpobaaGreatDoor
namespace Go.Proofs.YtjamfkafgfpobaaGreatDoor
open Go.RowKit Nb
set_option maxHeartbeats 8000000 in
set_option maxRecDepth 20000 in
theorem y_Back {q : Mq} {m : Mv} {w : World} (Fm1 : Fm w q m) (hd : q.det = 1) :
    Calls Tryz.prog 16 #[mv m] w (fun e w' => ∃ f : Mv, e = .returned (.tuple #[mv f, .int .i64 0]) ∧ Fm w' (q.back) f ∧ Below w.heap.size w w') := by
 have BW : Below w.heap.size w w := Below.refl _ _
 obtain ⟨V2, e3, hb4, K5, -, z1⟩ := alloc_new w [.bool m.A.n, .slice m.A.A m.A.xs.length m.A.c, .bool m.A.m, .slice m.A.B m.A.ds.length m.A.d, .bool m.B.n, .slice m.B.A m.B.xs.length m.B.c, .bool m.B.m, .slice m.B.B m.B.ds.length m.B.d, .bool m.C.n, .slice m.C.A m.C.xs.length m.C.c, .bool m.C.m, .slice m.C.B m.C.ds.length m.C.d, .bool m.D.n, .slice m.D.A m.D.xs.length m.D.c, .bool m.D.m, .slice m.D.B m.D.ds.length m.D.d] 37
 replace K5 : Box V2 (w.heap.size) (mcs m) := K5
 replace Fm1 := Fm1.kp (Kept.of hb4)
 replace BW := BW.trans (hb4.mono BW.size)
 clear hb4
 obtain ⟨V6, e7, hb8, K9, Z10, -⟩ := alloc_new V2 [.bool false, .slice none 0 0, .bool false, .slice none 0 0, .bool false, .slice none 0 0, .bool false, .slice none 0 0, .bool false, .slice none 0 0, .bool false, .slice none 0 0, .bool false, .slice none 0 0, .bool false, .slice none 0 0] 37
 rw [z1] at K9 Z10
 replace K9 : Box V6 (w.heap.size + 1) (zcs16) := K9
 have n11 : w.heap.size ≠ w.heap.size + 1 := Nat.ne_of_lt (z1 ▸ K5.lt)
 have g12 : w.heap.size ≤ w.heap.size + 1 := z1 ▸ BW.size
 replace K5 := K5.on hb8
 replace Fm1 := Fm1.kp (Kept.of hb8)
 replace BW := BW.trans (hb8.mono BW.size)
 clear hb8
 clear z1
 go_enter Tryz.func16, Tryz.ntmps16
 go_upto_region 1 with fail
 rw [← e3, ← e7]
 clear e3 e7
 have c13 : Box V6 (w.heap.size) [.bool m.A.n, .slice m.A.A m.A.xs.length m.A.c, .bool m.A.m, .slice m.A.B m.A.ds.length m.A.d, .bool m.B.n, .slice m.B.A m.B.xs.length m.B.c, .bool m.B.m, .slice m.B.B m.B.ds.length m.B.d, .bool m.C.n, .slice m.C.A m.C.xs.length m.C.c, .bool m.C.m, .slice m.C.B m.C.ds.length m.C.d, .bool m.D.n, .slice m.D.A m.D.xs.length m.D.c, .bool m.D.m, .slice m.D.B m.D.ds.length m.D.d] := K5
 go_wp2_with (first | (refine wpList_ldM (by rfl) (by rfl) (by rfl) c13 (by rfl) ?_))
 clear c13
 refine (y_check0 Fm1 hd).mono ?_
 rintro _ w14 ⟨rfl, hb⟩
 replace K5 := K5.on hb
 replace K9 := K9.on hb
 replace Z10 := Z10.on hb
 replace Fm1 := Fm1.kp (Kept.of hb)
 replace BW := BW.trans (hb.mono BW.size)
 clear hb
 go_wp2_with fail
 refine (y_rkBack Fm1 K5).mono ?_
 rintro _ w15 ⟨f, e1, rfl, h, hb⟩
 replace K9 := K9.on hb
 replace Z10 := Z10.on hb
 replace BW := BW.trans (hb.mono BW.size)
 clear hb
 obtain ⟨h, rfl⟩ := h
 obtain ⟨c16, c17, c18, c19, c20, c21, c22, c23, c24, c25, c26, c27, c28, c29, c30, c31⟩ := K9.c16
 obtain ⟨c32, c33, c34, c35, c36, c37, c38, c39, c40, c41, c42, c43, c44, c45, c46, c47⟩ := Z10.f16
 obtain ⟨V48, hk50⟩ : ∃ V48, V48 = w15.setCells (w.heap.size + 1) 0 [.bool f.A.n, .slice f.A.A f.A.xs.length f.A.c, .bool f.A.m, .slice f.A.B f.A.ds.length f.A.d, .bool f.B.n, .slice f.B.A f.B.xs.length f.B.c, .bool f.B.m, .slice f.B.B f.B.ds.length f.B.d, .bool f.C.n, .slice f.C.A f.C.xs.length f.C.c, .bool f.C.m, .slice f.C.B f.C.ds.length f.C.d, .bool f.D.n, .slice f.D.A f.D.xs.length f.D.c, .bool f.D.m, .slice f.D.B f.D.ds.length f.D.d] := ⟨_, rfl⟩
 have e49 := hk50
 simp only [World.setCells, Nat.zero_add, Nat.reduceAdd] at e49
 have hk51 := Kept.overE hk50 K9 rfl (Nat.le_of_ble_eq_true rfl)
 replace K9 := K9.overE hk50 rfl
 replace h := h.kp hk51
 replace BW := Below.putE BW hk50 g12
 clear hk50 hk51
 replace K9 : Box V48 (w.heap.size + 1) (mcs f) := K9
 go_wp2_with fail
 clear c16 c17 c18 c19 c20 c21 c22 c23 c24 c25 c26 c27 c28 c29 c30 c31 c32 c33 c34 c35 c36 c37 c38 c39 c40 c41 c42 c43 c44 c45 c46 c47
 rw [← e49]
 clear e49
 obtain ⟨c52, c53, c54, c55, c56, c57, c58, c59, c60, c61, c62, c63, c64, c65, c66, c67⟩ := K9.c16
 exact bodyPost_ret (v := .tuple #[mv f, .int .i64 0]) (by simp [results, Tryz.results16, go_sem, c52, c53, c54, c55, c56, c57, c58, c59, c60, c61, c62, c63, c64, c65, c66, c67]) rfl ⟨f, rfl, h, BW⟩
end Go.Proofs.YtjamfkafgfpobaaGreatDoor
namespace Go.Proofs.YtjamfkafgfpobaaGreatDoor
open Go.RowKit Nb
set_option maxHeartbeats 8000000 in
set_option maxRecDepth 20000 in
theorem y_Cross {r s : Yq} {y z : Yv} {w : World} (Fy1 : Fy w r y) (Fz1 : Fy w s z) :
    Calls Tryz.prog 14 #[yv y, yv z] w (fun e w' => ∃ (f : Fv) (e1 : Int), e = .returned (.tuple #[fv f, .int .i64 e1]) ∧ FIs w' (r.cross s) f e1 ∧ Below w.heap.size w w') := by
 have BW : Below w.heap.size w w := Below.refl _ _
 obtain ⟨V2, e3, hb4, K5, -, z1⟩ := alloc_new w [.bool y.Y.n, .slice y.Y.A y.Y.xs.length y.Y.c, .bool y.Y.m, .slice y.Y.B y.Y.ds.length y.Y.d, .bool y.U.n, .slice y.U.A y.U.xs.length y.U.c, .bool y.U.m, .slice y.U.B y.U.ds.length y.U.d] 29
 replace K5 : Box V2 (w.heap.size) (ycs y) := K5
 replace Fy1 := Fy1.kp (Kept.of hb4)
 replace Fz1 := Fz1.kp (Kept.of hb4)
 replace BW := BW.trans (hb4.mono BW.size)
 clear hb4
 obtain ⟨V7, e8, hb9, K10, -, z6⟩ := alloc_new V2 [.bool z.Y.n, .slice z.Y.A z.Y.xs.length z.Y.c, .bool z.Y.m, .slice z.Y.B z.Y.ds.length z.Y.d, .bool z.U.n, .slice z.U.A z.U.xs.length z.U.c, .bool z.U.m, .slice z.U.B z.U.ds.length z.U.d] 29
 rw [z1] at K10 z6
 replace K10 : Box V7 (w.heap.size + 1) (ycs z) := K10
 replace K5 := K5.on hb9
 replace Fy1 := Fy1.kp (Kept.of hb9)
 replace Fz1 := Fz1.kp (Kept.of hb9)
 replace BW := BW.trans (hb9.mono BW.size)
 clear hb9
 obtain ⟨V11, e12, hb13, K14, Z15, -⟩ := alloc_new V7 [.bool false, .slice none 0 0, .bool false, .slice none 0 0] 27
 rw [z6] at K14 Z15
 have n16 : w.heap.size ≠ w.heap.size + 1 + 1 := Nat.ne_of_lt (z6 ▸ K5.lt)
 have n17 : w.heap.size + 1 ≠ w.heap.size + 1 + 1 := Nat.ne_of_lt (z6 ▸ K10.lt)
 have g18 : w.heap.size ≤ w.heap.size + 1 + 1 := z6 ▸ BW.size
 replace K5 := K5.on hb13
 replace K10 := K10.on hb13
 replace Fy1 := Fy1.kp (Kept.of hb13)
 replace Fz1 := Fz1.kp (Kept.of hb13)
 replace BW := BW.trans (hb13.mono BW.size)
 clear hb13
 clear z1 z6
 go_enter Tryz.func14, Tryz.ntmps14
 go_wp2_with fail
 rw [← e3, ← e8, ← e12]
 clear e3 e8 e12
 go_cut [5] (fun s5 wx => ∃ (f : Fv) (e1 : Int), s5 = .int .i64 e1 ∧ Below w.heap.size w wx ∧ Box wx (w.heap.size + 1 + 1) [.bool f.n, .slice f.A f.xs.length f.c, .bool f.m, .slice f.B f.ds.length f.d] ∧ FIs wx (r.cross s) f e1)
 case first =>
   refine wp_region_noPanic ?_
   have hb : Below V11.heap.size V11 V11.drew := (Below.refl _ _).drew
   replace K5 := K5.on hb
   replace K10 := K10.on hb
   replace K14 := K14.on hb
   replace Z15 := Z15.on hb
   replace Fy1 := Fy1.kp (Kept.of hb)
   replace Fz1 := Fz1.kp (Kept.of hb)
   replace BW := BW.trans (hb.mono BW.size)
   clear hb
   refine wp_region_held_drew (S := (fun wx => Cs wx (w.heap.size) 0 [.bool y.Y.n, .slice y.Y.A y.Y.xs.length y.Y.c, .bool y.Y.m, .slice y.Y.B y.Y.ds.length y.Y.d, .bool y.U.n, .slice y.U.A y.U.xs.length y.U.c, .bool y.U.m, .slice y.U.B y.U.ds.length y.U.d] ∧ Cs wx (w.heap.size + 1) 0 [.bool z.Y.n, .slice z.Y.A z.Y.xs.length z.Y.c, .bool z.Y.m, .slice z.Y.B z.Y.ds.length z.Y.d, .bool z.U.n, .slice z.U.A z.U.xs.length z.U.c, .bool z.U.m, .slice z.U.B z.U.ds.length z.U.d])) (by kernel_rfl) (by exact ⟨K5.cs, K10.cs⟩) (fun hHeld => ?_)
   generalize V11.drew = Vd19 at *
   refine pT 0 ?_
   (try simp only [p0, p1, p2, p3])
   refine pT 2 ?_
   (try simp only [p0, p1, p2, p3])
   refine pR2 1 6 (fun K hK => ?_) (fun K hK => ?_)
   · go_simp
     (go_at_call 40; with_reducible refine (chk_ray0 Fy1).mono ?_)
     rintro _ w20 ⟨rfl, hb⟩
     (try go_wp2_with fail)
     replace K5 := K5.on hb
     replace K10 := K10.on hb
     replace K14 := K14.on hb
     replace Z15 := Z15.on hb
     replace Fy1 := Fy1.kp (Kept.of hb)
     replace Fz1 := Fz1.kp (Kept.of hb)
     replace BW := BW.trans (hb.mono BW.size)
     clear hb
     clear hHeld
     refine hK.out _ _ (by exact ⟨K5.cs, K10.cs⟩) (fun hHeld => ?_)
     clear hK
     (try simp only [p0, p1, p2, p3])
     refine pR2 3 6 (fun K hK => ?_) (fun K hK => ?_)
     · go_simp
       (go_at_call 40; with_reducible refine (chk_ray0 Fz1).mono ?_)
       rintro _ w21 ⟨rfl, hb⟩
       (try go_wp2_with fail)
       replace K5 := K5.on hb
       replace K10 := K10.on hb
       replace K14 := K14.on hb
       replace Z15 := Z15.on hb
       replace Fy1 := Fy1.kp (Kept.of hb)
       replace Fz1 := Fz1.kp (Kept.of hb)
       replace BW := BW.trans (hb.mono BW.size)
       clear hb
       clear hHeld
       refine hK.out _ _ (by exact ⟨K5.cs, K10.cs⟩) (fun hHeld => ?_)
       clear hK
       (try simp only [p0, p1, p2, p3])
       refine pR2 4 6 (fun K hK => ?_) (fun K hK => ?_)
       · go_simp
         obtain ⟨V22, e23, hb24, K25, -, -⟩ := alloc_new w21 [.int .i64 0, .int .i64 0] 38
         have n26 : w.heap.size + 1 + 1 ≠ w21.heap.size := Nat.ne_of_lt (K14.lt)
         replace K5 := K5.on hb24
         replace K10 := K10.on hb24
         replace K14 := K14.on hb24
         replace Z15 := Z15.on hb24
         replace Fy1 := Fy1.kp (Kept.of hb24)
         replace Fz1 := Fz1.kp (Kept.of hb24)
         replace BW := BW.trans (hb24.mono BW.size)
         clear hb24
         rw [← e23]
         clear e23
         generalize w21.heap.size = b27 at *
         clear hHeld
         refine hK.out _ _ (by exact ⟨K5.cs, K10.cs⟩) (fun hHeld => ?_)
         clear hK
         (try simp only [p0, p1, p2, p3])
         refine pR2 5 6 (fun K hK => ?_) (fun K hK => ?_)
         · go_simp
           (go_at_call 39; with_reducible refine (cor_zero K25).mono ?_)
           rintro _ w28 ⟨rfl, hb⟩
           (try go_wp2_with fail)
           replace K5 := K5.on hb
           replace K10 := K10.on hb
           replace K14 := K14.on hb
           replace K25 := K25.on hb
           replace Z15 := Z15.on hb
           replace Fy1 := Fy1.kp (Kept.of hb)
           replace Fz1 := Fz1.kp (Kept.of hb)
           replace BW := BW.trans (hb.mono BW.size)
           clear hb
           clear hHeld
           refine hK.out _ _ (by exact ⟨K5.cs, K10.cs⟩) (fun hHeld => ?_)
           clear hK
           (try simp only [p0, p1, p2, p3])
           refine pR1 6 (fun K hK => ?_)
           go_simp
           clear hHeld
           refine hK.out _ _ (by exact ⟨K5.cs, K10.cs⟩) (fun hHeld => ?_)
           clear hK
           (try simp only [p0, p1, p2, p3])
           refine pR1 7 (fun K hK => ?_)
           go_simp
           (go_at_call 42; with_reducible refine (y_rkCross Fy1 Fz1 K5 K10).mono ?_)
           rintro _ w29 ⟨f, e1, rfl, h, hb⟩
           (try go_wp2_with fail)
           replace K5 := K5.on hb
           replace K10 := K10.on hb
           replace K14 := K14.on hb
           replace K25 := K25.on hb
           replace Z15 := Z15.on hb
           replace Fy1 := Fy1.kp (Kept.of hb)
           replace Fz1 := Fz1.kp (Kept.of hb)
           replace BW := BW.trans (hb.mono BW.size)
           clear hb
           clear hHeld
           refine hK.out _ _ (by exact ⟨K5.cs, K10.cs⟩) (fun hHeld => ?_)
           clear hK
           (try simp only [p0, p1, p2, p3])
           refine pT 8 ?_
           (try simp only [p0, p1, p2, p3])
           refine pT 9 ?_
           (try simp only [p0, p1, p2, p3])
           refine pR1 10 (fun K hK => ?_)
           obtain ⟨c30, c31, c32, c33⟩ := K14.c4
           obtain ⟨c34, c35, c36, c37⟩ := Z15.f4
           go_simp
           clear c30 c31 c32 c33 c34 c35 c36 c37
           obtain ⟨V38, hk40⟩ : ∃ V38, V38 = w29.setCells (w.heap.size + 1 + 1) 0 [.bool f.n, .slice f.A f.xs.length f.c, .bool f.m, .slice f.B f.ds.length f.d] := ⟨_, rfl⟩
           have e39 := hk40
           simp only [World.setCells, Nat.zero_add, Nat.reduceAdd] at e39
           have hk41 := Kept.overE hk40 K14 rfl (Nat.le_of_ble_eq_true rfl)
           replace K5 := K5.awayE hk40 n16
           replace K10 := K10.awayE hk40 n17
           replace K14 := K14.overE hk40 rfl
           replace K25 := K25.awayE hk40 n26.symm
           replace Z15 := Z15.putE hk40
           replace Fy1 := Fy1.kp hk41
           replace Fz1 := Fz1.kp hk41
           replace h := h.kp hk41
           replace BW := Below.putE BW hk40 g18
           clear hk40 hk41
           rw [← e39]
           clear e39
           clear hHeld
           refine hK.out _ _ (by exact ⟨K5.cs, K10.cs⟩) (fun hHeld => ?_)
           clear hK
           (try simp only [p0, p1, p2, p3])
           refine pT 11 ?_
           (try simp only [p0, p1, p2, p3])
           refine wpAnyH_done (by kernel_rfl) (NoPanic.normal ?_) _
           go_wp2
           go_meet
           exact ⟨f, e1, rfl, BW, K14, h⟩
         · go_simp
           clear hHeld
           refine hK.out _ _ (by exact ⟨K5.cs, K10.cs⟩) (fun hHeld => ?_)
           clear hK
           (try simp only [p0, p1, p2, p3])
           refine pR1 5 (fun K hK => ?_)
           go_simp
           (go_at_call 39; with_reducible refine (cor_zero K25).mono ?_)
           rintro _ w28 ⟨rfl, hb⟩
           (try go_wp2_with fail)
           replace K5 := K5.on hb
           replace K10 := K10.on hb
           replace K14 := K14.on hb
           replace K25 := K25.on hb
           replace Z15 := Z15.on hb
           replace Fy1 := Fy1.kp (Kept.of hb)
           replace Fz1 := Fz1.kp (Kept.of hb)
           replace BW := BW.trans (hb.mono BW.size)
           clear hb
           clear hHeld
           refine hK.out _ _ (by exact ⟨K5.cs, K10.cs⟩) (fun hHeld => ?_)
           clear hK
           (try simp only [p0, p1, p2, p3])
           refine pR1 7 (fun K hK => ?_)
           go_simp
           (go_at_call 42; with_reducible refine (y_rkCross Fy1 Fz1 K5 K10).mono ?_)
           rintro _ w29 ⟨f, e1, rfl, h, hb⟩
           (try go_wp2_with fail)
           replace K5 := K5.on hb
           replace K10 := K10.on hb
           replace K14 := K14.on hb
           replace K25 := K25.on hb
           replace Z15 := Z15.on hb
           replace Fy1 := Fy1.kp (Kept.of hb)
           replace Fz1 := Fz1.kp (Kept.of hb)
           replace BW := BW.trans (hb.mono BW.size)
           clear hb
           clear hHeld
           refine hK.out _ _ (by exact ⟨K5.cs, K10.cs⟩) (fun hHeld => ?_)
           clear hK
           (try simp only [p0, p1, p2, p3])
           refine pT 8 ?_
           (try simp only [p0, p1, p2, p3])
           refine pT 9 ?_
           (try simp only [p0, p1, p2, p3])
           refine pR1 10 (fun K hK => ?_)
           obtain ⟨c30, c31, c32, c33⟩ := K14.c4
           obtain ⟨c34, c35, c36, c37⟩ := Z15.f4
           go_simp
           clear c30 c31 c32 c33 c34 c35 c36 c37
           obtain ⟨V38, hk40⟩ : ∃ V38, V38 = w29.setCells (w.heap.size + 1 + 1) 0 [.bool f.n, .slice f.A f.xs.length f.c, .bool f.m, .slice f.B f.ds.length f.d] := ⟨_, rfl⟩
           have e39 := hk40
           simp only [World.setCells, Nat.zero_add, Nat.reduceAdd] at e39
           have hk41 := Kept.overE hk40 K14 rfl (Nat.le_of_ble_eq_true rfl)
           replace K5 := K5.awayE hk40 n16
           replace K10 := K10.awayE hk40 n17
           replace K14 := K14.overE hk40 rfl
           replace K25 := K25.awayE hk40 n26.symm
           replace Z15 := Z15.putE hk40
           replace Fy1 := Fy1.kp hk41
           replace Fz1 := Fz1.kp hk41
           replace h := h.kp hk41
           replace BW := Below.putE BW hk40 g18
           clear hk40 hk41
           rw [← e39]
           clear e39
           clear hHeld
           refine hK.out _ _ (by exact ⟨K5.cs, K10.cs⟩) (fun hHeld => ?_)
           clear hK
           (try simp only [p0, p1, p2, p3])
           refine pT 11 ?_
           (try simp only [p0, p1, p2, p3])
           refine wpAnyH_done (by kernel_rfl) (NoPanic.normal ?_) _
           go_wp2
           go_meet
           exact ⟨f, e1, rfl, BW, K14, h⟩
       · go_simp
         clear hHeld
         refine hK.out _ _ (by exact ⟨K5.cs, K10.cs⟩) (fun hHeld => ?_)
         clear hK
         (try simp only [p0, p1, p2, p3])
         refine pR1 4 (fun K hK => ?_)
         go_simp
         obtain ⟨V22, e23, hb24, K25, -, -⟩ := alloc_new w21 [.int .i64 0, .int .i64 0] 38
         have n26 : w.heap.size + 1 + 1 ≠ w21.heap.size := Nat.ne_of_lt (K14.lt)
         replace K5 := K5.on hb24
         replace K10 := K10.on hb24
         replace K14 := K14.on hb24
         replace Z15 := Z15.on hb24
         replace Fy1 := Fy1.kp (Kept.of hb24)
         replace Fz1 := Fz1.kp (Kept.of hb24)
         replace BW := BW.trans (hb24.mono BW.size)
         clear hb24
         rw [← e23]
         clear e23
         generalize w21.heap.size = b27 at *
         clear hHeld
         refine hK.out _ _ (by exact ⟨K5.cs, K10.cs⟩) (fun hHeld => ?_)
         clear hK
         (try simp only [p0, p1, p2, p3])
         refine pR1 5 (fun K hK => ?_)
         go_simp
         (go_at_call 39; with_reducible refine (cor_zero K25).mono ?_)
         rintro _ w28 ⟨rfl, hb⟩
         (try go_wp2_with fail)
         replace K5 := K5.on hb
         replace K10 := K10.on hb
         replace K14 := K14.on hb
         replace K25 := K25.on hb
         replace Z15 := Z15.on hb
         replace Fy1 := Fy1.kp (Kept.of hb)
         replace Fz1 := Fz1.kp (Kept.of hb)
         replace BW := BW.trans (hb.mono BW.size)
         clear hb
         clear hHeld
         refine hK.out _ _ (by exact ⟨K5.cs, K10.cs⟩) (fun hHeld => ?_)
         clear hK
         (try simp only [p0, p1, p2, p3])
         refine pR1 7 (fun K hK => ?_)
         go_simp
         (go_at_call 42; with_reducible refine (y_rkCross Fy1 Fz1 K5 K10).mono ?_)
         rintro _ w29 ⟨f, e1, rfl, h, hb⟩
         (try go_wp2_with fail)
         replace K5 := K5.on hb
         replace K10 := K10.on hb
         replace K14 := K14.on hb
         replace K25 := K25.on hb
         replace Z15 := Z15.on hb
         replace Fy1 := Fy1.kp (Kept.of hb)
         replace Fz1 := Fz1.kp (Kept.of hb)
         replace BW := BW.trans (hb.mono BW.size)
         clear hb
         clear hHeld
         refine hK.out _ _ (by exact ⟨K5.cs, K10.cs⟩) (fun hHeld => ?_)
         clear hK
         (try simp only [p0, p1, p2, p3])
         refine pT 8 ?_
         (try simp only [p0, p1, p2, p3])
         refine pT 9 ?_
         (try simp only [p0, p1, p2, p3])
         refine pR1 10 (fun K hK => ?_)
         obtain ⟨c30, c31, c32, c33⟩ := K14.c4
         obtain ⟨c34, c35, c36, c37⟩ := Z15.f4
         go_simp
         clear c30 c31 c32 c33 c34 c35 c36 c37
         obtain ⟨V38, hk40⟩ : ∃ V38, V38 = w29.setCells (w.heap.size + 1 + 1) 0 [.bool f.n, .slice f.A f.xs.length f.c, .bool f.m, .slice f.B f.ds.length f.d] := ⟨_, rfl⟩
         have e39 := hk40
         simp only [World.setCells, Nat.zero_add, Nat.reduceAdd] at e39
         have hk41 := Kept.overE hk40 K14 rfl (Nat.le_of_ble_eq_true rfl)
         replace K5 := K5.awayE hk40 n16
         replace K10 := K10.awayE hk40 n17
         replace K14 := K14.overE hk40 rfl
         replace K25 := K25.awayE hk40 n26.symm
         replace Z15 := Z15.putE hk40
         replace Fy1 := Fy1.kp hk41
         replace Fz1 := Fz1.kp hk41
         replace h := h.kp hk41
         replace BW := Below.putE BW hk40 g18
         clear hk40 hk41
         rw [← e39]
         clear e39
         clear hHeld
         refine hK.out _ _ (by exact ⟨K5.cs, K10.cs⟩) (fun hHeld => ?_)
         clear hK
         (try simp only [p0, p1, p2, p3])
         refine pT 11 ?_
         (try simp only [p0, p1, p2, p3])
         refine wpAnyH_done (by kernel_rfl) (NoPanic.normal ?_) _
         go_wp2
         go_meet
         exact ⟨f, e1, rfl, BW, K14, h⟩
     · go_simp
       clear hHeld
       refine hK.out _ _ (by exact ⟨K5.cs, K10.cs⟩) (fun hHeld => ?_)
       clear hK
       (try simp only [p0, p1, p2, p3])
       refine pR1 3 (fun K hK => ?_)
       go_simp
       (go_at_call 40; with_reducible refine (chk_ray0 Fz1).mono ?_)
       rintro _ w21 ⟨rfl, hb⟩
       (try go_wp2_with fail)
       replace K5 := K5.on hb
       replace K10 := K10.on hb
       replace K14 := K14.on hb
       replace Z15 := Z15.on hb
       replace Fy1 := Fy1.kp (Kept.of hb)
       replace Fz1 := Fz1.kp (Kept.of hb)
       replace BW := BW.trans (hb.mono BW.size)
       clear hb
       clear hHeld
       refine hK.out _ _ (by exact ⟨K5.cs, K10.cs⟩) (fun hHeld => ?_)
       clear hK
       (try simp only [p0, p1, p2, p3])
       refine pR1 4 (fun K hK => ?_)
       go_simp
       obtain ⟨V22, e23, hb24, K25, -, -⟩ := alloc_new w21 [.int .i64 0, .int .i64 0] 38
       have n26 : w.heap.size + 1 + 1 ≠ w21.heap.size := Nat.ne_of_lt (K14.lt)
       replace K5 := K5.on hb24
       replace K10 := K10.on hb24
       replace K14 := K14.on hb24
       replace Z15 := Z15.on hb24
       replace Fy1 := Fy1.kp (Kept.of hb24)
       replace Fz1 := Fz1.kp (Kept.of hb24)
       replace BW := BW.trans (hb24.mono BW.size)
       clear hb24
       rw [← e23]
       clear e23
       generalize w21.heap.size = b27 at *
       clear hHeld
       refine hK.out _ _ (by exact ⟨K5.cs, K10.cs⟩) (fun hHeld => ?_)
       clear hK
       (try simp only [p0, p1, p2, p3])
       refine pR1 5 (fun K hK => ?_)
       go_simp
       (go_at_call 39; with_reducible refine (cor_zero K25).mono ?_)
       rintro _ w28 ⟨rfl, hb⟩
       (try go_wp2_with fail)
       replace K5 := K5.on hb
       replace K10 := K10.on hb
       replace K14 := K14.on hb
       replace K25 := K25.on hb
       replace Z15 := Z15.on hb
       replace Fy1 := Fy1.kp (Kept.of hb)
       replace Fz1 := Fz1.kp (Kept.of hb)
       replace BW := BW.trans (hb.mono BW.size)
       clear hb
       clear hHeld
       refine hK.out _ _ (by exact ⟨K5.cs, K10.cs⟩) (fun hHeld => ?_)
       clear hK
       (try simp only [p0, p1, p2, p3])
       refine pR1 7 (fun K hK => ?_)
       go_simp
       (go_at_call 42; with_reducible refine (y_rkCross Fy1 Fz1 K5 K10).mono ?_)
       rintro _ w29 ⟨f, e1, rfl, h, hb⟩
       (try go_wp2_with fail)
       replace K5 := K5.on hb
       replace K10 := K10.on hb
       replace K14 := K14.on hb
       replace K25 := K25.on hb
       replace Z15 := Z15.on hb
       replace Fy1 := Fy1.kp (Kept.of hb)
       replace Fz1 := Fz1.kp (Kept.of hb)
       replace BW := BW.trans (hb.mono BW.size)
       clear hb
       clear hHeld
       refine hK.out _ _ (by exact ⟨K5.cs, K10.cs⟩) (fun hHeld => ?_)
       clear hK
       (try simp only [p0, p1, p2, p3])
       refine pT 8 ?_
       (try simp only [p0, p1, p2, p3])
       refine pT 9 ?_
       (try simp only [p0, p1, p2, p3])
       refine pR1 10 (fun K hK => ?_)
       obtain ⟨c30, c31, c32, c33⟩ := K14.c4
       obtain ⟨c34, c35, c36, c37⟩ := Z15.f4
       go_simp
       clear c30 c31 c32 c33 c34 c35 c36 c37
       obtain ⟨V38, hk40⟩ : ∃ V38, V38 = w29.setCells (w.heap.size + 1 + 1) 0 [.bool f.n, .slice f.A f.xs.length f.c, .bool f.m, .slice f.B f.ds.length f.d] := ⟨_, rfl⟩
       have e39 := hk40
       simp only [World.setCells, Nat.zero_add, Nat.reduceAdd] at e39
       have hk41 := Kept.overE hk40 K14 rfl (Nat.le_of_ble_eq_true rfl)
       replace K5 := K5.awayE hk40 n16
       replace K10 := K10.awayE hk40 n17
       replace K14 := K14.overE hk40 rfl
       replace K25 := K25.awayE hk40 n26.symm
       replace Z15 := Z15.putE hk40
       replace Fy1 := Fy1.kp hk41
       replace Fz1 := Fz1.kp hk41
       replace h := h.kp hk41
       replace BW := Below.putE BW hk40 g18
       clear hk40 hk41
       rw [← e39]
       clear e39
       clear hHeld
       refine hK.out _ _ (by exact ⟨K5.cs, K10.cs⟩) (fun hHeld => ?_)
       clear hK
       (try simp only [p0, p1, p2, p3])
       refine pT 11 ?_
       (try simp only [p0, p1, p2, p3])
       refine wpAnyH_done (by kernel_rfl) (NoPanic.normal ?_) _
       go_wp2
       go_meet
       exact ⟨f, e1, rfl, BW, K14, h⟩
   · go_simp
     clear hHeld
     refine hK.out _ _ (by exact ⟨K5.cs, K10.cs⟩) (fun hHeld => ?_)
     clear hK
     (try simp only [p0, p1, p2, p3])
     refine pR1 1 (fun K hK => ?_)
     go_simp
     (go_at_call 40; with_reducible refine (chk_ray0 Fy1).mono ?_)
     rintro _ w20 ⟨rfl, hb⟩
     (try go_wp2_with fail)
     replace K5 := K5.on hb
     replace K10 := K10.on hb
     replace K14 := K14.on hb
     replace Z15 := Z15.on hb
     replace Fy1 := Fy1.kp (Kept.of hb)
     replace Fz1 := Fz1.kp (Kept.of hb)
     replace BW := BW.trans (hb.mono BW.size)
     clear hb
     clear hHeld
     refine hK.out _ _ (by exact ⟨K5.cs, K10.cs⟩) (fun hHeld => ?_)
     clear hK
     (try simp only [p0, p1, p2, p3])
     refine pR1 3 (fun K hK => ?_)
     go_simp
     (go_at_call 40; with_reducible refine (chk_ray0 Fz1).mono ?_)
     rintro _ w21 ⟨rfl, hb⟩
     (try go_wp2_with fail)
     replace K5 := K5.on hb
     replace K10 := K10.on hb
     replace K14 := K14.on hb
     replace Z15 := Z15.on hb
     replace Fy1 := Fy1.kp (Kept.of hb)
     replace Fz1 := Fz1.kp (Kept.of hb)
     replace BW := BW.trans (hb.mono BW.size)
     clear hb
     clear hHeld
     refine hK.out _ _ (by exact ⟨K5.cs, K10.cs⟩) (fun hHeld => ?_)
     clear hK
     (try simp only [p0, p1, p2, p3])
     refine pR1 4 (fun K hK => ?_)
     go_simp
     obtain ⟨V22, e23, hb24, K25, -, -⟩ := alloc_new w21 [.int .i64 0, .int .i64 0] 38
     have n26 : w.heap.size + 1 + 1 ≠ w21.heap.size := Nat.ne_of_lt (K14.lt)
     replace K5 := K5.on hb24
     replace K10 := K10.on hb24
     replace K14 := K14.on hb24
     replace Z15 := Z15.on hb24
     replace Fy1 := Fy1.kp (Kept.of hb24)
     replace Fz1 := Fz1.kp (Kept.of hb24)
     replace BW := BW.trans (hb24.mono BW.size)
     clear hb24
     rw [← e23]
     clear e23
     generalize w21.heap.size = b27 at *
     clear hHeld
     refine hK.out _ _ (by exact ⟨K5.cs, K10.cs⟩) (fun hHeld => ?_)
     clear hK
     (try simp only [p0, p1, p2, p3])
     refine pR1 5 (fun K hK => ?_)
     go_simp
     (go_at_call 39; with_reducible refine (cor_zero K25).mono ?_)
     rintro _ w28 ⟨rfl, hb⟩
     (try go_wp2_with fail)
     replace K5 := K5.on hb
     replace K10 := K10.on hb
     replace K14 := K14.on hb
     replace Z15 := Z15.on hb
     replace Fy1 := Fy1.kp (Kept.of hb)
     replace Fz1 := Fz1.kp (Kept.of hb)
     replace BW := BW.trans (hb.mono BW.size)
     clear hb
     clear hHeld
     refine hK.out _ _ (by exact ⟨K5.cs, K10.cs⟩) (fun hHeld => ?_)
     clear hK
     (try simp only [p0, p1, p2, p3])
     refine pR1 7 (fun K hK => ?_)
     go_simp
     (go_at_call 42; with_reducible refine (y_rkCross Fy1 Fz1 K5 K10).mono ?_)
     rintro _ w29 ⟨f, e1, rfl, h, hb⟩
     (try go_wp2_with fail)
     replace K5 := K5.on hb
     replace K10 := K10.on hb
     replace K14 := K14.on hb
     replace Z15 := Z15.on hb
     replace BW := BW.trans (hb.mono BW.size)
     clear hb
     clear hHeld
     refine hK.out _ _ (by exact ⟨K5.cs, K10.cs⟩) (fun hHeld => ?_)
     clear hK
     (try simp only [p0, p1, p2, p3])
     refine pT 8 ?_
     (try simp only [p0, p1, p2, p3])
     refine pT 9 ?_
     (try simp only [p0, p1, p2, p3])
     refine pR1 10 (fun K hK => ?_)
     obtain ⟨c30, c31, c32, c33⟩ := K14.c4
     obtain ⟨c34, c35, c36, c37⟩ := Z15.f4
     go_simp
     clear c30 c31 c32 c33 c34 c35 c36 c37
     obtain ⟨V38, hk40⟩ : ∃ V38, V38 = w29.setCells (w.heap.size + 1 + 1) 0 [.bool f.n, .slice f.A f.xs.length f.c, .bool f.m, .slice f.B f.ds.length f.d] := ⟨_, rfl⟩
     have e39 := hk40
     simp only [World.setCells, Nat.zero_add, Nat.reduceAdd] at e39
     have hk41 := Kept.overE hk40 K14 rfl (Nat.le_of_ble_eq_true rfl)
     replace K5 := K5.awayE hk40 n16
     replace K10 := K10.awayE hk40 n17
     replace K14 := K14.overE hk40 rfl
     replace h := h.kp hk41
     replace BW := Below.putE BW hk40 g18
     clear hk40 hk41
     rw [← e39]
     clear e39
     clear hHeld
     refine hK.out _ _ (by exact ⟨K5.cs, K10.cs⟩) (fun hHeld => ?_)
     clear hK
     (try simp only [p0, p1, p2, p3])
     refine pT 11 ?_
     (try simp only [p0, p1, p2, p3])
     refine wpAnyH_done (by kernel_rfl) (NoPanic.normal ?_) _
     go_wp2
     go_meet
     exact ⟨f, e1, rfl, BW, K14, h⟩
 case rest =>
   obtain ⟨f, e1, rfl, BW, KR, h⟩ := hcut
   obtain ⟨c19, c20, c21, c22⟩ := KR.c4
   go_wp2_with fail
   exact bodyPost_ret (v := .tuple #[fv f, .int .i64 e1]) (by simp [results, Tryz.results14, go_sem, c19, c20, c21, c22]) rfl ⟨f, e1, rfl, h, BW⟩
end Go.Proofs.YtjamfkafgfpobaaGreatDoor
