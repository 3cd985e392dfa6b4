/-
  Facts on floats and what the library answers of them, taken up again. No conditions.
-/
import Derived.Test.YtjamfkafgfpobaaGreatDoorXtra
import Derived.Test.YtjamfkafgfpobaaGreatDoorRf
import Derived.Test.YtjamfkafgfpobaaGreatDoorRc0
namespace Go.Proofs.YtjamfkafgfpobaaGreatDoor
open Go.RowKit Nb
theorem Yq.ext2 {m n : Yq} (h1 : m.y = n.y) (h2 : m.u = n.u) : m = n := by
 cases m; cases n; simp_all
end Go.Proofs.YtjamfkafgfpobaaGreatDoor
namespace Go.Proofs.YtjamfkafgfpobaaGreatDoor
open Go.RowKit Nb
def Mq.mir (m : Mq) : Mq := ⟨m.d, m.b, m.c, m.a⟩
end Go.Proofs.YtjamfkafgfpobaaGreatDoor
namespace Go.Proofs.YtjamfkafgfpobaaGreatDoor
open Go.RowKit Nb
def Yq.turn (r : Yq) : Yq := ⟨r.y, -r.u⟩
end Go.Proofs.YtjamfkafgfpobaaGreatDoor
namespace Go.Proofs.YtjamfkafgfpobaaGreatDoor
open Go.RowKit Nb
section
variable {m n o : Mq} {r s : Yq}
theorem Mq.det_mul (h : m.det = 1) (k : n.det = 1) : (m.mul n).det = 1 := by
 simp only [Mq.mul, Mq.det] at *; grind
end
end Go.Proofs.YtjamfkafgfpobaaGreatDoor
namespace Go.Proofs.YtjamfkafgfpobaaGreatDoor
open Go.RowKit Nb
section
variable {m n o : Mq} {r s : Yq}
theorem Mq.thr_mir (h : m.det = 1) : m.mir.thr (m.thr r).turn = r.turn := by
 simp only [Mq.det] at h
 apply Yq.ext2 <;> simp only [Mq.mir, Mq.thr, Yq.turn] <;> grind
end
end Go.Proofs.YtjamfkafgfpobaaGreatDoor
namespace Go.Proofs.YtjamfkafgfpobaaGreatDoor
open Go.RowKit Nb
section
variable {W W' : World} {q p : Mq} {r s : Yq} {m : Mv} {y : Yv}
theorem Fy.xy (h : Fy W r y) : Xy W y := ⟨h.1.fx, h.2.fx⟩
end
end Go.Proofs.YtjamfkafgfpobaaGreatDoor
namespace Go.Proofs.YtjamfkafgfpobaaGreatDoor
open Go.RowKit Nb
def oky (r : Yv) : Prop := okv r.Y ∧ okv r.U
end Go.Proofs.YtjamfkafgfpobaaGreatDoor
namespace Go.Proofs.YtjamfkafgfpobaaGreatDoor
open Go.RowKit Nb
theorem oky.fy {W : World} {y : Yv} (h : oky y) (r : Xy W y) : ∃ q : Yq, Fy W q y := by
 obtain ⟨a, ha⟩ := h.1.ff r.1
 obtain ⟨b, hb⟩ := h.2.ff r.2
 exact ⟨⟨a, b⟩, ha, hb⟩
end Go.Proofs.YtjamfkafgfpobaaGreatDoor
namespace Go.Proofs.YtjamfkafgfpobaaGreatDoor
open Go.RowKit Nb
section
variable {W : World} {p : Nat} {us vs : List Value}
theorem infoF : (Tryz.prog.info? 81).map (·.size) = some 16 := by kernel_rfl
end
end Go.Proofs.YtjamfkafgfpobaaGreatDoor
namespace Go.Proofs.YtjamfkafgfpobaaGreatDoor
open Go.RowKit Nb
section
variable {W : World} {p : Nat} {us vs : List Value}
theorem wp_stF {o : Oper} {a : Act} {K : Act → World → Prop} {Q : Exit → Act → World → Prop} {x y : Operand} (ho : o.op = .store 81 x y) (hx : a.eval x = .pointer (some ⟨p, 0, none⟩)) (hy : a.eval y = .agg vs.toArray) (B : Box W p us) (Z : Fz W p) (hl : us.length = 16) (hv : vs.length = 16) (h1 : vs.all (·.oneCell') = true)
  (h : K (a.put o.dst undef) (W.setCells p 0 vs)) : o.wp Tryz.prog a W K Q := by
 have hr := run_store_box (P := Tryz.prog) (vs := vs) B Z 81 (by rw [infoF, hv]) (by rw [hl, hv]) h1
 unfold Oper.wp execOp
 simp only [ho, hx, hy, Instr.storeAt, Instr.sureAddr, Sem.run_bind, Sem.run_pure, Result.andThen_ok, hr]
 exact h
end
end Go.Proofs.YtjamfkafgfpobaaGreatDoor
namespace Go.Proofs.YtjamfkafgfpobaaGreatDoor
open Go.RowKit Nb
section
variable {w W W' V : World} {g p o : Nat} {us us' vs : List Value}
theorem But.but (h : But g w W) (k : But g W W') : But g w W' :=
 ⟨h.b.trans k.b, fun i hi hn => (k.blk i (Nat.lt_of_lt_of_le hi h.size) hn).trans (h.blk i hi hn), h.kept.trans k.kept⟩
end
end Go.Proofs.YtjamfkafgfpobaaGreatDoor
namespace Go.Proofs.YtjamfkafgfpobaaGreatDoor
open Go.RowKit Nb
section
variable {w W W' V : World} {g p o : Nat} {us us' vs : List Value}
theorem But.go (hg : g < w.heap.size) (h : But g w W) (hb : Below W.heap.size W W') : But g w W' := h.but (But.of (Nat.lt_of_lt_of_le hg h.size) hb)
end
end Go.Proofs.YtjamfkafgfpobaaGreatDoor
namespace Go.Proofs.YtjamfkafgfpobaaGreatDoor
open Go.RowKit Nb
section
variable {w W W' V : World} {g p o : Nat} {us us' vs : List Value}
theorem But.box (h : But g W W') (hne : p ≠ g) (K : Box W p us) : Box W' p us :=
 ⟨Nat.lt_of_lt_of_le K.lt h.size, fun i v e => (World.cell?_of_block (w := W) (a := ⟨p, i, none⟩) (h.blk p K.lt hne)).trans (K.c i v e)⟩
end
end Go.Proofs.YtjamfkafgfpobaaGreatDoor
namespace Go.Proofs.YtjamfkafgfpobaaGreatDoor
open Go.RowKit Nb
section
variable {w W W' V : World} {g p o : Nat} {us us' vs : List Value}
theorem But.fz (h : But g W W') (hne : p ≠ g) (K : Fz W p) : Fz W' p :=
 ⟨Nat.lt_of_lt_of_le K.1 h.size, fun j => (World.frozen?_of_block (w := W) (a := ⟨p, j, none⟩) (h.blk p K.1 hne)).trans (K.2 j)⟩
end
end Go.Proofs.YtjamfkafgfpobaaGreatDoor
namespace Go.Proofs.YtjamfkafgfpobaaGreatDoor
open Go.RowKit Nb
set_option maxHeartbeats 2000000 in
theorem cor_two {g l : Nat} {a b : Int} {w : World} (K : Box w g [.int .i64 a, .int .i64 b]) :
  Calls Tryz.prog 39 #[.slice (some ⟨g, 0, none⟩) 2 l] w fun e w' => e = .returned (.int .i64 (orE a b)) ∧ Below w.heap.size w w' := by
 have c0 := K.c 0 _ rfl
 have c1 := K.c 1 _ rfl
 have HB := Below.refl w.heap.size w
 clear K
 unfold orE
 by_cases ha : a = 0
 ·subst ha
  rw [if_pos rfl]
  by_cases hb : b = 0
  ·subst hb
   go_enter Tryz.func39, Tryz.ntmps39
   go_wp2
   refine wp_loop_rounds 3 ?_
   rw [rounds_succ]
   go_wp2
   rw [rounds_succ]
   go_wp2
   rw [rounds_succ]
   go_wp2
   go_ret
   exact ⟨rfl, HB⟩
  ·have hb2 : (b == 0) = false := by simpa using hb
   go_enter Tryz.func39, Tryz.ntmps39
   go_wp2
   refine wp_loop_rounds 3 ?_
   rw [rounds_succ]
   go_wp2
   rw [rounds_succ]
   go_wp2
   go_ret
   exact ⟨rfl, HB⟩
 ·rw [if_neg ha]
  have ha2 : (a == 0) = false := by simpa using ha
  go_enter Tryz.func39, Tryz.ntmps39
  go_wp2
  refine wp_loop_rounds 3 ?_
  rw [rounds_succ]
  go_wp2
  go_ret
  exact ⟨rfl, HB⟩
end Go.Proofs.YtjamfkafgfpobaaGreatDoor
namespace Go.Proofs.YtjamfkafgfpobaaGreatDoor
open Go.RowKit Nb
section
variable {W : World} {q : Mq} {m : Mv} {r : Yq} {y : Yv}
theorem Fy.fY (h : Fy W r y) : Ff W r.y y.Y := h.1
end
end Go.Proofs.YtjamfkafgfpobaaGreatDoor
namespace Go.Proofs.YtjamfkafgfpobaaGreatDoor
open Go.RowKit Nb
section
variable {W : World} {q : Mq} {m : Mv} {r : Yq} {y : Yv}
theorem Fy.fU (h : Fy W r y) : Ff W r.u y.U := h.2
end
end Go.Proofs.YtjamfkafgfpobaaGreatDoor
namespace Go.Proofs.YtjamfkafgfpobaaGreatDoor
open Go.RowKit Nb
theorem put_of {W : World} {z : Rat} {f : Fv} {e0 e1 er : Int} (h : Fr W False z f er) (he : orE e0 er = e1) : PutIs W z f e0 e1 := by
 rcases h with ⟨_, h1, h2, h3⟩ | ⟨⟨h1, _⟩ | ⟨_, h1, h2⟩, h3⟩
 ·refine .inl ⟨h1, ?_, h3⟩
  rw [← he, h2]; unfold orE; split
  ·omega
  ·rfl
 ·exact h1.elim
 ·exact .inr ⟨h1, by rw [← he, h2], h3⟩
end Go.Proofs.YtjamfkafgfpobaaGreatDoor
namespace Go.Proofs.YtjamfkafgfpobaaGreatDoor
open Go.RowKit Nb
theorem mis_four {W : World} {z : Mq} {f : Mv} {e1 e2 e3 e4 : Int} (h1 : PutIs W z.a f.A 0 e1) (h2 : PutIs W z.b f.B e1 e2) (h3 : PutIs W z.c f.C e2 e3) (h4 : PutIs W z.d f.D e3 e4) : MIs W z f e4 := by
 by_cases he : e4 = 0
 ·obtain ⟨k3, f4, g4⟩ := h4.zero he
  obtain ⟨k2, f3, g3⟩ := h3.zero k3
  obtain ⟨k1, f2, g2⟩ := h2.zero k2
  obtain ⟨k0, f1, g1⟩ := h1.zero k1
  exact .inl ⟨he, ⟨f1, f2, f3, f4⟩, g1, g2, g3, g4⟩
 ·have i1 : e1 = 0 ∨ e1 = 4 := by
   by_cases h : e1 = 0
   ·exact .inl h
   ·exact .inr (h1.four h (.inl rfl)).1
  have i2 : e2 = 0 ∨ e2 = 4 := by
   by_cases h : e2 = 0
   ·exact .inl h
   ·exact .inr (h2.four h i1).1
  have i3 : e3 = 0 ∨ e3 = 4 := by
   by_cases h : e3 = 0
   ·exact .inl h
   ·exact .inr (h3.four h i2).1
  obtain ⟨k4, n4⟩ := h4.four he i3
  refine .inr ⟨k4, fun hf => ?_⟩
  rcases n4 with n4 | n4
  ·obtain ⟨_, n3⟩ := h3.four (by omega) i2
   rcases n3 with n3 | n3
   ·obtain ⟨_, n2⟩ := h2.four (by omega) i1
    rcases n2 with n2 | n2
    ·obtain ⟨_, n1⟩ := h1.four (by omega) (.inl rfl)
     rcases n1 with n1 | n1
     ·cases n1
     ·exact n1 hf.1
    ·exact n2 hf.2.1
   ·exact n3 hf.2.2.1
  ·exact n4 hf.2.2.2
end Go.Proofs.YtjamfkafgfpobaaGreatDoor
namespace Go.Proofs.YtjamfkafgfpobaaGreatDoor
open Go.RowKit Nb
theorem yis_two {W : World} {z : Yq} {f : Yv} {e1 e2 : Int} (h1 : PutIs W z.y f.Y 0 e1) (h2 : PutIs W z.u f.U e1 e2) : YIs W z f e2 := by
 by_cases he : e2 = 0
 ·obtain ⟨k1, f2, g2⟩ := h2.zero he
  obtain ⟨k0, f1, g1⟩ := h1.zero k1
  exact .inl ⟨he, ⟨f1, f2⟩, g1, g2⟩
 ·have i1 : e1 = 0 ∨ e1 = 4 := by
   by_cases h : e1 = 0
   ·exact .inl h
   ·exact .inr (h1.four h (.inl rfl)).1
  obtain ⟨k2, n2⟩ := h2.four he i1
  refine .inr ⟨k2, fun hf => ?_⟩
  rcases n2 with n2 | n2
  ·obtain ⟨_, n1⟩ := h1.four (by omega) (.inl rfl)
   rcases n1 with n1 | n1
   ·cases n1
   ·exact n1 hf.1
  ·exact n2 hf.2
end Go.Proofs.YtjamfkafgfpobaaGreatDoor
namespace Go.Proofs.YtjamfkafgfpobaaGreatDoor
open Go.RowKit Nb
set_option maxHeartbeats 8000000 in
set_option maxRecDepth 20000 in
theorem y_putM {q p s t : Rat} {a b c d : Fv} {w : World} (La : Ff w q a) (Lb : Ff w p b) (Lc : Ff w s c) (Ld : Ff w t d) {g : Nat} {e0 : Int} (Kg : Box w g [.int .i64 e0]) (Zg : Fz w g) :
    Calls Tryz.prog 80 #[fv a, fv b, fv c, fv d, .pointer (some ⟨g, 0, none⟩)] w (fun e w' => ∃ (f : Fv) (e1 : Int), e = .returned (fv f) ∧ PutIs w' (q * p + s * t) f e0 e1 ∧ Box w' g [.int .i64 e1] ∧ Fz w' g ∧ But g w w') := by
 have hg0 := Kg.lt
 have BW : But g w w := But.refl _ _
 obtain ⟨V2, e3, hb4, K5, -, z1⟩ := alloc_new w [.bool a.n, .slice a.A a.xs.length a.c, .bool a.m, .slice a.B a.ds.length a.d] 27
 have n6 : g ≠ w.heap.size := Nat.ne_of_lt (Kg.lt)
 replace Kg := Kg.on hb4
 replace Zg := Zg.on hb4
 replace La := La.kp (Kept.of hb4)
 replace Lb := Lb.kp (Kept.of hb4)
 replace Lc := Lc.kp (Kept.of hb4)
 replace Ld := Ld.kp (Kept.of hb4)
 replace BW := BW.go hg0 hb4
 clear hb4
 obtain ⟨V8, e9, hb10, K11, -, z7⟩ := alloc_new V2 [.bool b.n, .slice b.A b.xs.length b.c, .bool b.m, .slice b.B b.ds.length b.d] 27
 rw [z1] at K11 z7
 have n12 : g ≠ w.heap.size + 1 := Nat.ne_of_lt (z1 ▸ Kg.lt)
 replace Kg := Kg.on hb10
 replace K5 := K5.on hb10
 replace Zg := Zg.on hb10
 replace La := La.kp (Kept.of hb10)
 replace Lb := Lb.kp (Kept.of hb10)
 replace Lc := Lc.kp (Kept.of hb10)
 replace Ld := Ld.kp (Kept.of hb10)
 replace BW := BW.go hg0 hb10
 clear hb10
 obtain ⟨V14, e15, hb16, K17, -, z13⟩ := alloc_new V8 [.bool c.n, .slice c.A c.xs.length c.c, .bool c.m, .slice c.B c.ds.length c.d] 27
 rw [z7] at K17 z13
 have n18 : g ≠ w.heap.size + 1 + 1 := Nat.ne_of_lt (z7 ▸ Kg.lt)
 replace Kg := Kg.on hb16
 replace K5 := K5.on hb16
 replace K11 := K11.on hb16
 replace Zg := Zg.on hb16
 replace La := La.kp (Kept.of hb16)
 replace Lb := Lb.kp (Kept.of hb16)
 replace Lc := Lc.kp (Kept.of hb16)
 replace Ld := Ld.kp (Kept.of hb16)
 replace BW := BW.go hg0 hb16
 clear hb16
 obtain ⟨V20, e21, hb22, K23, -, z19⟩ := alloc_new V14 [.bool d.n, .slice d.A d.xs.length d.c, .bool d.m, .slice d.B d.ds.length d.d] 27
 rw [z13] at K23 z19
 have n24 : g ≠ w.heap.size + 1 + 1 + 1 := Nat.ne_of_lt (z13 ▸ Kg.lt)
 replace Kg := Kg.on hb22
 replace K5 := K5.on hb22
 replace K11 := K11.on hb22
 replace K17 := K17.on hb22
 replace Zg := Zg.on hb22
 replace La := La.kp (Kept.of hb22)
 replace Lb := Lb.kp (Kept.of hb22)
 replace Lc := Lc.kp (Kept.of hb22)
 replace Ld := Ld.kp (Kept.of hb22)
 replace BW := BW.go hg0 hb22
 clear hb22
 obtain ⟨V25, e26, hb27, K28, Z29, -⟩ := alloc_new V20 [.bool false, .slice none 0 0, .bool false, .slice none 0 0] 27
 rw [z19] at K28 Z29
 have n30 : g ≠ w.heap.size + 1 + 1 + 1 + 1 := Nat.ne_of_lt (z19 ▸ Kg.lt)
 have n31 : w.heap.size ≠ w.heap.size + 1 + 1 + 1 + 1 := Nat.ne_of_lt (z19 ▸ K5.lt)
 have n32 : w.heap.size + 1 ≠ w.heap.size + 1 + 1 + 1 + 1 := Nat.ne_of_lt (z19 ▸ K11.lt)
 have n33 : w.heap.size + 1 + 1 ≠ w.heap.size + 1 + 1 + 1 + 1 := Nat.ne_of_lt (z19 ▸ K17.lt)
 have n34 : w.heap.size + 1 + 1 + 1 ≠ w.heap.size + 1 + 1 + 1 + 1 := Nat.ne_of_lt (z19 ▸ K23.lt)
 have g35 : w.heap.size ≤ w.heap.size + 1 + 1 + 1 + 1 := z19 ▸ BW.size
 replace Kg := Kg.on hb27
 replace K5 := K5.on hb27
 replace K11 := K11.on hb27
 replace K17 := K17.on hb27
 replace K23 := K23.on hb27
 replace Zg := Zg.on hb27
 replace La := La.kp (Kept.of hb27)
 replace Lb := Lb.kp (Kept.of hb27)
 replace Lc := Lc.kp (Kept.of hb27)
 replace Ld := Ld.kp (Kept.of hb27)
 replace BW := BW.go hg0 hb27
 clear hb27
 clear z1 z7 z13 z19
 go_enter Tryz.func80, Tryz.ntmps80
 go_wp2_with fail
 rw [← e3, ← e9, ← e15, ← e21, ← e26]
 clear e3 e9 e15 e21 e26
 refine (y_sum La Lb Lc Ld).mono ?_
 rintro _ w36 ⟨f1, rfl, h1, hb⟩
 replace Kg := Kg.on hb
 replace K5 := K5.on hb
 replace K11 := K11.on hb
 replace K17 := K17.on hb
 replace K23 := K23.on hb
 replace K28 := K28.on hb
 replace Zg := Zg.on hb
 replace Z29 := Z29.on hb
 replace BW := BW.go hg0 hb
 clear hb
 go_wp2_with fail
 refine (q_fit h1 (by decide)).mono ?_
 rintro _ w37 ⟨f2, er, rfl, h2, hb⟩
 replace Kg := Kg.on hb
 replace K5 := K5.on hb
 replace K11 := K11.on hb
 replace K17 := K17.on hb
 replace K23 := K23.on hb
 replace K28 := K28.on hb
 replace Zg := Zg.on hb
 replace Z29 := Z29.on hb
 replace BW := BW.go hg0 hb
 clear hb
 obtain ⟨V39, e40, hb41, K42, Z43, z38⟩ := alloc_new w37 [.bool f2.n, .slice f2.A f2.xs.length f2.c, .bool f2.m, .slice f2.B f2.ds.length f2.d] 27
 have n44 : g ≠ w37.heap.size := Nat.ne_of_lt (Kg.lt)
 have n45 : w.heap.size ≠ w37.heap.size := Nat.ne_of_lt (K5.lt)
 have n46 : w.heap.size + 1 ≠ w37.heap.size := Nat.ne_of_lt (K11.lt)
 have n47 : w.heap.size + 1 + 1 ≠ w37.heap.size := Nat.ne_of_lt (K17.lt)
 have n48 : w.heap.size + 1 + 1 + 1 ≠ w37.heap.size := Nat.ne_of_lt (K23.lt)
 have n49 : w.heap.size + 1 + 1 + 1 + 1 ≠ w37.heap.size := Nat.ne_of_lt (K28.lt)
 have g50 : w.heap.size ≤ w37.heap.size := BW.size
 replace Kg := Kg.on hb41
 replace K5 := K5.on hb41
 replace K11 := K11.on hb41
 replace K17 := K17.on hb41
 replace K23 := K23.on hb41
 replace K28 := K28.on hb41
 replace Zg := Zg.on hb41
 replace Z29 := Z29.on hb41
 replace h2 := h2.kp (Kept.of hb41)
 replace BW := BW.go hg0 hb41
 clear hb41
 have c51 := Kg.c1
 rw [e40] at c51
 obtain ⟨V52, e53, hb54, K55, Z56, -⟩ := alloc_new V39 [.int .i64 e0, .int .i64 er] 38
 rw [z38] at K55 Z56
 have n57 : g ≠ w37.heap.size + 1 := Nat.ne_of_lt (z38 ▸ Kg.lt)
 have n58 : w.heap.size ≠ w37.heap.size + 1 := Nat.ne_of_lt (z38 ▸ K5.lt)
 have n59 : w.heap.size + 1 ≠ w37.heap.size + 1 := Nat.ne_of_lt (z38 ▸ K11.lt)
 have n60 : w.heap.size + 1 + 1 ≠ w37.heap.size + 1 := Nat.ne_of_lt (z38 ▸ K17.lt)
 have n61 : w.heap.size + 1 + 1 + 1 ≠ w37.heap.size + 1 := Nat.ne_of_lt (z38 ▸ K23.lt)
 have n62 : w.heap.size + 1 + 1 + 1 + 1 ≠ w37.heap.size + 1 := Nat.ne_of_lt (z38 ▸ K28.lt)
 have n63 : w37.heap.size ≠ w37.heap.size + 1 := Nat.ne_of_lt (z38 ▸ K42.lt)
 have g64 : w.heap.size ≤ w37.heap.size + 1 := z38 ▸ BW.size
 replace Kg := Kg.on hb54
 replace K28 := K28.on hb54
 replace K42 := K42.on hb54
 replace Zg := Zg.on hb54
 replace Z29 := Z29.on hb54
 replace h2 := h2.kp (Kept.of hb54)
 replace BW := BW.go hg0 hb54
 clear hb54
 clear z38
 go_wp2_with fail
 clear c51
 rw [← e40, ← e53]
 clear e40 e53
 generalize w37.heap.size + 1 = b65 at *
 generalize w37.heap.size = b66 at *
 refine (cor_two K55).mono ?_
 rintro _ w67 ⟨rfl, hb⟩
 replace Kg := Kg.on hb
 replace K28 := K28.on hb
 replace K42 := K42.on hb
 replace Zg := Zg.on hb
 replace Z29 := Z29.on hb
 replace h2 := h2.kp (Kept.of hb)
 replace BW := BW.go hg0 hb
 clear hb
 obtain ⟨e1, he1⟩ : ∃ x, orE e0 er = x := ⟨_, rfl⟩
 rw [he1]
 have HE := Lib.hid he1
 clear he1
 have c68 := Kg.c1
 have c69 := Zg.f1
 obtain ⟨V70, hk72⟩ : ∃ V70, V70 = w67.setCells (g) 0 [.int .i64 e1] := ⟨_, rfl⟩
 have e71 := hk72
 simp only [World.setCells] at e71
 have hk73 := Kept.overE hk72 Kg rfl (by simp)
 replace Kg := Kg.overE hk72 rfl
 replace K28 := K28.awayE hk72 n30.symm
 replace K42 := K42.awayE hk72 n44.symm
 replace Zg := Zg.putE hk72
 replace Z29 := Z29.putE hk72
 replace h2 := h2.kp hk73
 replace BW := BW.own hk72 hk73
 clear hk72 hk73
 obtain ⟨c74, c75, c76, c77⟩ := K42.c4
 rw [e71] at c74 c75 c76 c77
 obtain ⟨c78, c79, c80, c81⟩ := K28.c4
 obtain ⟨c82, c83, c84, c85⟩ := Z29.f4
 rw [e71] at c78 c79 c80 c81 c82 c83 c84 c85
 obtain ⟨V86, hk88⟩ : ∃ V86, V86 = V70.setCells (w.heap.size + 1 + 1 + 1 + 1) 0 [.bool f2.n, .slice f2.A f2.xs.length f2.c, .bool f2.m, .slice f2.B f2.ds.length f2.d] := ⟨_, rfl⟩
 have e87 := hk88
 simp only [World.setCells, Nat.zero_add, Nat.reduceAdd] at e87
 have hk89 := Kept.overE hk88 K28 rfl (by simp)
 replace Kg := Kg.awayE hk88 n30
 replace K28 := K28.overE hk88 rfl
 replace Zg := Zg.putE hk88
 replace h2 := h2.kp hk89
 replace BW := BW.put hk88 hk89 g35 hg0
 clear hk88 hk89
 go_wp2_with fail
 clear c68 c69 c74 c75 c76 c77 c78 c79 c80 c81 c82 c83 c84 c85
 rw [← e71, ← e87]
 clear e71 e87
 obtain ⟨c90, c91, c92, c93⟩ := K28.c4
 exact bodyPost_ret (v := fv f2) (by simp [results, Tryz.results80, go_sem, c90, c91, c92, c93]) rfl ⟨f2, e1, rfl, put_of h2 HE.out, Kg, Zg, BW⟩
end Go.Proofs.YtjamfkafgfpobaaGreatDoor
namespace Go.Proofs.YtjamfkafgfpobaaGreatDoor
open Go.RowKit Nb
set_option maxHeartbeats 8000000 in
set_option maxRecDepth 20000 in
theorem y_putY {q p s t : Rat} {a b c d : Fv} {w : World} (La : Ff w q a) (Lb : Ff w p b) (Lc : Ff w s c) (Ld : Ff w t d) {g : Nat} {e0 : Int} (Kg : Box w g [.int .i64 e0]) (Zg : Fz w g) :
    Calls Tryz.prog 77 #[fv a, fv b, fv c, fv d, .pointer (some ⟨g, 0, none⟩)] w (fun e w' => ∃ (f : Fv) (e1 : Int), e = .returned (fv f) ∧ PutIs w' (q * p + s * t) f e0 e1 ∧ Box w' g [.int .i64 e1] ∧ Fz w' g ∧ But g w w') := by
 have hg0 := Kg.lt
 have BW : But g w w := But.refl _ _
 obtain ⟨V2, e3, hb4, K5, -, z1⟩ := alloc_new w [.bool a.n, .slice a.A a.xs.length a.c, .bool a.m, .slice a.B a.ds.length a.d] 27
 have n6 : g ≠ w.heap.size := Nat.ne_of_lt (Kg.lt)
 replace Kg := Kg.on hb4
 replace Zg := Zg.on hb4
 replace La := La.kp (Kept.of hb4)
 replace Lb := Lb.kp (Kept.of hb4)
 replace Lc := Lc.kp (Kept.of hb4)
 replace Ld := Ld.kp (Kept.of hb4)
 replace BW := BW.go hg0 hb4
 clear hb4
 obtain ⟨V8, e9, hb10, K11, -, z7⟩ := alloc_new V2 [.bool b.n, .slice b.A b.xs.length b.c, .bool b.m, .slice b.B b.ds.length b.d] 27
 rw [z1] at K11 z7
 have n12 : g ≠ w.heap.size + 1 := Nat.ne_of_lt (z1 ▸ Kg.lt)
 replace Kg := Kg.on hb10
 replace K5 := K5.on hb10
 replace Zg := Zg.on hb10
 replace La := La.kp (Kept.of hb10)
 replace Lb := Lb.kp (Kept.of hb10)
 replace Lc := Lc.kp (Kept.of hb10)
 replace Ld := Ld.kp (Kept.of hb10)
 replace BW := BW.go hg0 hb10
 clear hb10
 obtain ⟨V14, e15, hb16, K17, -, z13⟩ := alloc_new V8 [.bool c.n, .slice c.A c.xs.length c.c, .bool c.m, .slice c.B c.ds.length c.d] 27
 rw [z7] at K17 z13
 have n18 : g ≠ w.heap.size + 1 + 1 := Nat.ne_of_lt (z7 ▸ Kg.lt)
 replace Kg := Kg.on hb16
 replace K5 := K5.on hb16
 replace K11 := K11.on hb16
 replace Zg := Zg.on hb16
 replace La := La.kp (Kept.of hb16)
 replace Lb := Lb.kp (Kept.of hb16)
 replace Lc := Lc.kp (Kept.of hb16)
 replace Ld := Ld.kp (Kept.of hb16)
 replace BW := BW.go hg0 hb16
 clear hb16
 obtain ⟨V20, e21, hb22, K23, -, z19⟩ := alloc_new V14 [.bool d.n, .slice d.A d.xs.length d.c, .bool d.m, .slice d.B d.ds.length d.d] 27
 rw [z13] at K23 z19
 have n24 : g ≠ w.heap.size + 1 + 1 + 1 := Nat.ne_of_lt (z13 ▸ Kg.lt)
 replace Kg := Kg.on hb22
 replace K5 := K5.on hb22
 replace K11 := K11.on hb22
 replace K17 := K17.on hb22
 replace Zg := Zg.on hb22
 replace La := La.kp (Kept.of hb22)
 replace Lb := Lb.kp (Kept.of hb22)
 replace Lc := Lc.kp (Kept.of hb22)
 replace Ld := Ld.kp (Kept.of hb22)
 replace BW := BW.go hg0 hb22
 clear hb22
 obtain ⟨V25, e26, hb27, K28, Z29, -⟩ := alloc_new V20 [.bool false, .slice none 0 0, .bool false, .slice none 0 0] 27
 rw [z19] at K28 Z29
 have n30 : g ≠ w.heap.size + 1 + 1 + 1 + 1 := Nat.ne_of_lt (z19 ▸ Kg.lt)
 have n31 : w.heap.size ≠ w.heap.size + 1 + 1 + 1 + 1 := Nat.ne_of_lt (z19 ▸ K5.lt)
 have n32 : w.heap.size + 1 ≠ w.heap.size + 1 + 1 + 1 + 1 := Nat.ne_of_lt (z19 ▸ K11.lt)
 have n33 : w.heap.size + 1 + 1 ≠ w.heap.size + 1 + 1 + 1 + 1 := Nat.ne_of_lt (z19 ▸ K17.lt)
 have n34 : w.heap.size + 1 + 1 + 1 ≠ w.heap.size + 1 + 1 + 1 + 1 := Nat.ne_of_lt (z19 ▸ K23.lt)
 have g35 : w.heap.size ≤ w.heap.size + 1 + 1 + 1 + 1 := z19 ▸ BW.size
 replace Kg := Kg.on hb27
 replace K5 := K5.on hb27
 replace K11 := K11.on hb27
 replace K17 := K17.on hb27
 replace K23 := K23.on hb27
 replace Zg := Zg.on hb27
 replace La := La.kp (Kept.of hb27)
 replace Lb := Lb.kp (Kept.of hb27)
 replace Lc := Lc.kp (Kept.of hb27)
 replace Ld := Ld.kp (Kept.of hb27)
 replace BW := BW.go hg0 hb27
 clear hb27
 clear z1 z7 z13 z19
 go_enter Tryz.func77, Tryz.ntmps77
 go_wp2_with fail
 rw [← e3, ← e9, ← e15, ← e21, ← e26]
 clear e3 e9 e15 e21 e26
 refine (y_sum La Lb Lc Ld).mono ?_
 rintro _ w36 ⟨f1, rfl, h1, hb⟩
 replace Kg := Kg.on hb
 replace K5 := K5.on hb
 replace K11 := K11.on hb
 replace K17 := K17.on hb
 replace K23 := K23.on hb
 replace K28 := K28.on hb
 replace Zg := Zg.on hb
 replace Z29 := Z29.on hb
 replace BW := BW.go hg0 hb
 clear hb
 go_wp2_with fail
 refine (q_fit h1 (by decide)).mono ?_
 rintro _ w37 ⟨f2, er, rfl, h2, hb⟩
 replace Kg := Kg.on hb
 replace K5 := K5.on hb
 replace K11 := K11.on hb
 replace K17 := K17.on hb
 replace K23 := K23.on hb
 replace K28 := K28.on hb
 replace Zg := Zg.on hb
 replace Z29 := Z29.on hb
 replace BW := BW.go hg0 hb
 clear hb
 obtain ⟨V39, e40, hb41, K42, Z43, z38⟩ := alloc_new w37 [.bool f2.n, .slice f2.A f2.xs.length f2.c, .bool f2.m, .slice f2.B f2.ds.length f2.d] 27
 have n44 : g ≠ w37.heap.size := Nat.ne_of_lt (Kg.lt)
 have n45 : w.heap.size ≠ w37.heap.size := Nat.ne_of_lt (K5.lt)
 have n46 : w.heap.size + 1 ≠ w37.heap.size := Nat.ne_of_lt (K11.lt)
 have n47 : w.heap.size + 1 + 1 ≠ w37.heap.size := Nat.ne_of_lt (K17.lt)
 have n48 : w.heap.size + 1 + 1 + 1 ≠ w37.heap.size := Nat.ne_of_lt (K23.lt)
 have n49 : w.heap.size + 1 + 1 + 1 + 1 ≠ w37.heap.size := Nat.ne_of_lt (K28.lt)
 have g50 : w.heap.size ≤ w37.heap.size := BW.size
 replace Kg := Kg.on hb41
 replace K5 := K5.on hb41
 replace K11 := K11.on hb41
 replace K17 := K17.on hb41
 replace K23 := K23.on hb41
 replace K28 := K28.on hb41
 replace Zg := Zg.on hb41
 replace Z29 := Z29.on hb41
 replace h2 := h2.kp (Kept.of hb41)
 replace BW := BW.go hg0 hb41
 clear hb41
 have c51 := Kg.c1
 rw [e40] at c51
 obtain ⟨V52, e53, hb54, K55, Z56, -⟩ := alloc_new V39 [.int .i64 e0, .int .i64 er] 38
 rw [z38] at K55 Z56
 have n57 : g ≠ w37.heap.size + 1 := Nat.ne_of_lt (z38 ▸ Kg.lt)
 have n58 : w.heap.size ≠ w37.heap.size + 1 := Nat.ne_of_lt (z38 ▸ K5.lt)
 have n59 : w.heap.size + 1 ≠ w37.heap.size + 1 := Nat.ne_of_lt (z38 ▸ K11.lt)
 have n60 : w.heap.size + 1 + 1 ≠ w37.heap.size + 1 := Nat.ne_of_lt (z38 ▸ K17.lt)
 have n61 : w.heap.size + 1 + 1 + 1 ≠ w37.heap.size + 1 := Nat.ne_of_lt (z38 ▸ K23.lt)
 have n62 : w.heap.size + 1 + 1 + 1 + 1 ≠ w37.heap.size + 1 := Nat.ne_of_lt (z38 ▸ K28.lt)
 have n63 : w37.heap.size ≠ w37.heap.size + 1 := Nat.ne_of_lt (z38 ▸ K42.lt)
 have g64 : w.heap.size ≤ w37.heap.size + 1 := z38 ▸ BW.size
 replace Kg := Kg.on hb54
 replace K28 := K28.on hb54
 replace K42 := K42.on hb54
 replace Zg := Zg.on hb54
 replace Z29 := Z29.on hb54
 replace h2 := h2.kp (Kept.of hb54)
 replace BW := BW.go hg0 hb54
 clear hb54
 clear z38
 go_wp2_with fail
 clear c51
 rw [← e40, ← e53]
 clear e40 e53
 generalize w37.heap.size + 1 = b65 at *
 generalize w37.heap.size = b66 at *
 refine (cor_two K55).mono ?_
 rintro _ w67 ⟨rfl, hb⟩
 replace Kg := Kg.on hb
 replace K28 := K28.on hb
 replace K42 := K42.on hb
 replace Zg := Zg.on hb
 replace Z29 := Z29.on hb
 replace h2 := h2.kp (Kept.of hb)
 replace BW := BW.go hg0 hb
 clear hb
 obtain ⟨e1, he1⟩ : ∃ x, orE e0 er = x := ⟨_, rfl⟩
 rw [he1]
 have HE := Lib.hid he1
 clear he1
 have c68 := Kg.c1
 have c69 := Zg.f1
 obtain ⟨V70, hk72⟩ : ∃ V70, V70 = w67.setCells (g) 0 [.int .i64 e1] := ⟨_, rfl⟩
 have e71 := hk72
 simp only [World.setCells] at e71
 have hk73 := Kept.overE hk72 Kg rfl (by simp)
 replace Kg := Kg.overE hk72 rfl
 replace K28 := K28.awayE hk72 n30.symm
 replace K42 := K42.awayE hk72 n44.symm
 replace Zg := Zg.putE hk72
 replace Z29 := Z29.putE hk72
 replace h2 := h2.kp hk73
 replace BW := BW.own hk72 hk73
 clear hk72 hk73
 obtain ⟨c74, c75, c76, c77⟩ := K42.c4
 rw [e71] at c74 c75 c76 c77
 obtain ⟨c78, c79, c80, c81⟩ := K28.c4
 obtain ⟨c82, c83, c84, c85⟩ := Z29.f4
 rw [e71] at c78 c79 c80 c81 c82 c83 c84 c85
 obtain ⟨V86, hk88⟩ : ∃ V86, V86 = V70.setCells (w.heap.size + 1 + 1 + 1 + 1) 0 [.bool f2.n, .slice f2.A f2.xs.length f2.c, .bool f2.m, .slice f2.B f2.ds.length f2.d] := ⟨_, rfl⟩
 have e87 := hk88
 simp only [World.setCells, Nat.zero_add, Nat.reduceAdd] at e87
 have hk89 := Kept.overE hk88 K28 rfl (by simp)
 replace Kg := Kg.awayE hk88 n30
 replace K28 := K28.overE hk88 rfl
 replace Zg := Zg.putE hk88
 replace h2 := h2.kp hk89
 replace BW := BW.put hk88 hk89 g35 hg0
 clear hk88 hk89
 go_wp2_with fail
 clear c68 c69 c74 c75 c76 c77 c78 c79 c80 c81 c82 c83 c84 c85
 rw [← e71, ← e87]
 clear e71 e87
 obtain ⟨c90, c91, c92, c93⟩ := K28.c4
 exact bodyPost_ret (v := fv f2) (by simp [results, Tryz.results77, go_sem, c90, c91, c92, c93]) rfl ⟨f2, e1, rfl, put_of h2 HE.out, Kg, Zg, BW⟩
end Go.Proofs.YtjamfkafgfpobaaGreatDoor
namespace Go.Proofs.YtjamfkafgfpobaaGreatDoor
open Go.RowKit Nb
section
variable {W : World} {m : Mv} {y : Yv}
theorem Xy.xY (h : Xy W y) : Fx W y.Y := h.1
end
end Go.Proofs.YtjamfkafgfpobaaGreatDoor
namespace Go.Proofs.YtjamfkafgfpobaaGreatDoor
open Go.RowKit Nb
section
variable {W : World} {m : Mv} {y : Yv}
theorem Xy.xU (h : Xy W y) : Fx W y.U := h.2
end
end Go.Proofs.YtjamfkafgfpobaaGreatDoor
namespace Go.Proofs.YtjamfkafgfpobaaGreatDoor
open Go.RowKit Nb
set_option maxHeartbeats 8000000 in
set_option maxRecDepth 20000 in
theorem y_chkRay {y : Yv} {w : World} (X : Xy w y) :
    Calls Tryz.prog 40 #[yv y] w (fun e w' => e = .returned (.int .i64 (orE (chkv y.Y) (chkv y.U))) ∧ Below w.heap.size w w') := by
 have BW : Below w.heap.size w w := Below.refl _ _
 obtain ⟨V1, e2, hb3, K4, -, -⟩ := alloc_new w [.bool y.Y.n, .slice y.Y.A y.Y.xs.length y.Y.c, .bool y.Y.m, .slice y.Y.B y.Y.ds.length y.Y.d, .bool y.U.n, .slice y.U.A y.U.xs.length y.U.c, .bool y.U.m, .slice y.U.B y.U.ds.length y.U.d] 29
 replace K4 : Box V1 (w.heap.size) (ycs y) := K4
 replace X := X.kp (Kept.of hb3)
 replace BW := BW.trans (hb3.mono BW.size)
 clear hb3
 go_enter Tryz.func40, Tryz.ntmps40
 go_wp2_with fail
 rw [← e2]
 clear e2
 refine wp_region_noPanic ?_
 have hb : Below V1.heap.size V1 V1.drew := (Below.refl _ _).drew
 replace K4 := K4.on hb
 replace X := X.kp (Kept.of hb)
 replace BW := BW.trans (hb.mono BW.size)
 clear hb
 refine wp_region_held_drew (S := (fun wx => Cs wx (w.heap.size) 0 [.bool y.Y.n, .slice y.Y.A y.Y.xs.length y.Y.c, .bool y.Y.m, .slice y.Y.B y.Y.ds.length y.Y.d, .bool y.U.n, .slice y.U.A y.U.xs.length y.U.c, .bool y.U.m, .slice y.U.B y.U.ds.length y.U.d])) (by kernel_rfl) (by exact K4.cs) (fun hHeld => ?_)
 generalize V1.drew = Vd5 at *
 refine pT 0 ?_
 (try simp only [p0, p1, p2, p3])
 refine pT 1 ?_
 (try simp only [p0, p1, p2, p3])
 refine pT 3 ?_
 (try simp only [p0, p1, p2, p3])
 refine pT 4 ?_
 (try simp only [p0, p1, p2, p3])
 refine pR1 2 (fun K hK => ?_)
 go_simp
 (go_at_call 31; with_reducible refine (r_check X.xY).mono ?_)
 rintro _ w6 ⟨rfl, hb⟩
 (try go_wp2_with fail)
 replace K4 := K4.on hb
 replace X := X.kp (Kept.of hb)
 replace BW := BW.trans (hb.mono BW.size)
 clear hb
 clear hHeld
 refine hK.out _ _ (by exact K4.cs) (fun hHeld => ?_)
 clear hK
 (try simp only [p0, p1, p2, p3])
 refine pR1 5 (fun K hK => ?_)
 go_simp
 (go_at_call 31; with_reducible refine (r_check X.xU).mono ?_)
 rintro _ w7 ⟨rfl, hb⟩
 (try go_wp2_with fail)
 replace K4 := K4.on hb
 replace BW := BW.trans (hb.mono BW.size)
 clear hb
 clear hHeld
 refine hK.out _ _ (by exact K4.cs) (fun hHeld => ?_)
 clear hK
 (try simp only [p0, p1, p2, p3])
 refine pR1 6 (fun K hK => ?_)
 go_simp
 obtain ⟨V8, e9, hb10, K11, -, -⟩ := alloc_new w7 [.int .i64 (chkv y.Y), .int .i64 (chkv y.U)] 38
 replace K4 := K4.on hb10
 replace BW := BW.trans (hb10.mono BW.size)
 clear hb10
 rw [← e9]
 clear e9
 generalize w7.heap.size = b12 at *
 clear hHeld
 refine hK.out _ _ (by exact K4.cs) (fun hHeld => ?_)
 clear hK
 (try simp only [p0, p1, p2, p3])
 refine pR1 7 (fun K hK => ?_)
 go_simp
 (go_at_call 39; with_reducible refine (cor_two K11).mono ?_)
 rintro _ w13 ⟨rfl, hb⟩
 (try go_wp2_with fail)
 replace K4 := K4.on hb
 replace BW := BW.trans (hb.mono BW.size)
 clear hb
 clear hHeld
 refine hK.out _ _ (by exact K4.cs) (fun hHeld => ?_)
 clear hK
 (try simp only [p0, p1, p2, p3])
 refine pT 8 ?_
 (try simp only [p0, p1, p2, p3])
 refine wpAnyH_done (by kernel_rfl) (NoPanic.normal ?_) _
 go_wp2
 go_ret
 exact ⟨rfl, BW⟩
end Go.Proofs.YtjamfkafgfpobaaGreatDoor
namespace Go.Proofs.YtjamfkafgfpobaaGreatDoor
open Go.RowKit Nb
section
variable {m n o : Mq} {r s : Yq}
theorem Mq.det_one : Mq.one.det = 1 := by simp only [Mq.one, Mq.det]; grind
end
end Go.Proofs.YtjamfkafgfpobaaGreatDoor
namespace Go.Proofs.YtjamfkafgfpobaaGreatDoor
open Go.RowKit Nb
section
variable {m n o : Mq} {r s : Yq}
theorem Mq.mir_two : (m.mul n).mir = n.mir.mul m.mir := by
 apply Mq.ext4 <;> simp only [Mq.mul, Mq.mir] <;> grind
end
end Go.Proofs.YtjamfkafgfpobaaGreatDoor
namespace Go.Proofs.YtjamfkafgfpobaaGreatDoor
open Go.RowKit Nb
theorem cor_zero {g l : Nat} {w : World} (K : Box w g [.int .i64 0, .int .i64 0]) :
  Calls Tryz.prog 39 #[.slice (some ⟨g, 0, none⟩) 2 l] w fun e w' => e = .returned (.int .i64 0) ∧ Below w.heap.size w w' := cor_two K
end Go.Proofs.YtjamfkafgfpobaaGreatDoor
