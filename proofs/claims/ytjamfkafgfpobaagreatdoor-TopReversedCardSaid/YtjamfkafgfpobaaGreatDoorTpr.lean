/-
  A bench the other way round. Conditions: as each theorem states.
-/
import Derived.Test.YtjamfkafgfpobaaGreatDoorTp0
import Derived.Test.YtjamfkafgfpobaaGreatDoorXta
import Derived.Deep.RegionHeld3
import Derived.Deep.DeepCutAuto
import Derived.BigRegion
namespace Go.Proofs.YtjamfkafgfpobaaGreatDoor
open Go.RowKit Nb
def e0 : Ev := ⟨0, fv0, fv0⟩
end Go.Proofs.YtjamfkafgfpobaaGreatDoor
namespace Go.Proofs.YtjamfkafgfpobaaGreatDoor
open Go.RowKit Nb
theorem infoE3 : (Tryz.prog.info? 65).map (fun i => (i.zero, i.size, i.bytes)) = some (some (ev e0), 9, 136) := by kernel_rfl
end Go.Proofs.YtjamfkafgfpobaaGreatDoor
namespace Go.Proofs.YtjamfkafgfpobaaGreatDoor
open Go.RowKit Nb
theorem rep_flatE : ∀ n : Nat, (List.replicate n (ev e0).cells.toList).flatten = (List.replicate n e0).flatMap ecs
 | 0 => rfl
 | n + 1 => by rw [List.replicate_succ, List.flatten_cons, rep_flatE n, List.replicate_succ, List.flatMap_cons]; rfl
end Go.Proofs.YtjamfkafgfpobaaGreatDoor
namespace Go.Proofs.YtjamfkafgfpobaaGreatDoor
open Go.RowKit Nb
section
variable {W V : World} {p o g : Nat} {us vs : List Value}
theorem wp_stE {op : Oper} {a : Act} {K : Act → World → Prop} {Q : Exit → Act → World → Prop} {x y : Operand} (ho : op.op = .store 65 x y) (hx : a.eval x = .pointer (some ⟨p, o, none⟩)) (hy : a.eval y = .agg vs.toArray) (B : Box W p us) (Z : Fz W p) (hl : o + vs.length ≤ us.length) (hv : vs.length = 9) (h1 : vs.all (·.oneCell') = true)
  (h : K (a.put op.dst undef) (W.setCells p o vs)) : op.wp Tryz.prog a W K Q := by
 have hr := run_store_at (P := Tryz.prog) (vs := vs) B Z 65 (by rw [infoE, hv]) hl h1
 unfold Oper.wp execOp
 simp only [ho, hx, hy, Instr.storeAt, Instr.sureAddr, Sem.run_bind, Sem.run_pure, Result.andThen_ok, hr]
 exact h
end
end Go.Proofs.YtjamfkafgfpobaaGreatDoor
namespace Go.Proofs.YtjamfkafgfpobaaGreatDoor
open Go.RowKit Nb
section
variable {W V : World} {p o g : Nat} {us vs : List Value}
theorem ixH {ev : Operand → Value} {oi : Oper} {x y : Operand} {n c i : Nat} (ho : oi.op = .indexAddr 22 x y) (hx : ev x = .slice (some ⟨g, 0, none⟩) n c) (hy : ev y = .int .i64 (i : Int)) (hi : i < n) : (execOp ev oi).run Tryz.prog W = .ok (.value (.pointer (some ⟨g, i * 9, none⟩))) W := by
 have h1 : (i : Int) < (n : Int) := by omega
 have h0 : (0 : Int) ≤ (i : Int) := by omega
 unfold execOp
 simp only [ho, hx, hy, Sem.run_bind, Sem.run_pure]
 go_simp
end
end Go.Proofs.YtjamfkafgfpobaaGreatDoor
namespace Go.Proofs.YtjamfkafgfpobaaGreatDoor
open Go.RowKit Nb
section
variable {W V : World} {p o g : Nat} {us vs : List Value}
theorem wpList_makeE {ops : Array Oper} {rest : List Oper} {op : Oper} {a : Act} {Q : Exit → Act → World → Prop} {l c : Operand} {n : Nat} (hgd : op.guard = none) (ho : op.op = Op.makeSlice 22 l c) (hl : a.eval l = .int .i64 (n : Int)) (hc : a.eval c = .int .i64 (n : Int)) (hn : n ≤ 4096)
  (h : ∀ V : World, Below W.heap.size W V → Box V W.heap.size ((List.replicate n e0).flatMap ecs) → Fz V W.heap.size → V.heap.size = W.heap.size + 1 → wpList Tryz.prog ops Q rest (a.put op.dst (.slice (some ⟨W.heap.size, 0, none⟩) n n)) V) : wpList Tryz.prog ops Q (op :: rest) a W :=
 wpList_plain hgd fun _ hK => by
  have hi := infoE3
  cases hq : Tryz.prog.info? 65 with
  | none => rw [hq] at hi; cases hi
  | some i =>
   rw [hq] at hi
   simp only [Option.map_some, Option.some.injEq, Prod.mk.injEq] at hi
   obtain ⟨hz, hs, hby⟩ := hi
   have hr := run_make (P := Tryz.prog) W 22 65 i (ev e0) Tryz.underlying22 hq hz .i64 .i64 n n (by omega) (by omega) (by rw [hby]; omega) (by omega)
   simp only [Int.toNat_natCast, hs] at hr
   have hm : (madeCells (ev e0).cells (n * 9)).toList = (List.replicate n e0).flatMap ecs := by
    have := made_list (ev e0).cells n (by decide)
    rw [show (ev e0).cells.size = 9 from rfl] at this
    rw [this]
    exact rep_flatE n
   obtain ⟨V, hV, hb, K, Z, hsz⟩ := alloc_new W (madeCells (ev e0).cells (n * 9)).toList 65
   rw [Array.toArray_toList] at hV
   rw [hm] at K
   unfold Oper.wp execOp
   simp only [ho, hl, hc, hr, Sem.run_bind, Sem.run_pure, Result.andThen_ok, ← hV]
   exact hK _ _ (h V hb K Z hsz)
end
end Go.Proofs.YtjamfkafgfpobaaGreatDoor
namespace Go.Proofs.YtjamfkafgfpobaaGreatDoor
open Go.RowKit Nb
section
variable {W V : World} {p o g : Nat} {us vs : List Value}
theorem rowE_set {xs : List Ev} {k : Nat} {e : Ev} (K : Box W g (xs.flatMap ecs)) (hk : k < xs.length) (h : V = W.setCells g (k * 9) (ecs e)) : Box V g ((xs.set k e).flatMap ecs) ∧ Kept W V :=
 have hl : k * 9 + (ecs e).length ≤ (xs.flatMap ecs).length := by rw [flat_len ecs_len, ecs_len]; omega
 ⟨K.part h (flat_set ecs_len e xs k hk) hl, Kept.overE h K (flat_soft ecs_soft xs) hl⟩
end
end Go.Proofs.YtjamfkafgfpobaaGreatDoor
namespace Go.Proofs.YtjamfkafgfpobaaGreatDoor
open Go.RowKit Nb
section
variable {W V : World} {p o g : Nat} {us vs : List Value}
theorem Fe.xe {z : Eq} {e : Ev} (h : Fe W z e) (hm : z.may) : Xe W e := ⟨by have := h.1; rcases hm with ⟨h, _⟩ | ⟨h, _⟩ | ⟨h, _⟩ | h | ⟨h, _⟩ <;> omega, h.2.1.fx, h.2.2.fx⟩
end
end Go.Proofs.YtjamfkafgfpobaaGreatDoor
namespace Go.Proofs.YtjamfkafgfpobaaGreatDoor
open Go.RowKit Nb
section
variable {W V : World} {p o g : Nat} {us vs : List Value}
theorem Fes.xe {zs : List Eq} {es : List Ev} (h : Fes W zs es) : ∀ e ∈ es, Xe W e := fun e he => by
 obtain ⟨i, hi, rfl⟩ := List.getElem_of_mem he
 have := h.2 i (zs[i]'(by rw [h.1]; exact hi)) _ (List.getElem?_eq_getElem _) (List.getElem?_eq_getElem hi)
 exact this.1.xe this.2
end
end Go.Proofs.YtjamfkafgfpobaaGreatDoor
namespace Go.Proofs.YtjamfkafgfpobaaGreatDoor
open Go.RowKit Nb
/-- Cells of a block from a place on; the block is there. -/
def AtC (W : World) (p o : Nat) (vs : List Value) : Prop := p < W.heap.size ∧ AtB W p o vs
end Go.Proofs.YtjamfkafgfpobaaGreatDoor
namespace Go.Proofs.YtjamfkafgfpobaaGreatDoor
open Go.RowKit Nb
section
variable {W W' : World} {p o g : Nat} {us vs : List Value}
theorem AtC.on (h : AtC W p o us) (hb : Below W.heap.size W W') : AtC W' p o us := ⟨Nat.lt_of_lt_of_le h.1 hb.size, h.2.on h.1 hb⟩
end
end Go.Proofs.YtjamfkafgfpobaaGreatDoor
namespace Go.Proofs.YtjamfkafgfpobaaGreatDoor
open Go.RowKit Nb
section
variable {W V : World} {p o g : Nat} {us vs : List Value}
theorem subH {ev : Operand → Value} {oi : Oper} {x y : Operand} {A B c : Int} (ho : oi.op = .binOp .sub 3 x y 3) (hx : ev x = .int .i64 A) (hy : ev y = .int .i64 B) (hr : IntKind.i64.wrap (A - B) = c) : (execOp ev oi).run Tryz.prog W = .ok (.value (.int .i64 c)) W := by
 subst hr
 unfold execOp
 simp only [ho, hx, hy, Sem.run_bind, Sem.run_pure]
 go_simp
end
end Go.Proofs.YtjamfkafgfpobaaGreatDoor
namespace Go.Proofs.YtjamfkafgfpobaaGreatDoor
open Go.RowKit Nb
section
variable {W V : World} {p o g : Nat} {us vs : List Value}
theorem rev_step {zs : List Eq} {xs : List Ev} {k n : Nat} {z : Eq} {f : Ev} (hn : xs.length = n) (hk : k < n) (h : ∀ (i : Nat) (z : Eq) (x : Ev), i < k → zs[i]? = some z → xs[n - 1 - i]? = some x → Fe W z x) (kp : Kept W V) (hz : zs[k]? = some z) (hf : Fe V z f) :
  ∀ (i : Nat) (y : Eq) (x : Ev), i < k + 1 → zs[i]? = some y → (xs.set (n - 1 - k) f)[n - 1 - i]? = some x → Fe V y x := fun i y x hi hy hx => by
 by_cases he : i = k
 ·subst he
  rw [hz] at hy
  cases hy
  rw [List.getElem?_set_self (by omega)] at hx
  cases hx
  exact hf
 ·rw [List.getElem?_set_ne (by omega)] at hx
  exact (h i y x (by omega) hy hx).kp kp
end
end Go.Proofs.YtjamfkafgfpobaaGreatDoor
namespace Go.Proofs.YtjamfkafgfpobaaGreatDoor
open Go.RowKit Nb
section
variable {W V : World} {p o g : Nat} {us vs : List Value}
theorem rev_fes {zs : List Eq} {xs es : List Ev} (hF : Fes W zs es) (hn : xs.length = es.length) (h : ∀ (i : Nat) (z : Eq) (x : Ev), i < es.length → zs[i]? = some z → xs[es.length - 1 - i]? = some x → Fe W z x) : Fes W zs.reverse xs := by
 refine ⟨by rw [List.length_reverse, hF.1, hn], fun i z x hz hx => ?_⟩
 have hi : i < xs.length := (List.getElem?_eq_some_iff.1 hx).1
 have hl := hF.1
 rw [List.getElem?_reverse (by omega)] at hz
 have h1 := h (zs.length - 1 - i) z x (by omega) hz (by rw [show es.length - 1 - (zs.length - 1 - i) = i by omega]; exact hx)
 exact ⟨h1, (hF.2 _ z (es[zs.length - 1 - i]'(by omega)) hz (List.getElem?_eq_getElem _)).2⟩
end
end Go.Proofs.YtjamfkafgfpobaaGreatDoor
namespace Go.Proofs.YtjamfkafgfpobaaGreatDoor
open Go.RowKit Nb
set_option maxHeartbeats 8000000 in
set_option maxRecDepth 20000 in
theorem b_copied {q : Rat} {a : Fv} {w : World} (La : Ff w q a) :
    Calls Tryz.prog 48 #[fv a] w (GF w q) := by
 have BW : Below w.heap.size w w := Below.refl _ _
 obtain ⟨V2, e3, hb4, K5, -, z1⟩ := alloc_new w [.bool a.n, .slice a.A a.xs.length a.c, .bool a.m, .slice a.B a.ds.length a.d] 27
 replace La := La.kp (Kept.of hb4)
 replace BW := BW.trans (hb4.mono BW.size)
 clear hb4
 obtain ⟨V6, e7, hb8, K9, Z10, -⟩ := alloc_new V2 [.bool false, .slice none 0 0, .bool false, .slice none 0 0] 27
 rw [z1] at K9 Z10
 have n11 : w.heap.size ≠ w.heap.size + 1 := Nat.ne_of_lt (z1 ▸ K5.lt)
 have g12 : w.heap.size ≤ w.heap.size + 1 := z1 ▸ BW.size
 replace La := La.kp (Kept.of hb8)
 replace BW := BW.trans (hb8.mono BW.size)
 clear hb8
 clear z1
 go_enter Tryz.func48, Tryz.ntmps48
 go_wp2_with fail
 rw [← e3, ← e7]
 clear e3 e7
 refine (q_from La).mono ?_
 rintro _ w13 ⟨f1, rfl, L1, hb⟩
 replace K9 := K9.on hb
 replace Z10 := Z10.on hb
 replace La := La.kp (Kept.of hb)
 replace BW := BW.trans (hb.mono BW.size)
 clear hb
 go_wp2_with fail
 refine (q_frac L1 La.fits (by decide)).mono ?_
 rintro _ w14 ⟨f, rfl, L, hb⟩
 replace K9 := K9.on hb
 replace Z10 := Z10.on hb
 replace BW := BW.trans (hb.mono BW.size)
 clear hb
 obtain ⟨c15, c16, c17, c18⟩ := K9.c4
 obtain ⟨c19, c20, c21, c22⟩ := Z10.f4
 obtain ⟨V23, hk25⟩ : ∃ V23, V23 = w14.setCells (w.heap.size + 1) 0 [.bool f.n, .slice f.A f.xs.length f.c, .bool f.m, .slice f.B f.ds.length f.d] := ⟨_, rfl⟩
 have e24 := hk25
 simp only [World.setCells, Nat.zero_add, Nat.reduceAdd] at e24
 have hk26 := Kept.overE hk25 K9 rfl (Nat.le_of_ble_eq_true rfl)
 replace K9 := K9.overE hk25 rfl
 replace L := L.kp hk26
 replace BW := Below.putE BW hk25 g12
 clear hk25 hk26
 go_wp2_with fail
 clear c15 c16 c17 c18 c19 c20 c21 c22
 rw [← e24]
 clear e24
 obtain ⟨c27, c28, c29, c30⟩ := K9.c4
 exact bodyPost_ret (v := fv f) (by simp [results, Tryz.results48, go_sem, c27, c28, c29, c30]) rfl ⟨f, rfl, L, BW⟩
end Go.Proofs.YtjamfkafgfpobaaGreatDoor
namespace Go.Proofs.YtjamfkafgfpobaaGreatDoor
open Go.RowKit Nb
set_option maxHeartbeats 16000000 in
set_option maxRecDepth 100000 in
theorem b_reverse {a : Option Addr} {c : Nat} {es : List Ev} {zs : List Eq} {w : World} (S : Sle w a c es) (hF : Fes w zs es) (hn : es.length ≤ 4096) :
    Calls Tryz.prog 18 #[.slice a es.length c] w (fun e w' => ∃ (a2 : Option Addr) (c2 : Nat) (xs : List Ev), e = .returned (.tuple #[.slice a2 xs.length c2, .int .i64 0]) ∧ xs.length = es.length ∧ Fes w' zs.reverse xs ∧ Sle w' a2 c2 xs ∧ Below w.heap.size w w') := by
 have HS := Lib.hid S
 have HF := Lib.hid hF
 have hn2 : (es.length : Int) ≤ 4096 := by omega
 clear S hF hn
 have BW : Below w.heap.size w w := Below.refl _ _
 go_enter Tryz.func18, Tryz.ntmps18
 go_wp2_with fail
 have BW0 := Lib.hid BW
 refine (b_check (HS.out.on BW)).mono ?_
 rintro _ w1 ⟨r, rfl, hr, hb⟩
 replace BW := BW.trans (hb.mono BW.size)
 clear hb
 obtain rfl : r = 0 := hr.yes (by omega) (HF.out.kp (Kept.of BW0.out)).may
 clear hr
 go_wp2_with (first | (refine wpList_makeE (n := es.length) (by rfl) (by rfl) (by rfl) (by rfl) (by omega) ?_; intro V hbV KV ZV hzV))
 have gh : w.heap.size ≤ w1.heap.size := BW.size
 replace BW := BW.trans (hbV.mono BW.size)
 generalize w1.heap.size = h at *
 clear hbV hzV
 go_loopw [18] (fun iv wr => ∃ (k : Nat) (xs : List Ev), iv = .int .i64 (k : Nat) ∧ k ≤ es.length ∧ xs.length = es.length ∧ (∀ (i : Nat) (z : Eq) (x : Ev), i < k → zs[i]? = some z → xs[es.length - 1 - i]? = some x → Fe wr z x) ∧ Box wr h (xs.flatMap ecs) ∧ Fz wr h ∧ Below w.heap.size w wr) (fun iv _ => es.length - (intOf iv).toNat)
 case atStart => exact ⟨0, List.replicate es.length e0, rfl, by omega, by simp, fun i z m hi => by omega, KV, ZV, BW⟩
 case round =>
  obtain ⟨k, xs, rfl, hk, hxl, hG, KH, ZH, BW⟩ := hrel
  have HG := Lib.hid hG
  clear hG
  by_cases hlt : k < es.length
  ·have h2 : (k : Int) < (es.length : Int) := by omega
   obtain ⟨e, he⟩ : ∃ e, es[k]? = some e := ⟨_, List.getElem?_eq_getElem hlt⟩
   obtain ⟨z, hz⟩ : ∃ z, zs[k]? = some z := ⟨_, List.getElem?_eq_getElem (by rw [HF.out.1]; exact hlt)⟩
   obtain ⟨g, o, ha, hg, hat0⟩ := HS.out.2.2.2 k e he
   have hat : AtB wr g (o + k * 9) [.int .u8 e.k, .bool e.P.n, .slice e.P.A e.P.xs.length e.P.c, .bool e.P.m, .slice e.P.B e.P.ds.length e.P.d, .bool e.Q.n, .slice e.Q.A e.Q.xs.length e.Q.c, .bool e.Q.m, .slice e.Q.B e.Q.ds.length e.Q.d] := hat0.on hg BW
   have X := (HF.out.2 k z e hz he).1.kp (Kept.of BW)
   have HZ := Lib.hid hz
   have hs1 : IntKind.i64.wrap ((es.length : Int) - 1) = ((es.length - 1 : Nat) : Int) := by rw [wrap_small (by omega) (by omega)]; omega
   obtain ⟨j, hj⟩ : ∃ j : Nat, j = es.length - 1 - k := ⟨_, rfl⟩
   have hs2 : IntKind.i64.wrap (((es.length - 1 : Nat) : Int) - (k : Int)) = (j : Int) := by rw [wrap_small (by omega) (by omega)]; omega
   have hj2 : j < es.length := by omega
   have HS1 := Lib.hid hs1
   have HS2 := Lib.hid hs2
   have HJ := Lib.hid hj
   have HJ2 := Lib.hid hj2
   clear hs1 hs2 hj hj2 hat0 he hz
   subst ha
   have KP : Kept wr wr := Kept.of (Below.refl _ _)
   obtain ⟨V501, e502, hb503, K504, -, -⟩ := alloc_new wr [.int .u8 e.k, .bool e.P.n, .slice e.P.A e.P.xs.length e.P.c, .bool e.P.m, .slice e.P.B e.P.ds.length e.P.d, .bool e.Q.n, .slice e.Q.A e.Q.xs.length e.Q.c, .bool e.Q.m, .slice e.Q.B e.Q.ds.length e.Q.d] 65
   have n505 : h ≠ wr.heap.size := Nat.ne_of_lt (KH.lt)
   replace KH := KH.on hb503
   replace ZH := ZH.on hb503
   replace X := X.kp (Kept.of hb503)
   replace KP := KP.kp (Kept.of hb503)
   replace BW := BW.trans (hb503.mono BW.size)
   clear hb503
   go_wp2_with (first | (refine wpList_ldE (by rfl) (by rfl) (by rfl) hat (by rfl) ?_))
   rw [← e502]
   clear e502
   generalize wr.heap.size = b506 at *
   go_wp2_with fail
   refine wp_region_noPanic ?_
   have hb : Below V501.heap.size V501 V501.drew := (Below.refl _ _).drew
   replace KH := KH.on hb
   replace K504 := K504.on hb
   replace ZH := ZH.on hb
   replace X := X.kp (Kept.of hb)
   replace KP := KP.kp (Kept.of hb)
   replace BW := BW.trans (hb.mono BW.size)
   clear hb
   refine wp_region_held_drew (S := (fun wx => Cs wx (b506) 0 [.int .u8 e.k, .bool e.P.n, .slice e.P.A e.P.xs.length e.P.c, .bool e.P.m, .slice e.P.B e.P.ds.length e.P.d, .bool e.Q.n, .slice e.Q.A e.Q.xs.length e.Q.c, .bool e.Q.m, .slice e.Q.B e.Q.ds.length e.Q.d])) (by kernel_rfl) (by exact K504.cs) (fun hHeld => ?_)
   generalize V501.drew = Vd507 at *
   refine pT 0 ?_
   (try simp only [p0, p1, p2, p3])
   refine pT 1 ?_
   (try simp only [p0, p1, p2, p3])
   refine pT 2 ?_
   (try simp only [p0, p1, p2, p3])
   refine pT 3 ?_ (hy := fun wt hSw => subH rfl rfl rfl HS1.out)
   (try simp only [p0, p1, p2, p3])
   refine pT 4 ?_
   (try simp only [p0, p1, p2, p3])
   refine pT 5 ?_ (hy := fun wt hSw => subH rfl rfl rfl HS2.out)
   (try simp only [p0, p1, p2, p3])
   refine pT 6 ?_
   (try simp only [p0, p1, p2, p3])
   refine pT 7 ?_
   (try simp only [p0, p1, p2, p3])
   refine pT 8 ?_
   (try simp only [p0, p1, p2, p3])
   refine pT 9 ?_
   (try simp only [p0, p1, p2, p3])
   refine pT 11 ?_
   (try simp only [p0, p1, p2, p3])
   refine pT 12 ?_
   (try simp only [p0, p1, p2, p3])
   refine pR1 10 (fun K hK => ?_)
   go_simp
   (go_at_call 48; with_reducible refine (b_copied X.fP).mono ?_)
   rintro _ w508 ⟨f1, rfl, L1, hb⟩
   (try go_wp2_with fail)
   replace KH := KH.on hb
   replace K504 := K504.on hb
   replace ZH := ZH.on hb
   replace X := X.kp (Kept.of hb)
   replace KP := KP.kp (Kept.of hb)
   replace BW := BW.trans (hb.mono BW.size)
   clear hb
   clear hHeld
   refine hK.out _ _ (by exact K504.cs) (fun hHeld => ?_)
   clear hK
   (try simp only [p0, p1, p2, p3])
   refine pR1 13 (fun K hK => ?_)
   go_simp
   (go_at_call 48; with_reducible refine (b_copied X.fQ).mono ?_)
   rintro _ w509 ⟨f2, rfl, L2, hb⟩
   (try go_wp2_with fail)
   replace KH := KH.on hb
   replace K504 := K504.on hb
   replace ZH := ZH.on hb
   replace X := X.kp (Kept.of hb)
   replace KP := KP.kp (Kept.of hb)
   replace L1 := L1.kp (Kept.of hb)
   replace BW := BW.trans (hb.mono BW.size)
   clear hb
   clear hHeld
   refine hK.out _ _ (by exact K504.cs) (fun hHeld => ?_)
   clear hK
   (try simp only [p0, p1, p2, p3])
   refine pT 14 ?_
   (try simp only [p0, p1, p2, p3])
   refine pT 15 ?_ (hy := fun wt hSw => ixH rfl rfl rfl HJ2.out)
   (try simp only [p0, p1, p2, p3])
   refine pR1 16 (fun K hK => ?_)
   obtain ⟨V9, hk9⟩ : ∃ V9, V9 = w509.setCells h (j * 9) (ecs ⟨e.k, f1, f2⟩) := ⟨_, rfl⟩
   have HK9 := Lib.hid hk9
   have hl9 : j * 9 + (ecs ⟨e.k, f1, f2⟩).length ≤ (xs.flatMap ecs).length := by rw [flat_len ecs_len, ecs_len, hxl]; have := HJ2.out; omega
   refine ite_yes (by rfl) (wp_stE (vs := ecs ⟨e.k, f1, f2⟩) rfl rfl rfl KH ZH hl9 rfl rfl ?_)
   rw [← HK9.out]
   obtain ⟨KH9, kp9⟩ := rowE_set (xs := xs) (k := j) KH (by rw [hxl]; exact HJ2.out) hk9
   clear KH
   have KH := KH9
   clear KH9
   replace ZH := ZH.putE hk9
   replace K504 := K504.awayE hk9 n505.symm
   replace X := X.kp kp9
   replace KP := KP.kp kp9
   replace L1 := L1.kp kp9
   replace L2 := L2.kp kp9
   replace BW := Below.putE BW hk9 gh
   clear hk9 hl9 kp9
   clear hHeld
   refine hK.out _ _ (by exact K504.cs) (fun hHeld => ?_)
   clear hK
   (try simp only [p0])
   refine wpAnyH_done (by kernel_rfl) (NoPanic.normal ?_) _
   have HG9 := Lib.hid (rev_step (k := k) (f := ⟨e.k, f1, f2⟩) hxl (by omega) HG.out KP HZ.out ⟨X.1, L1, L2⟩)
   go_wp2
   go_roundw
   case rel => exact ⟨k + 1, xs.set j ⟨e.k, f1, f2⟩, by go_num, by omega, by rw [List.length_set]; exact hxl, by rw [HJ.out]; exact HG9.out, KH, ZH, BW⟩
   case measure => simp [intOf]; omega
  ·obtain rfl : k = es.length := by omega
   have F2 := rev_fes (HF.out.kp (Kept.of BW)) hxl HG.out
   go_wp2_with fail
   exact bodyPost_ret (v := .tuple #[.slice (some ⟨h, 0, none⟩) es.length es.length, .int .i64 0]) (by simp [results, Tryz.results18, go_sem]) rfl ⟨some ⟨h, 0, none⟩, es.length, xs, congrArg (fun n => Ending.returned (.tuple #[.slice (some ⟨h, 0, none⟩) n es.length, .int .i64 0])) hxl.symm, hxl, F2, row_sle KH (fun i e he => he) F2.xe (by omega) (by simp only [maxLen]; omega), BW⟩
end Go.Proofs.YtjamfkafgfpobaaGreatDoor
namespace Go.Proofs.YtjamfkafgfpobaaGreatDoor
open Go.RowKit Nb
theorem Eq.mir (z : Eq) : z.mat.mir = z.mat := by
 unfold Eq.mat
 split
 ·rfl
 ·split
  ·rfl
  ·split
   ·rfl
   ·split
    ·rfl
    ·rfl
end Go.Proofs.YtjamfkafgfpobaaGreatDoor
namespace Go.Proofs.YtjamfkafgfpobaaGreatDoor
open Go.RowKit Nb
theorem chainM_rev : ∀ l : List Mq, (∀ m ∈ l, m.mir = m) → chainM l.reverse = (chainM l).mir
 | [], _ => rfl
 | m :: r, h => by rw [List.reverse_cons, chainM_app, chainM_one, chainM_rev r (fun x hx => h x (by simp [hx])), chainM, Mq.mir_two, h m (by simp)]
end Go.Proofs.YtjamfkafgfpobaaGreatDoor
namespace Go.Proofs.YtjamfkafgfpobaaGreatDoor
open Go.RowKit Nb
theorem rev_mir (zs : List Eq) : benchM zs.reverse = (benchM zs).mir := by
 unfold benchM
 rw [List.map_reverse]
 exact chainM_rev _ fun m hm => by
  obtain ⟨z, _, rfl⟩ := List.mem_map.1 hm
  exact z.mir
end Go.Proofs.YtjamfkafgfpobaaGreatDoor
