/-
  Plain elements as the layers hand them on. Conditions: as each theorem states.
-/
import Derived.Test.YtjamfkafgfpobaaGreatBe7
import Derived.Test.YtjamfkafgfpobaaGreatBd1
import Derived.Deep.RegionHeld3
import Derived.Deep.DeepCutAuto
import Derived.BigRegion
namespace Go.Proofs.YtjamfkafgfpobaaGreat
open Go.RowKit Nb
theorem infoP : (Tryz.prog.info? 113).map (·.size) = some 5 := by kernel_rfl
theorem wpList_ldP {W : World} {p o : Nat} {us : List Value} {ops : Array Oper} {rest : List Oper} {op : Oper} {a : Act} {Q : Exit → Act → World → Prop} {x : Operand} (hw : Region.wanted op (yielded ops a.tmps) = true) (ho : op.op = .load 113 x) (hx : a.eval x = .pointer (some ⟨p, o, none⟩)) (K : AtB W p o us) (hl : us.length = 5)
  (h : wpList Tryz.prog ops Q rest (a.put op.dst (.agg us.toArray)) W) : wpList Tryz.prog ops Q (op :: rest) a W :=
 wpList_step fun _ hK => by
  rw [if_pos hw]
  have hr := run_load_at (P := Tryz.prog) K 113 _ Tryz.underlying113 rfl (by rw [infoP, hl])
  unfold Oper.wp execOp
  simp only [ho, hx, Instr.loadAt, Instr.sureAddr, Sem.run_bind, Sem.run_pure, Result.andThen_ok, hr]
  exact hK _ _ h
def zeq (z : Int × Rat) : Eq := ⟨z.1, z.2, 0⟩
/-- A row of plain elements, to be read. -/
def Spa (W : World) (a : Option Addr) (xs : List Pv) : Prop := ∀ (i : Nat) (x : Pv), xs[i]? = some x → ∃ g : Nat, a = some ⟨g, 0, none⟩ ∧ g < W.heap.size ∧ AtB W g (i * 5) (pcs x)
theorem fit_step {W V : World} {zs : List (Int × Rat)} {ys : List Ev} {k n : Nat} {z : Int × Rat} {f : Ev} (hn : ys.length = n) (hk : k < n) (h : ∀ (i : Nat) (z : Int × Rat) (x : Ev), i < k → zs[i]? = some z → ys[i]? = some x → FitsQ z.2 ∧ Fe W (zeq z) x) (kp : Kept W V) (hz : zs[k]? = some z) (hf : FitsQ z.2 ∧ Fe V (zeq z) f) :
  ∀ (i : Nat) (y : Int × Rat) (x : Ev), i < k + 1 → zs[i]? = some y → (ys.set k f)[i]? = some x → FitsQ y.2 ∧ Fe V (zeq y) x := fun i y x hi hy hx => by
 by_cases he : i = k
 · subst he
   rw [hz] at hy
   cases hy
   rw [List.getElem?_set_self (by omega)] at hx
   cases hx
   exact hf
 · rw [List.getElem?_set_ne (by omega)] at hx
   have h1 := h i y x (by omega) hy hx
   exact ⟨h1.1, h1.2.kp kp⟩
/-- What fit answers. -/
def FitIs (w : World) (zs : List (Int × Rat)) (e : Ending) (w' : World) : Prop := (((∀ z ∈ zs, FitsQ z.2) ∧ ∃ (a : Option Addr) (c : Nat) (es : List Ev), e = .returned (.tuple #[.slice a es.length c, .int .i64 0]) ∧ Fes w' (zs.map zeq) es ∧ Sle w' a c es) ∨ ((∃ z ∈ zs, ¬ FitsQ z.2) ∧ e = .returned (.tuple #[.slice none 0 0, .int .i64 4]))) ∧ Below w.heap.size w w'
theorem fit_end {W : World} {zs : List (Int × Rat)} {ys : List Ev} {n : Nat} (hn : ys.length = n) (hl : zs.length = n) (hm : ∀ z ∈ zs, (zeq z).may) (h : ∀ (i : Nat) (z : Int × Rat) (x : Ev), i < n → zs[i]? = some z → ys[i]? = some x → FitsQ z.2 ∧ Fe W (zeq z) x) : (∀ z ∈ zs, FitsQ z.2) ∧ Fes W (zs.map zeq) ys := by
 refine ⟨fun z hz => ?_, by simp [hl, hn], fun i z x h1 h2 => ?_⟩
 · obtain ⟨i, hi, rfl⟩ := List.getElem_of_mem hz
   exact (h i _ (ys[i]'(by omega)) (by omega) (List.getElem?_eq_getElem hi) (List.getElem?_eq_getElem _)).1
 · rw [List.getElem?_map] at h1
   cases hy : zs[i]? with
   | none => rw [hy] at h1; cases h1
   | some y =>
    rw [hy] at h1
    cases h1
    exact ⟨(h i y x (by have := (List.getElem?_eq_some_iff.1 h2).1; omega) hy h2).2, hm y (List.mem_of_getElem? hy)⟩
set_option maxHeartbeats 16000000 in
set_option maxRecDepth 100000 in
theorem p_fit {a : Option Addr} {c C : Nat} {xs : List Pv} {zs : List (Int × Rat)} {w : World} (S : Spa w a xs) (GS : Gps w zs xs C) (hC : C ≤ 1759218604390) (hn : xs.length ≤ 4096) (hm : ∀ z ∈ zs, (zeq z).may) :
    Calls Tryz.prog 69 #[.slice a xs.length c] w (FitIs w zs) := by
 have HS := Lib.hid S
 have HF := Lib.hid GS
 have HM := Lib.hid hm
 have hn2 : (xs.length : Int) ≤ 4096 := by omega
 clear S GS hm
 have BW : Below w.heap.size w w := Below.refl _ _
 go_enter Tryz.func69, Tryz.ntmps69
 go_wp2_with (first | (refine wpList_makeE (n := xs.length) (by rfl) (by rfl) (by rfl) (by rfl) (by omega) ?_; intro V hbV KV ZV hzV))
 have gh : w.heap.size ≤ w.heap.size := Nat.le_refl _
 replace BW := BW.trans (hbV.mono BW.size)
 clear hbV hzV
 go_loopw [14] (fun iv wr => ∃ (k : Nat) (ys : List Ev), iv = .int .i64 (k : Nat) ∧ k ≤ xs.length ∧ ys.length = xs.length ∧ (∀ (i : Nat) (z : Int × Rat) (x : Ev), i < k → zs[i]? = some z → ys[i]? = some x → FitsQ z.2 ∧ Fe wr (zeq z) x) ∧ Box wr (w.heap.size) (ys.flatMap ecs) ∧ Fz wr (w.heap.size) ∧ Below w.heap.size w wr) (fun iv _ => xs.length - (intOf iv).toNat)
 case atStart => exact ⟨0, List.replicate xs.length e0, rfl, by omega, by simp, fun i z m hi => by omega, KV, ZV, BW⟩
 case round =>
   obtain ⟨k, ys, rfl, hk, hxl, hG, KH, ZH, BW⟩ := hrel
   have HG := Lib.hid hG
   clear hG
   by_cases hlt : k < xs.length
   · have h2 : (k : Int) < (xs.length : Int) := by omega
     obtain ⟨x, he⟩ : ∃ x, xs[k]? = some x := ⟨_, List.getElem?_eq_getElem hlt⟩
     obtain ⟨z, hz⟩ : ∃ z, zs[k]? = some z := ⟨_, List.getElem?_eq_getElem (by rw [HF.out.1]; exact hlt)⟩
     obtain ⟨g, ha, hg, hat0⟩ := HS.out k x he
     have hat : AtB wr g (k * 5) [.int .u8 x.k, .bool x.P.n, .slice x.P.A x.P.xs.length x.P.c, .bool x.P.m, .slice x.P.B x.P.ds.length x.P.d] := hat0.on hg BW
     have X := (HF.out.2 k z x hz he).2.kp (Kept.of BW)
     have hzk : z.1 = x.k := (HF.out.2 k z x hz he).1
     have HZ := Lib.hid hz
     have HZK := Lib.hid hzk
     have HJ2 := Lib.hid hlt
     have KP : Kept wr wr := Kept.of (Below.refl _ _)
     clear he hat0 hz hzk
     subst ha
     obtain ⟨V501, e502, hb503, K504, Z505, -⟩ := alloc_new wr [.int .u8 x.k, .bool x.P.n, .slice x.P.A x.P.xs.length x.P.c, .bool x.P.m, .slice x.P.B x.P.ds.length x.P.d] 113
     have n506 : (w.heap.size) ≠ wr.heap.size := Nat.ne_of_lt (KH.lt)
     have g507 : w.heap.size ≤ wr.heap.size := BW.size
     replace KH := KH.on hb503
     replace ZH := ZH.on hb503
     replace X := X.kp (Kept.of hb503)
     replace KP := KP.kp (Kept.of hb503)
     replace BW := BW.trans (hb503.mono BW.size)
     clear hb503
     go_wp2_with (first | (refine wpList_ldP (by rfl) (by rfl) (by rfl) hat (by rfl) ?_))
     rw [← e502]
     clear e502
     generalize wr.heap.size = b508 at *
     obtain ⟨c509, c510, c511, c512, c513⟩ := K504.c5
     go_wp2_with fail
     clear c509 c510 c511 c512 c513
     refine (q_fit X hC).mono ?_
     rintro _ w514 ⟨f1, er, rfl, k1, hb⟩
     replace KH := KH.on hb
     replace K504 := K504.on hb
     replace ZH := ZH.on hb
     replace Z505 := Z505.on hb
     replace X := X.kp (Kept.of hb)
     replace KP := KP.kp (Kept.of hb)
     replace BW := BW.trans (hb.mono BW.size)
     clear hb
     rcases k1 with ⟨_, F1, rfl, L1⟩ | ⟨⟨hh1, _⟩ | ⟨_, N1, rfl⟩, -⟩
     · obtain ⟨V515, e516, hb517, K518, Z519, -⟩ := alloc_new w514 [.bool f1.n, .slice f1.A f1.xs.length f1.c, .bool f1.m, .slice f1.B f1.ds.length f1.d] 29
       have n520 : (w.heap.size) ≠ w514.heap.size := Nat.ne_of_lt (KH.lt)
       have n521 : b508 ≠ w514.heap.size := Nat.ne_of_lt (K504.lt)
       have g522 : w.heap.size ≤ w514.heap.size := BW.size
       replace KH := KH.on hb517
       replace K504 := K504.on hb517
       replace ZH := ZH.on hb517
       replace Z505 := Z505.on hb517
       replace X := X.kp (Kept.of hb517)
       replace KP := KP.kp (Kept.of hb517)
       replace L1 := L1.kp (Kept.of hb517)
       replace BW := BW.trans (hb517.mono BW.size)
       clear hb517
       go_wp2_with fail
       rw [← e516]
       clear e516
       generalize w514.heap.size = b523 at *
       refine wp_region_noPanic ?_
       have hb : Below V515.heap.size V515 V515.drew := (Below.refl _ _).drew
       replace KH := KH.on hb
       replace K504 := K504.on hb
       replace K518 := K518.on hb
       replace ZH := ZH.on hb
       replace Z505 := Z505.on hb
       replace Z519 := Z519.on hb
       replace X := X.kp (Kept.of hb)
       replace KP := KP.kp (Kept.of hb)
       replace L1 := L1.kp (Kept.of hb)
       replace BW := BW.trans (hb.mono BW.size)
       clear hb
       refine wp_region_held_drew (S := (fun wx => Cs wx (b508) 0 [.int .u8 x.k, .bool x.P.n, .slice x.P.A x.P.xs.length x.P.c, .bool x.P.m, .slice x.P.B x.P.ds.length x.P.d] ∧ Cs wx (b523) 0 [.bool f1.n, .slice f1.A f1.xs.length f1.c, .bool f1.m, .slice f1.B f1.ds.length f1.d])) (by kernel_rfl) (by exact ⟨K504.cs, K518.cs⟩) (fun hHeld => ?_)
       generalize V515.drew = Vd524 at *
       refine pT 0 ?_
       (try simp only [p0, p1, p2, p3])
       refine pT 1 ?_
       (try simp only [p0, p1, p2, p3])
       refine pT 2 ?_
       (try simp only [p0, p1, p2, p3])
       refine pT 3 ?_
       (try simp only [p0, p1, p2, p3])
       refine pT 4 ?_
       (try simp only [p0, p1, p2, p3])
       refine pR1 5 (fun K hK => ?_)
       go_simp
       (go_at_call 109; with_reducible refine (b_of (n := 0) (by decide) (by decide)).mono ?_)
       rintro _ w525 ⟨z9, rfl, LZ, hb⟩
       (try go_wp2_with fail)
       replace KH := KH.on hb
       replace K504 := K504.on hb
       replace K518 := K518.on hb
       replace ZH := ZH.on hb
       replace Z505 := Z505.on hb
       replace Z519 := Z519.on hb
       replace X := X.kp (Kept.of hb)
       replace KP := KP.kp (Kept.of hb)
       replace L1 := L1.kp (Kept.of hb)
       replace BW := BW.trans (hb.mono BW.size)
       clear hb
       clear hHeld
       refine hK.out _ _ (by exact ⟨K504.cs, K518.cs⟩) (fun hHeld => ?_)
       clear hK
       (try simp only [p0, p1, p2, p3])
       refine pR1 6 (fun K hK => ?_)
       go_simp
       (go_at_call 87; with_reducible refine (q_frac LZ (fits_int (n := 0) (by decide)) (by decide)).mono ?_)
       rintro _ w526 ⟨f2, rfl, L2, hb⟩
       (try go_wp2_with fail)
       replace KH := KH.on hb
       replace K504 := K504.on hb
       replace K518 := K518.on hb
       replace ZH := ZH.on hb
       replace Z505 := Z505.on hb
       replace Z519 := Z519.on hb
       replace X := X.kp (Kept.of hb)
       replace KP := KP.kp (Kept.of hb)
       replace L1 := L1.kp (Kept.of hb)
       replace LZ := LZ.kp (Kept.of hb)
       replace BW := BW.trans (hb.mono BW.size)
       clear hb
       clear hHeld
       refine hK.out _ _ (by exact ⟨K504.cs, K518.cs⟩) (fun hHeld => ?_)
       clear hK
       (try simp only [p0, p1, p2, p3])
       refine pT 7 ?_
       (try simp only [p0, p1, p2, p3])
       refine pT 8 ?_ (hy := fun wt hSw => ixH rfl rfl rfl HJ2.out)
       (try simp only [p0, p1, p2, p3])
       refine pR1 9 (fun K hK => ?_)
       obtain ⟨V9, hk9⟩ : ∃ V9, V9 = w526.setCells (w.heap.size) (k * 9) (ecs ⟨x.k, f1, f2⟩) := ⟨_, rfl⟩
       have HK9 := Lib.hid hk9
       have hl9 : k * 9 + (ecs ⟨x.k, f1, f2⟩).length ≤ (ys.flatMap ecs).length := by rw [flat_len ecs_len, ecs_len, hxl]; have := HJ2.out; omega
       refine ite_yes (by rfl) (wp_stE (vs := ecs ⟨x.k, f1, f2⟩) rfl rfl rfl KH ZH hl9 rfl rfl ?_)
       rw [← HK9.out]
       obtain ⟨KH9, kp9⟩ := rowE_set (xs := ys) (k := k) KH (by rw [hxl]; exact HJ2.out) hk9
       clear KH
       have KH := KH9
       clear KH9
       replace ZH := ZH.putE hk9
       replace K504 := K504.awayE hk9 n506.symm
       replace Z505 := Z505.putE hk9
       replace K518 := K518.awayE hk9 n520.symm
       replace Z519 := Z519.putE hk9
       replace X := X.kp kp9
       replace KP := KP.kp kp9
       replace L1 := L1.kp kp9
       replace LZ := LZ.kp kp9
       replace L2 := L2.kp kp9
       replace BW := Below.putE BW hk9 gh
       clear hk9 hl9 kp9
       clear hHeld
       refine hK.out _ _ (by exact ⟨K504.cs, K518.cs⟩) (fun hHeld => ?_)
       clear hK
       (try simp only [p0])
       refine wpAnyH_done (by kernel_rfl) (NoPanic.normal ?_) _
       have HG9 := Lib.hid (fit_step (k := k) (f := ⟨x.k, f1, f2⟩) hxl HJ2.out HG.out KP HZ.out ⟨F1, HZK.out, L1, L2⟩)
       go_wp2
       go_roundw
       case rel => exact ⟨k + 1, ys.set k ⟨x.k, f1, f2⟩, by go_num, by have := HJ2.out; omega, by rw [List.length_set]; exact hxl, HG9.out, KH, ZH, BW⟩
       case measure => simp [intOf]; have := HJ2.out; omega
     · exact hh1.elim
     · obtain ⟨V515, e516, hb517, K518, Z519, -⟩ := alloc_new w514 [.bool f1.n, .slice f1.A f1.xs.length f1.c, .bool f1.m, .slice f1.B f1.ds.length f1.d] 29
       have n520 : (w.heap.size) ≠ w514.heap.size := Nat.ne_of_lt (KH.lt)
       have n521 : b508 ≠ w514.heap.size := Nat.ne_of_lt (K504.lt)
       have g522 : w.heap.size ≤ w514.heap.size := BW.size
       replace KH := KH.on hb517
       replace K504 := K504.on hb517
       replace ZH := ZH.on hb517
       replace Z505 := Z505.on hb517
       replace X := X.kp (Kept.of hb517)
       replace KP := KP.kp (Kept.of hb517)
       replace BW := BW.trans (hb517.mono BW.size)
       clear hb517
       go_wp2_with fail
       rw [← e516]
       clear e516
       generalize w514.heap.size = b523 at *
       exact bodyPost_ret (v := .tuple #[.slice none 0 0, .int .i64 4]) (by simp [results, Tryz.results69, go_sem]) rfl ⟨.inr ⟨⟨z, List.mem_of_getElem? HZ.out, N1⟩, rfl⟩, BW⟩
   · obtain rfl : k = xs.length := by omega
     have F2 := fit_end hxl HF.out.1 HM.out HG.out
     go_wp2_with fail
     exact bodyPost_ret (v := .tuple #[.slice (some ⟨(w.heap.size), 0, none⟩) xs.length xs.length, .int .i64 0]) (by simp [results, Tryz.results69, go_sem]) rfl ⟨.inl ⟨F2.1, some ⟨(w.heap.size), 0, none⟩, xs.length, ys, congrArg (fun n => Ending.returned (.tuple #[.slice (some ⟨(w.heap.size), 0, none⟩) n xs.length, .int .i64 0])) hxl.symm, F2.2, row_sle KH (fun i e he => he) F2.2.xe (by omega) (by simp only [maxLen]; omega)⟩, BW⟩
end Go.Proofs.YtjamfkafgfpobaaGreat
