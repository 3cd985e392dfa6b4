/-
  For every two numbers that are handed in, may they be or not, the program's Int64, Check, Sign, Bits and Cmp answer as the document's plain functions do, and leave both as they were (WholeLooks). No conditions.
-/
import Derived.Test.YtdfbakdfakijbaaLook6
import Derived.Test.YtdfbakdfakijbaaPost
import Derived.Deep.DeepCutAuto
namespace Go.Proofs.Ytdfbakdfakijbaa.wholeLooks
open Go.ChangeShapes Go.WideShapes Go.ChangeAt Go.RowKit Nb
set_option linter.unusedVariables false

theorem own : ownKnob Try.prog.godebug = none := by kernel_rfl

/-- Both numbers and their twins, in cells of the call's own. -/
structure Four (w W : World) (p q s t : Nat) (n1 n2 : Bool) (A B : Option Addr) (xs ys : List Nat) (c d ga gb : Nat) : Prop where
  two : Two w W p q n1 n2 A B xs ys xs.length c ys.length d
  twins : Two w W s t n1 n2 (some ⟨ga, 0, none⟩) (some ⟨gb, 0, none⟩) (xs ++ [7777]) (ys ++ [7777]) xs.length (xs.length + 1) ys.length (ys.length + 1)

section
variable {w : World} {s t : Nat} {u0 u1 v0 v1 : Value}
theorem four_a (hst : s ≠ t) (h : (w.cell? ⟨s, 0, none⟩).isSome = true) : ((((w.setCell ⟨s, 0, none⟩ u0).setCell ⟨s, 1, none⟩ u1).setCell ⟨t, 0, none⟩ v0).setCell ⟨t, 1, none⟩ v1).cell? ⟨s, 0, none⟩ = some u0 := by
  rw [World.cell?_setCell_other _ _ _ _ (by first | (simp; done) | (simp; omega)), World.cell?_setCell_other _ _ _ _ (by first | (simp; done) | (simp; omega)), World.cell?_setCell_other _ _ _ _ (by simp), World.cell?_setCell_same' _ _ _ h]
theorem four_b (hst : s ≠ t) (h : (w.cell? ⟨s, 1, none⟩).isSome = true) : ((((w.setCell ⟨s, 0, none⟩ u0).setCell ⟨s, 1, none⟩ u1).setCell ⟨t, 0, none⟩ v0).setCell ⟨t, 1, none⟩ v1).cell? ⟨s, 1, none⟩ = some u1 := by
  rw [World.cell?_setCell_other _ _ _ _ (by first | (simp; done) | (simp; omega)), World.cell?_setCell_other _ _ _ _ (by first | (simp; done) | (simp; omega)), World.cell?_setCell_same' _ _ _ (by rw [World.cell?_setCell_other _ _ _ _ (by simp)]; exact h)]
theorem four_c (hst : s ≠ t) (h : (w.cell? ⟨t, 0, none⟩).isSome = true) : ((((w.setCell ⟨s, 0, none⟩ u0).setCell ⟨s, 1, none⟩ u1).setCell ⟨t, 0, none⟩ v0).setCell ⟨t, 1, none⟩ v1).cell? ⟨t, 0, none⟩ = some v0 := by
  rw [World.cell?_setCell_other _ _ _ _ (by simp), World.cell?_setCell_same' _ _ _ (by rw [World.cell?_setCell_other _ _ _ _ (by first | (simp; done) | (simp; omega)), World.cell?_setCell_other _ _ _ _ (by first | (simp; done) | (simp; omega))]; exact h)]
theorem four_d (hst : s ≠ t) (h : (w.cell? ⟨t, 1, none⟩).isSome = true) : ((((w.setCell ⟨s, 0, none⟩ u0).setCell ⟨s, 1, none⟩ u1).setCell ⟨t, 0, none⟩ v0).setCell ⟨t, 1, none⟩ v1).cell? ⟨t, 1, none⟩ = some v1 := by
  rw [World.cell?_setCell_same' _ _ _ (by rw [World.cell?_setCell_other _ _ _ _ (by simp), World.cell?_setCell_other _ _ _ _ (by first | (simp; done) | (simp; omega)), World.cell?_setCell_other _ _ _ _ (by first | (simp; done) | (simp; omega))]; exact h)]
end

/-- The eight cells. -/
theorem Four.all {w W : World} {p q s t : Nat} {n1 n2 : Bool} {A B : Option Addr} {xs ys : List Nat} {c d ga gb : Nat} (h : Four w W p q s t n1 n2 A B xs ys c d ga gb) :
    Four w W p q s t n1 n2 A B xs ys c d ga gb ∧ W.cell? ⟨p, 0, none⟩ = some (.bool n1) ∧ W.cell? ⟨p, 1, none⟩ = some (.slice A xs.length c) ∧ W.cell? ⟨q, 0, none⟩ = some (.bool n2) ∧ W.cell? ⟨q, 1, none⟩ = some (.slice B ys.length d) ∧
    W.cell? ⟨s, 0, none⟩ = some (.bool n1) ∧ W.cell? ⟨s, 1, none⟩ = some (.slice (some ⟨ga, 0, none⟩) xs.length (xs.length + 1)) ∧ W.cell? ⟨t, 0, none⟩ = some (.bool n2) ∧ W.cell? ⟨t, 1, none⟩ = some (.slice (some ⟨gb, 0, none⟩) ys.length (ys.length + 1)) :=
  ⟨h, h.two.a0, h.two.a1, h.two.b0, h.two.b1, h.twins.a0, h.twins.a1, h.twins.b0, h.twins.b1⟩
section
variable {w W W' : World} {p q s t : Nat} {n1 n2 : Bool} {A B : Option Addr} {xs ys : List Nat} {c d ga gb : Nat} {X : Prop}
theorem Four.on (h : Four w W p q s t n1 n2 A B xs ys c d ga gb) (hb : Below W.heap.size W W') : Four w W' p q s t n1 n2 A B xs ys c d ga gb := ⟨h.two.on hb, h.twins.on hb⟩
theorem Four.get (h : Four w W p q s t n1 n2 A B xs ys c d ga gb ∧ X) : Four w W p q s t n1 n2 A B xs ys c d ga gb := h.1
theorem Four.sx (h : Four w W p q s t n1 n2 A B xs ys c d ga gb ∧ X) : Sl .u32 W W.heap.size A xs := h.1.two.sa
theorem Four.sy (h : Four w W p q s t n1 n2 A B xs ys c d ga gb ∧ X) : Sl .u32 W W.heap.size B ys := h.1.two.sb
theorem Four.fa (h : Four w W p q s t n1 n2 A B xs ys c d ga gb ∧ X) : Sl .u32 W W.heap.size (some ⟨ga, 0, none⟩) (xs ++ [7777]) := h.1.twins.sa
theorem Four.fb (h : Four w W p q s t n1 n2 A B xs ys c d ga gb ∧ X) : Sl .u32 W W.heap.size (some ⟨gb, 0, none⟩) (ys ++ [7777]) := h.1.twins.sb
theorem Four.ta (h : Four w W p q s t n1 n2 A B xs ys c d ga gb ∧ X) : Sl .u32 W W.heap.size (some ⟨ga, 0, none⟩) xs := sl_head h.1.twins.sa
theorem Four.tb (h : Four w W p q s t n1 n2 A B xs ys c d ga gb ∧ X) : Sl .u32 W W.heap.size (some ⟨gb, 0, none⟩) ys := sl_head h.1.twins.sb
end

set_option maxHeartbeats 8000000 in
set_option maxRecDepth 100000 in
theorem walk (n1 n2 : Bool) (A B : Option Addr) (xs ys : List Nat) (c d : Nat) (w : World) (hr : Sl .u32 w w.heap.size A xs) (hs : Sl .u32 w w.heap.size B ys) (hx : Dig W32 xs) (hy : Dig W32 ys)
    (hA : A = none → xs = [] ∧ c = 0) (hB : B = none → ys = [] ∧ d = 0) (hl : xs.length * 4 ≤ 140737488351232) (hk : ys.length * 4 ≤ 140737488351232) :
    Calls Try.prog 4 #[big n1 A xs.length c, big n2 B ys.length d] w fun e w' => e = .returned (.bool true) ∧ Below w.heap.size w w' := by
  have ht := Two.boxed (n1 := n1) (n2 := n2) (l1 := xs.length) (c := c) (l2 := ys.length) (d := d) hr hs
  have HT := Lib.hid ht.all
  have HA := Lib.hid hA
  have HB := Lib.hid hB
  clear hA hB
  go_enter Try.func4, Try.ntmps4
  go_wp2_with fail
  generalize (w.alloc (.cells #[.bool n1, .slice A xs.length c] 24)).alloc (.cells #[.bool n2, .slice B ys.length d] 24) = W at *
  have hall := HT.out
  go_region_held3 (fun w' => Two w w' w.heap.size (w.heap.size + 1) n1 n2 A B xs ys xs.length c ys.length d ∧ w'.cell? ⟨w.heap.size, 0, none⟩ = some (.bool n1) ∧ w'.cell? ⟨w.heap.size, 1, none⟩ = some (.slice A xs.length c) ∧ w'.cell? ⟨w.heap.size + 1, 0, none⟩ = some (.bool n2) ∧ w'.cell? ⟨w.heap.size + 1, 1, none⟩ = some (.slice B ys.length d))
    (first | exact HT.out | assumption | exact Two.keep HT.out ((Below.refl _ _).drew) | exact Two.keep (by assumption) (by assumption) | exact Two.keep (by assumption) ((Below.refl _ _).drew) | exact Two.keep (by assumption) ((Below.refl _ _).alloc (Nat.le_refl _) _))
    (first
      | (go_at_call 15; refine (size_any _ _ _ _ _ (by first | exact hl | exact hk)).mono ?_; rintro e w' ⟨rfl, hb⟩)
      | (go_at_call 14; refine (beyond_two _ (1 + (xs.length : Int)) (1 + (ys.length : Int)) _ _ (by go_cell) (by go_cell) (by omega) (by omega) (by omega) (by omega)).mono ?_; rintro e w' ⟨rfl, rfl⟩))

  go_wp2
  · go_ret
    exact ⟨rfl, Two.below' (by assumption)⟩
  have hsz : (xs.length : Int) + ys.length ≤ 1048576 := by
    have h : 1 + (xs.length : Int) + (1 + (ys.length : Int)) ≤ 1048576 := by assumption
    omega
  have t1 : Two w (w'.alloc (.cells #[.int .i64 (1 + (xs.length : Int)), .int .i64 (1 + (ys.length : Int))] 3)) w.heap.size (w.heap.size + 1) n1 n2 A B xs ys xs.length c ys.length d := Two.get (by assumption)
  generalize w'.alloc (.cells #[.int .i64 (1 + (xs.length : Int)), .int .i64 (1 + (ys.length : Int))] 3) = W1 at *
  have HT1 := Lib.hid t1.all
  clear hall HT ht hb
  go_cut [5, 6] (fun s5 s6 wx => ∃ s t ga gb : Nat, s5 = .pointer (some ⟨s, 0, none⟩) ∧ s6 = .pointer (some ⟨t, 0, none⟩) ∧ Four w wx w.heap.size (w.heap.size + 1) s t n1 n2 A B xs ys c d ga gb)
  case first =>
    have hall := HT1.out
    go_region_held3 (fun w' => Two w w' w.heap.size (w.heap.size + 1) n1 n2 A B xs ys xs.length c ys.length d ∧ w'.cell? ⟨w.heap.size, 0, none⟩ = some (.bool n1) ∧ w'.cell? ⟨w.heap.size, 1, none⟩ = some (.slice A xs.length c) ∧ w'.cell? ⟨w.heap.size + 1, 0, none⟩ = some (.bool n2) ∧ w'.cell? ⟨w.heap.size + 1, 1, none⟩ = some (.slice B ys.length d))
      (first | exact HT1.out | assumption | exact Two.keep HT1.out (by go_grown))
      (first
        | (go_at_call_of 16 (Value.agg #[.bool n1, .slice A xs.length c]); refine (twin_any n1 A xs c _ (Two.sa' (by assumption)) HA.out hl).mono ?_; rintro e wa ⟨ga, rfl, hra, hga, hb⟩
           obtain ⟨hca, hfa⟩ := bcell hb
           have hza := hb.size
           (try simp only [World.size_alloc, heap_drew] at hca hfa hza hga)
           have HBa : Below W1.heap.size W1 wa := by refine Below.trans ?_ (hb.mono (by go_size)); go_grown
           have hzaa := HBa.size
           have hltaa := hra.lt
           (try (have z1 : W1.heap.size < wa.heap.size := by omega))
           (try (have z2 : W1.heap.size + 1 < wa.heap.size := by omega)))
        | (go_at_call_of 16 (Value.agg #[.bool n2, .slice B ys.length d]); refine (twin_any n2 B ys d _ (Two.sb' (by assumption)) HB.out hk).mono ?_; rintro e wb ⟨gb, rfl, hrb, hgb, hb⟩
           obtain ⟨hcb, hfb⟩ := bcell hb
           have hzb := hb.size
           (try simp only [World.size_alloc, heap_drew] at hcb hfb hzb hgb)
           have HBb : Below W1.heap.size W1 wb := by refine Below.trans ?_ (hb.mono (by go_size)); go_grown
           have hzbb := HBb.size
           have hrab : Row .u32 wb ga 43 (xs ++ [7777]) := Row.below (by first | exact hra | exact hra.alloc _ | exact (hra.alloc _).alloc _) hb (by first | exact hra.lt | (have := hra.lt; go_size))
           have hlta := hrab.lt
           have hltb := hrb.lt
           (try (have z3 : W1.heap.size < wb.heap.size := by omega))
           (try (have z4 : W1.heap.size + 1 < wb.heap.size := by omega))
           (try (have z5 : wa.heap.size < wb.heap.size := by omega))
           (try (have z6 : wa.heap.size + 1 < wb.heap.size := by omega))))
    all_goals
      go_wp2_with fail
      go_meet
      refine ⟨_, _, ga, gb, rfl, rfl, ⟨Two.get (by assumption), ?_⟩⟩
      have hend : Two w _ w.heap.size (w.heap.size + 1) n1 n2 A B xs ys xs.length c ys.length d := Two.get (by assumption)
      refine ⟨hend.below, ?_, ?_, ?_, ?_, ?_, ?_, ?_, ?_⟩
      · go_size
      · go_size
      · refine Row.sl (g := ga) (e := 43) ?_ (by go_size)
        repeat (first | (with_reducible exact hrab) | (with_reducible refine Row.alloc ?_ _) | (with_reducible refine Row.far ?_ ?_ _; rotate_left; (first | omega | (simp; omega))))
      · refine Row.sl (g := gb) (e := 43) ?_ (by go_size)
        repeat (first | (with_reducible exact hrb) | (with_reducible refine Row.alloc ?_ _) | (with_reducible refine Row.far ?_ ?_ _; rotate_left; (first | omega | (simp; omega))))
      · first | go_cell | exact four_a (by omega) (by rw [hcb _ _ (by omega)]; first | (simp; done) | (rw [hca _ _ (by omega)]; simp; done) | (rw [World.cell?_alloc_lt _ _ _ (by go_size), hca _ _ (by omega)]; simp; done))
      · first | go_cell | exact four_b (by omega) (by rw [hcb _ _ (by omega)]; first | (simp; done) | (rw [hca _ _ (by omega)]; simp; done) | (rw [World.cell?_alloc_lt _ _ _ (by go_size), hca _ _ (by omega)]; simp; done))
      · first | go_cell | exact four_c (by omega) (by rw [hcb _ _ (by omega)]; first | (simp; done) | (rw [hca _ _ (by omega)]; simp; done) | (rw [World.cell?_alloc_lt _ _ _ (by go_size), hca _ _ (by omega)]; simp; done))
      · first | go_cell | exact four_d (by omega) (by rw [hcb _ _ (by omega)]; first | (simp; done) | (rw [hca _ _ (by omega)]; simp; done) | (rw [World.cell?_alloc_lt _ _ _ (by go_size), hca _ _ (by omega)]; simp; done))
  case rest =>
    obtain ⟨s, t, ga, gb, rfl, rfl, hf⟩ := hcut
    have H0 := Lib.hid hf.all
    have q0 := hf.two.a0
    have q1 := hf.two.a1
    have r0 := hf.twins.a0
    have r1 := hf.twins.a1
    go_wp2_with fail
    refine (wint64_u n1 (some ⟨ga, 0, none⟩) xs (xs.length + 1) _ (Four.ta H0.out) hx hl).mono ?_
    rintro e w2 ⟨rfl, hb2⟩
    have f2 := hf.on hb2
    clear q0 q1 r0 r1
    have q0 := f2.two.a0
    have q1 := f2.two.a1
    go_wp2_with fail
    refine (rint64_u n1 A xs c _ (Four.sx f2.all) hx hl).mono ?_
    rintro e w3 ⟨rfl, hb3⟩
    have f3 := f2.on hb3
    clear q0 q1
    have H3 := Lib.hid f3.all
    have hall := H3.out
    go_wp2_with fail
    go_region_held3 (fun w' => Four w w' w.heap.size (w.heap.size + 1) s t n1 n2 A B xs ys c d ga gb ∧ w'.cell? ⟨w.heap.size, 0, none⟩ = some (.bool n1) ∧ w'.cell? ⟨w.heap.size, 1, none⟩ = some (.slice A xs.length c) ∧ w'.cell? ⟨w.heap.size + 1, 0, none⟩ = some (.bool n2) ∧ w'.cell? ⟨w.heap.size + 1, 1, none⟩ = some (.slice B ys.length d) ∧ w'.cell? ⟨s, 0, none⟩ = some (.bool n1) ∧ w'.cell? ⟨s, 1, none⟩ = some (.slice (some ⟨ga, 0, none⟩) xs.length (xs.length + 1)) ∧ w'.cell? ⟨t, 0, none⟩ = some (.bool n2) ∧ w'.cell? ⟨t, 1, none⟩ = some (.slice (some ⟨gb, 0, none⟩) ys.length (ys.length + 1)))
      (first | exact H3.out | assumption | exact (Four.on (Four.get H3.out) ((Below.refl _ _).drew)).all | exact (Four.on (Four.get (by assumption)) (by assumption)).all | exact (Four.on (Four.get (by assumption)) ((Below.refl _ _).drew)).all)
      (first
        | (go_at_call 9; refine (check_u n1 (some ⟨ga, 0, none⟩) xs (xs.length + 1) _ (Four.ta (by assumption)) hl).mono ?_; rintro e w' ⟨rfl, hb⟩)
        | (go_at_call 18; refine (rcheck_u n1 A xs c _ (Four.sx (by assumption)) hl).mono ?_; rintro e w' ⟨rfl, hb⟩)
        | (go_at_call 10; refine (wsign_u n1 (some ⟨ga, 0, none⟩) xs (xs.length + 1) _ (Four.ta (by assumption)) hx hl).mono ?_; rintro e w' ⟨rfl, hb⟩)
        | (go_at_call 19; refine (rsignof_u n1 A xs c _ (Four.sx (by assumption)) hl).mono ?_; rintro e w' ⟨rfl, hb⟩)
        | (go_at_call 12; refine (wbits_u n1 (some ⟨ga, 0, none⟩) xs (xs.length + 1) _ (Four.ta (by assumption)) hx hl).mono ?_; rintro e w' ⟨rfl, hb⟩)
        | (go_at_call 20; refine (rbitsof_u n1 A xs c _ (Four.sx (by assumption)) hx hl).mono ?_; rintro e w' ⟨rfl, hb⟩))
    have f4 : Four w w' w.heap.size (w.heap.size + 1) s t n1 n2 A B xs ys c d ga gb := Four.get (by assumption)
    have H4 := Lib.hid f4.all
    have hall4 := H4.out
    go_wp2_with fail
    go_region_held3 (fun w' => Four w w' w.heap.size (w.heap.size + 1) s t n1 n2 A B xs ys c d ga gb ∧ w'.cell? ⟨w.heap.size, 0, none⟩ = some (.bool n1) ∧ w'.cell? ⟨w.heap.size, 1, none⟩ = some (.slice A xs.length c) ∧ w'.cell? ⟨w.heap.size + 1, 0, none⟩ = some (.bool n2) ∧ w'.cell? ⟨w.heap.size + 1, 1, none⟩ = some (.slice B ys.length d) ∧ w'.cell? ⟨s, 0, none⟩ = some (.bool n1) ∧ w'.cell? ⟨s, 1, none⟩ = some (.slice (some ⟨ga, 0, none⟩) xs.length (xs.length + 1)) ∧ w'.cell? ⟨t, 0, none⟩ = some (.bool n2) ∧ w'.cell? ⟨t, 1, none⟩ = some (.slice (some ⟨gb, 0, none⟩) ys.length (ys.length + 1)))
      (first | exact H4.out | assumption | exact (Four.on (Four.get H4.out) ((Below.refl _ _).drew)).all | exact (Four.on (Four.get (by assumption)) (by assumption)).all | exact (Four.on (Four.get (by assumption)) ((Below.refl _ _).drew)).all)
      (first
        | (go_at_call 21; with_reducible refine (wcmp_u n1 n2 (some ⟨ga, 0, none⟩) (some ⟨gb, 0, none⟩) xs ys (xs.length + 1) (ys.length + 1) _ (Four.ta (by assumption)) (Four.tb (by assumption)) hx hy hl hk).mono ?_; rintro e w' ⟨rfl, hb⟩)
        | (go_at_call 21; with_reducible refine (wcmp_u n2 n1 (some ⟨gb, 0, none⟩) (some ⟨ga, 0, none⟩) ys xs (ys.length + 1) (xs.length + 1) _ (Four.tb (by assumption)) (Four.ta (by assumption)) hy hx hk hl).mono ?_; rintro e w' ⟨rfl, hb⟩)
        | (go_at_call 22; with_reducible refine (cmpof_u n1 n2 A B xs ys c d _ (Four.sx (by assumption)) (Four.sy (by assumption)) hx hy hl hk).mono ?_; rintro e w' ⟨rfl, hb⟩)
        | (go_at_call 22; with_reducible refine (cmpof_u n2 n1 B A ys xs d c _ (Four.sy (by assumption)) (Four.sx (by assumption)) hy hx hk hl).mono ?_; rintro e w' ⟨rfl, hb⟩)
        | (go_at_call 23; with_reducible refine (left_any n1 (some ⟨ga, 0, none⟩) A xs c _ (Four.fa (by assumption)) (Four.sx (by assumption)) hl).mono ?_; rintro e w' ⟨rfl, hb⟩)
        | (go_at_call 23; with_reducible refine (left_any n2 (some ⟨gb, 0, none⟩) B ys d _ (Four.fb (by assumption)) (Four.sy (by assumption)) hk).mono ?_; rintro e w' ⟨rfl, hb⟩))
    have f5 : Four w w' w.heap.size (w.heap.size + 1) s t n1 n2 A B xs ys c d ga gb := Four.get (by assumption)
    go_wp2
    go_ret
    exact ⟨rfl, f5.two.below⟩
end Go.Proofs.Ytdfbakdfakijbaa.wholeLooks
