/-
  Are two spans the same: what SameSpan and the statements' 'same' return of the same ones; what the document's own Check, In, Meet and Join of spans return. Condition: floats of 64 bits.
-/
import Derived.Test.YtffjkfjokikhnaaSam
import Derived.Test.YtffjkfjokikhnaaSp4
import Derived.Outline
import Derived.Deep.RegionHeld3
namespace Go.Proofs.Ytffjkfjokikhnaa.Fl
open Go.RowKit Ieee

set_option maxHeartbeats 400000 in
theorem sameSpan_any (a b : Nat) (w : World) :
    Calls Try.prog 32 #[spv a b, spv a b] w fun e w' => e = .returned (.bool true) ∧ Below w.heap.size w w' := by
  have H1 := Lib.hid (fun W => sameFloat_any a a W (.inl rfl))
  have H2 := Lib.hid (fun W => sameFloat_any b b W (.inl rfl))
  go_enter Try.func32, Try.ntmps32
  go_wp2_with fail
  refine (H1.out _).mono ?_
  rintro e w1 ⟨rfl, rfl⟩
  go_wp2_with fail
  refine (H2.out _).mono ?_
  rintro e w1 ⟨rfl, rfl⟩
  go_wp2
  go_ret
  exact ⟨rfl, by (repeat (first | exact below_self _ _ | assumption | refine below_dn ?_ _ | refine Below.drew ?_ | refine Below.setCell ?_ (by (try simp) <;> (try omega)) _ | refine Below.alloc ?_ (by (try simp) <;> (try omega)) _))⟩
set_option maxHeartbeats 400000 in
theorem sameS_any (a b : Nat) (e : Int) (w : World) :
    Calls Try.prog 33 #[spv a b, .int .i64 e, spv a b, .int .i64 e] w fun x w' => x = .returned (.bool true) ∧ Below w.heap.size w w' := by
  have H1 := Lib.hid (fun W => sameSpan_any a b W)
  go_enter Try.func33, Try.ntmps33
  go_wp2_with fail
  refine (H1.out _).mono ?_
  rintro e w1 ⟨rfl, hb⟩
  have g1 : Below w.heap.size w w1 := Below.trans (by (repeat (first | exact below_self _ _ | assumption | refine below_dn ?_ _ | refine Below.drew ?_ | refine Below.setCell ?_ (by (try simp) <;> (try omega)) _ | refine Below.alloc ?_ (by (try simp) <;> (try omega)) _))) (hb.mono (by simp; try omega))
  clear hb
  go_wp2
  go_ret
  exact ⟨rfl, g1⟩

/-- Is a float finite? -/
def finB (x : Nat) : Bool := decide (mg x < 9218868437227405312)
theorem sub_self {x : Nat} (hx : x < 18446744073709551616) (h : mg x < 9218868437227405312) : ∃ r, double.sub x x = some r ∧ mg r = 0 := by
  have e : double.sub x x = double.add x (ngf x) := by unfold Format.sub Format.add; rw [read_ngf' hx]
  obtain ⟨r, hr⟩ := sub_fin h h
  exact ⟨r, hr, add_self_opp hx h (by rw [← e]; exact hr)⟩
theorem sub_self_inf {x : Nat} (h : ¬ mg x < 9218868437227405312) : double.sub x x = none := by
  unfold Format.sub
  rcases Nat.lt_or_eq_of_le (Nat.not_lt.1 h) with g | g
  · rw [read_nan x g]; rfl
  · rw [read_inf x g.symm]
    cases ng x <;> rfl
theorem fin_order {x : Nat} (hx : x < 18446744073709551616) (w : World) : (FloatKind.f64.format.order (fop .sub x x w) 0 == some .eq) = finB x := by
  rw [eq_zero]
  unfold finB
  by_cases h : mg x < 9218868437227405312
  · obtain ⟨r, hr, h0⟩ := sub_self hx h
    rw [(fop_some (op := .sub) hr w).1, h0, decide_eq_true h]; rfl
  · have := nan_all (op := .sub) (sub_self_inf h) w
    rw [decide_eq_false h, decide_eq_false (by omega)]
set_option maxHeartbeats 400000 in
theorem rfinite_any (x : Nat) (w : World) (hx : x < 18446744073709551616) :
    Calls Try.prog 105 #[.float .f64 x] w fun e w' => e = .returned (.bool (finB x)) ∧ Below w.heap.size w w' := by
  have hs := fun t W => run_sub (P := Try.prog) t x x W
  have ho := fin_order hx
  generalize finB x = b at *
  clear hx
  go_enter Try.func105, Try.ntmps105
  go_wp2
  go_ret
  exact ⟨rfl, by (repeat (first | exact below_self _ _ | assumption | refine below_dn ?_ _ | refine Below.drew ?_ | refine Below.setCell ?_ (by (try simp) <;> (try omega)) _ | refine Below.alloc ?_ (by (try simp) <;> (try omega)) _))⟩
set_option maxHeartbeats 1000000 in
theorem rcheckS_any (l h : Nat) (w : World) (hl : l < 18446744073709551616) (hh : h < 18446744073709551616) :
    Calls Try.prog 74 #[spv l h] w fun e w' => e = .returned (.int .i64 (spE l h)) ∧ Below w.heap.size w w' := by
  have H1 := Lib.hid (fun W => rfinite_any l W hl)
  have H2 := Lib.hid (fun W => rfinite_any h W hh)
  have hg := ord_gt l h
  have hv : spE l h = if finB l = true ∧ finB h = true ∧ decide (mg l ≤ 9218868437227405312 ∧ mg h ≤ 9218868437227405312 ∧ key h < key l) = false then 0 else 1 := by
    unfold spE finB
    by_cases k : Spn l h
    · rw [if_pos k, if_pos ⟨decide_eq_true k.1, decide_eq_true k.2.1, decide_eq_false (by have := k.2.2; omega)⟩]
    · rw [if_neg k, if_neg]
      rintro ⟨a, b, c⟩
      have a := of_decide_eq_true a
      have b := of_decide_eq_true b
      have c := of_decide_eq_false c
      exact k ⟨a, b, by omega⟩
  generalize finB l = p at *
  generalize finB h = q at *
  generalize decide (mg l ≤ 9218868437227405312 ∧ mg h ≤ 9218868437227405312 ∧ key h < key l) = r at *
  clear hl hh
  cases p
  · rw [show spE l h = 1 from hv.trans (if_neg (fun k => by cases k.1))]
    clear H2 hv
    go_enter Try.func74, Try.ntmps74
    go_wp2_with fail
    refine (H1.out _).mono ?_
    rintro e w1 ⟨rfl, hb⟩
    have g1 : Below w.heap.size w w1 := Below.trans (by (repeat (first | exact below_self _ _ | assumption | refine below_dn ?_ _ | refine Below.drew ?_ | refine Below.setCell ?_ (by (try simp) <;> (try omega)) _ | refine Below.alloc ?_ (by (try simp) <;> (try omega)) _))) (hb.mono (by simp; try omega))
    clear hb
    go_wp2
    go_ret
    exact ⟨rfl, g1⟩
  · obtain ⟨v, hv2⟩ : ∃ v, spE l h = v := ⟨_, rfl⟩
    rw [hv2] at hv ⊢
    have HV := Lib.hid hv
    clear hv hv2
    go_enter Try.func74, Try.ntmps74
    go_wp2_with fail
    refine (H1.out _).mono ?_
    rintro e w1 ⟨rfl, hb⟩
    obtain ⟨hc, hf⟩ := bcell hb
    have hz0 : w.heap.size < w1.heap.size := by have := hb.size; simp at this; omega
    have g1 : Below w.heap.size w w1 := Below.trans (by (repeat (first | exact below_self _ _ | assumption | refine below_dn ?_ _ | refine Below.drew ?_ | refine Below.setCell ?_ (by (try simp) <;> (try omega)) _ | refine Below.alloc ?_ (by (try simp) <;> (try omega)) _))) (hb.mono (by simp; try omega))
    clear hb
    go_wp2_with fail
    refine (H2.out _).mono ?_
    rintro e w2 ⟨rfl, hb⟩
    obtain ⟨hc2, hf2⟩ := bcell hb
    have hw0 : w.heap.size < w2.heap.size := by have := hb.size; omega
    have g2 : Below w.heap.size w w2 := g1.trans (hb.mono (by omega))
    clear hb g1
    cases q
    · go_wp2
      go_ret
      exact ⟨by rw [HV.out]; rfl, g2⟩
    · cases r <;> (
      go_wp2
      go_ret
      exact ⟨by rw [HV.out]; rfl, g2⟩)
end Go.Proofs.Ytffjkfjokikhnaa.Fl
