/-
  What span's Meet returns. Condition: floats of 64 bits.
-/
import Derived.Test.YtffjkfjokikhnaaSp1
namespace Go.Proofs.Ytffjkfjokikhnaa.Fl
open Go.RowKit Ieee

/-- What Meet tells. -/
def Meets (al ah bl bh : Nat) : Prop := Spn al ah ∧ Spn bl bh ∧ key (fmax al bl) ≤ key (fmin ah bh)
instance (al ah bl bh : Nat) : Decidable (Meets al ah bl bh) := by unfold Meets; infer_instance
def meetLo (al ah bl bh : Nat) : Nat := if Meets al ah bl bh then pls (fmax al bl) else 0
def meetHi (al ah bl bh : Nat) : Nat := if Meets al ah bl bh then pls (fmin ah bh) else 0

set_option maxHeartbeats 1000000 in
theorem meet_any (al ah bl bh : Nat) (w : World) (h1 : al < 18446744073709551616) (h2 : ah < 18446744073709551616) (h3 : bl < 18446744073709551616) (h4 : bh < 18446744073709551616) :
    Calls Try.prog 26 #[spv al ah, spv bl bh] w fun e w' => e = .returned (.tuple #[spv (meetLo al ah bl bh) (meetHi al ah bl bh), .bool (decide (Meets al ah bl bh))]) ∧ Below w.heap.size w w' := by
  have HC := Lib.hid (fun g W k k0 k1 k2 k3 => check_two g al ah bl bh W h1 h3 k k0 k1 k2 k3)
  have HU := Lib.hid (fun l h W => unsigned_any l h W)
  have hsf := @run_store_f Try.prog .f64
  by_cases hs : Spn al ah ∧ Spn bl bh
  · have e3 : spE2 al ah bl bh = 0 := if_pos hs
    rw [e3] at HC
    have q1 : mg al ≤ 9218868437227405312 := Nat.le_of_lt hs.1.1
    have q2 : mg ah ≤ 9218868437227405312 := Nat.le_of_lt hs.1.2.1
    have q3 : mg bl ≤ 9218868437227405312 := Nat.le_of_lt hs.2.1
    have q4 : mg bh ≤ 9218868437227405312 := Nat.le_of_lt hs.2.2.1
    have n1 : nmm al bl = 0 := if_pos ⟨q1, q3⟩
    have n2 : nmm ah bh = 0 := if_pos ⟨q2, q4⟩
    have m1 : ∀ W, wmax al bl W = fmax al bl := fun W => if_pos ⟨q1, q3⟩
    have m2 : ∀ W, wmin ah bh W = fmin ah bh := fun W => if_pos ⟨q2, q4⟩
    have a1 : mg (fmax al bl) ≤ 9218868437227405312 := fmax_of (p := fun x => mg x ≤ 9218868437227405312) q1 q3
    have a2 : mg (fmin ah bh) ≤ 9218868437227405312 := fmin_of (p := fun x => mg x ≤ 9218868437227405312) q2 q4
    have b1 : fmax al bl < 18446744073709551616 := fmax_of (p := (· < 18446744073709551616)) h1 h3
    have b2 : fmin ah bh < 18446744073709551616 := fmin_of (p := (· < 18446744073709551616)) h2 h4
    have hmx : ∀ ts t W, (Builtin.max_ ts t #[.float .f64 al, .float .f64 bl]).run Try.prog W = .ok (.float .f64 (fmax al bl)) W := fun ts t W => by rw [run_max2, n1, m1]; rfl
    have hmn : ∀ ts t W, (Builtin.min_ ts t #[.float .f64 ah, .float .f64 bh]).run Try.prog W = .ok (.float .f64 (fmin ah bh)) W := fun ts t W => by rw [run_min2, n2, m2]; rfl
    have hgt := ord_gt (pls (fmax al bl)) (pls (fmin ah bh))
    have hk : decide (mg (pls (fmax al bl)) ≤ 9218868437227405312 ∧ mg (pls (fmin ah bh)) ≤ 9218868437227405312 ∧ key (pls (fmin ah bh)) < key (pls (fmax al bl))) = !decide (Meets al ah bl bh) := by
      rw [pls_mg, pls_mg, pls_key, pls_key, ← decide_not]
      refine decide_eq_decide.2 ⟨fun h k => ?_, fun h => ⟨a1, a2, ?_⟩⟩
      · have := k.2.2; omega
      · rcases Int.lt_or_le (key (fmin ah bh)) (key (fmax al bl)) with g | g
        · exact g
        · exact absurd ⟨hs.1, hs.2, g⟩ h
    rw [hk, ] at hgt
    have HL := Lib.hid (fun (k : decide (Meets al ah bl bh) = true) => show meetLo al ah bl bh = pls (fmax al bl) ∧ meetHi al ah bl bh = pls (fmin ah bh) from ⟨if_pos (of_decide_eq_true k), if_pos (of_decide_eq_true k)⟩)
    have HM := Lib.hid (fun (k : decide (Meets al ah bl bh) = false) => show meetLo al ah bl bh = 0 ∧ meetHi al ah bl bh = 0 from ⟨if_neg (of_decide_eq_false k), if_neg (of_decide_eq_false k)⟩)
    obtain ⟨x, hx⟩ : ∃ x, fmax al bl = x := ⟨_, rfl⟩
    obtain ⟨y, hy⟩ : ∃ y, fmin ah bh = y := ⟨_, rfl⟩
    rw [hx] at hgt HL a1 b1
    rw [hy] at hgt HL a2 b2
    simp only [hx] at hmx
    simp only [hy] at hmn
    obtain ⟨c, hc⟩ : ∃ c, decide (Meets al ah bl bh) = c := ⟨_, rfl⟩
    rw [hc] at hgt HL HM ⊢
    have HUX := Lib.hid (fun a (h : Usg x a) => h.2 a1 b1)
    have HUY := Lib.hid (fun a (h : Usg y a) => h.2 a2 b2)
    clear hk hs e3 q1 q2 q3 q4 n1 n2 m1 m2 a1 a2 b1 b2 hx hy hc h1 h2 h3 h4
    cases c <;> simp only [Bool.not_false, Bool.not_true] at hgt
    · have hl := HM.out rfl
      rw [hl.1, hl.2]
      clear hl HM HL
      go_enter Try.func26, Try.ntmps26
      go_wp2_with fail
      refine (HU.out _ _ _).mono ?_
      rintro e w1 ⟨a, b, rfl, hua, hub, hb⟩
      obtain rfl := HUX.out _ hua
      obtain rfl := HUY.out _ hub
      clear hua hub
      obtain ⟨hc, hf⟩ := bcell hb
      have hz0 : w.heap.size < w1.heap.size := by have := hb.size; simp at this; omega
      have hz1 : w.heap.size + 1 < w1.heap.size := by have := hb.size; simp at this; omega
      have hz2 : w.heap.size + 1 + 1 < w1.heap.size := by have := hb.size; simp at this; omega
      have g1 : Below w.heap.size w w1 := Below.trans (by (repeat (first | exact below_self _ _ | assumption | refine below_dn ?_ _ | refine Below.drew ?_ | refine Below.setCell ?_ (by (try simp) <;> (try omega)) _ | refine Below.alloc ?_ (by (try simp) <;> (try omega)) _))) (hb.mono (by simp; try omega))
      clear hb
      go_wp2_with fail
      refine (HC.out _ _ (by simp) (by go_cell) (by go_cell) (by go_cell) (by go_cell)).mono ?_
      rintro e w2 ⟨rfl, hb⟩
      obtain ⟨hc2, hf2⟩ := bcell hb
      have hw0 : w.heap.size < w2.heap.size := by have := hb.size; simp at this; omega
      have hw1 : w.heap.size + 1 < w2.heap.size := by have := hb.size; simp at this; omega
      have hw2 : w.heap.size + 1 + 1 < w2.heap.size := by have := hb.size; simp at this; omega
      have hw3 : w1.heap.size < w2.heap.size := by have := hb.size; simp at this; omega
      have g2 : Below w.heap.size w w2 := Below.trans (by (repeat (first | exact below_self _ _ | assumption | refine below_dn ?_ _ | refine Below.drew ?_ | refine Below.setCell ?_ (by (try simp) <;> (try omega)) _ | refine Below.alloc ?_ (by (try simp) <;> (try omega)) _))) (hb.mono (by simp; try omega))
      clear hb
      go_wp2
      exact bodyPost_ret (v := .tuple #[spv 0 0, .bool false]) (by simp [results, Try.results26, go_sem, hc2, hz0, hz1, hz2, hc]) rfl ⟨rfl, by (repeat (first | exact below_self _ _ | assumption | refine below_dn ?_ _ | refine Below.drew ?_ | refine Below.setCell ?_ (by (try simp) <;> (try omega)) _ | refine Below.alloc ?_ (by (try simp) <;> (try omega)) _))⟩
    · have hl := HL.out rfl
      rw [hl.1, hl.2]
      clear hl HM HL
      go_enter Try.func26, Try.ntmps26
      go_wp2_with fail
      refine (HU.out _ _ _).mono ?_
      rintro e w1 ⟨a, b, rfl, hua, hub, hb⟩
      obtain rfl := HUX.out _ hua
      obtain rfl := HUY.out _ hub
      clear hua hub
      obtain ⟨hc, hf⟩ := bcell hb
      have hz0 : w.heap.size < w1.heap.size := by have := hb.size; simp at this; omega
      have hz1 : w.heap.size + 1 < w1.heap.size := by have := hb.size; simp at this; omega
      have hz2 : w.heap.size + 1 + 1 < w1.heap.size := by have := hb.size; simp at this; omega
      have g1 : Below w.heap.size w w1 := Below.trans (by (repeat (first | exact below_self _ _ | assumption | refine below_dn ?_ _ | refine Below.drew ?_ | refine Below.setCell ?_ (by (try simp) <;> (try omega)) _ | refine Below.alloc ?_ (by (try simp) <;> (try omega)) _))) (hb.mono (by simp; try omega))
      clear hb
      go_wp2_with fail
      refine (HC.out _ _ (by simp) (by go_cell) (by go_cell) (by go_cell) (by go_cell)).mono ?_
      rintro e w2 ⟨rfl, hb⟩
      obtain ⟨hc2, hf2⟩ := bcell hb
      have hw0 : w.heap.size < w2.heap.size := by have := hb.size; simp at this; omega
      have hw1 : w.heap.size + 1 < w2.heap.size := by have := hb.size; simp at this; omega
      have hw2 : w.heap.size + 1 + 1 < w2.heap.size := by have := hb.size; simp at this; omega
      have hw3 : w1.heap.size < w2.heap.size := by have := hb.size; simp at this; omega
      have g2 : Below w.heap.size w w2 := Below.trans (by (repeat (first | exact below_self _ _ | assumption | refine below_dn ?_ _ | refine Below.drew ?_ | refine Below.setCell ?_ (by (try simp) <;> (try omega)) _ | refine Below.alloc ?_ (by (try simp) <;> (try omega)) _))) (hb.mono (by simp; try omega))
      clear hb
      go_wp2
      exact bodyPost_ret (v := .tuple #[spv (pls x) (pls y), .bool true]) (by simp [results, Try.results26, go_sem, hc2, hz0, hz1, hz2, hc]) rfl ⟨rfl, by (repeat (first | exact below_self _ _ | assumption | refine below_dn ?_ _ | refine Below.drew ?_ | refine Below.setCell ?_ (by (try simp) <;> (try omega)) _ | refine Below.alloc ?_ (by (try simp) <;> (try omega)) _))⟩
  · have e3 : spE2 al ah bl bh = 1 := if_neg hs
    rw [e3] at HC
    have hmx := fun ts t W => run_max2 (P := Try.prog) ts t al bl W
    have hmn := fun ts t W => run_min2 (P := Try.prog) ts t ah bh W
    have hM : ¬ Meets al ah bl bh := fun h => hs ⟨h.1, h.2.1⟩
    have hl1 : meetLo al ah bl bh = 0 := if_neg hM
    have hl2 : meetHi al ah bl bh = 0 := if_neg hM
    rw [hl1, hl2, decide_eq_false hM]
    obtain ⟨m, hm⟩ : ∃ m, nmm al bl = m := ⟨_, rfl⟩
    obtain ⟨n, hn⟩ : ∃ n, nmm ah bh = n := ⟨_, rfl⟩
    rw [hm] at hmx
    rw [hn] at hmn
    clear e3 hM hl1 hl2 hm hn hs h1 h2 h3 h4
    go_enter Try.func26, Try.ntmps26
    go_wp2_with fail
    refine (HU.out _ _ _).mono ?_
    rintro e w1 ⟨a, b, rfl, hua, hub, hb⟩
    clear hua hub
    obtain ⟨hc, hf⟩ := bcell hb
    have hz0 : w.heap.size < w1.heap.size := by have := hb.size; simp at this; omega
    have hz1 : w.heap.size + 1 < w1.heap.size := by have := hb.size; simp at this; omega
    have hz2 : w.heap.size + 1 + 1 < w1.heap.size := by have := hb.size; simp at this; omega
    have g1 : Below w.heap.size w w1 := Below.trans (by (repeat (first | exact below_self _ _ | assumption | refine below_dn ?_ _ | refine Below.drew ?_ | refine Below.setCell ?_ (by (try simp) <;> (try omega)) _ | refine Below.alloc ?_ (by (try simp) <;> (try omega)) _))) (hb.mono (by simp; try omega))
    clear hb
    go_wp2_with fail
    refine (HC.out _ _ (by simp) (by go_cell) (by go_cell) (by go_cell) (by go_cell)).mono ?_
    rintro e w2 ⟨rfl, hb⟩
    obtain ⟨hc2, hf2⟩ := bcell hb
    have hw0 : w.heap.size < w2.heap.size := by have := hb.size; simp at this; omega
    have hw1 : w.heap.size + 1 < w2.heap.size := by have := hb.size; simp at this; omega
    have hw2 : w.heap.size + 1 + 1 < w2.heap.size := by have := hb.size; simp at this; omega
    have hw3 : w1.heap.size < w2.heap.size := by have := hb.size; simp at this; omega
    have g2 : Below w.heap.size w w2 := Below.trans (by (repeat (first | exact below_self _ _ | assumption | refine below_dn ?_ _ | refine Below.drew ?_ | refine Below.setCell ?_ (by (try simp) <;> (try omega)) _ | refine Below.alloc ?_ (by (try simp) <;> (try omega)) _))) (hb.mono (by simp; try omega))
    clear hb
    go_wp2
    exact bodyPost_ret (v := .tuple #[spv 0 0, .bool false]) (by simp [results, Try.results26, go_sem, hc2, hz0, hz1, hz2, hc]) rfl ⟨rfl, by (repeat (first | exact below_self _ _ | assumption | refine below_dn ?_ _ | refine Below.drew ?_ | refine Below.setCell ?_ (by (try simp) <;> (try omega)) _ | refine Below.alloc ?_ (by (try simp) <;> (try omega)) _))⟩
end Go.Proofs.Ytffjkfjokikhnaa.Fl
