/-
  What the document's own plain, greater, lesser, In, Meet and Join of spans return. Condition: floats of 64 bits.
-/
import Derived.Test.YtffjkfjokikhnaaSp8
import Derived.Outline
import Derived.StillTailTactics
namespace Go.Proofs.Ytffjkfjokikhnaa.Fl
open Go.RowKit Ieee

set_option maxHeartbeats 400000 in
theorem rplain_any (x : Nat) (w : World) :
    Calls Try.prog 104 #[.float .f64 x] w fun e w' => e = .returned (.float .f64 (pls x)) ∧ w' = w := by
  have ho := eq_zero x
  by_cases h : mg x = 0
  · rw [decide_eq_true h] at ho
    rw [show pls x = 0 from if_pos h]
    clear h
    go_enter Try.func104, Try.ntmps104
    go_wp2
    go_ret; exact ⟨rfl, rfl⟩
  · rw [decide_eq_false h] at ho
    rw [show pls x = x from if_neg h]
    clear h
    go_enter Try.func104, Try.ntmps104
    go_wp2
    go_ret; exact ⟨rfl, rfl⟩
/-- The document's lesser and greater. -/
def rgr (a b : Nat) : Nat := if mg b ≤ 9218868437227405312 ∧ mg a ≤ 9218868437227405312 ∧ key a < key b then pls b else pls a
def rls (a b : Nat) : Nat := if mg b ≤ 9218868437227405312 ∧ mg a ≤ 9218868437227405312 ∧ key b < key a then pls b else pls a
theorem rgr_is {a b : Nat} (ha : a < 18446744073709551616) (hb : b < 18446744073709551616) (fa : mg a ≤ 9218868437227405312) (fb : mg b ≤ 9218868437227405312) : rgr a b = pls (fmax a b) := by
  have hk := fmax_key a b
  have hl : fmax a b < 18446744073709551616 := fmax_of (p := (· < 18446744073709551616)) ha hb
  unfold rgr
  split
  · exact pls_one hb hl (by omega)
  · exact pls_one ha hl (by omega)
theorem rls_is {a b : Nat} (ha : a < 18446744073709551616) (hb : b < 18446744073709551616) (fa : mg a ≤ 9218868437227405312) (fb : mg b ≤ 9218868437227405312) : rls a b = pls (fmin a b) := by
  have hk := fmin_key a b
  have hl : fmin a b < 18446744073709551616 := fmin_of (p := (· < 18446744073709551616)) ha hb
  unfold rls
  split
  · exact pls_one hb hl (by omega)
  · exact pls_one ha hl (by omega)
set_option maxHeartbeats 400000 in
theorem rgreater_any (a b : Nat) (w : World) :
    Calls Try.prog 72 #[.float .f64 a, .float .f64 b] w fun e w' => e = .returned (.float .f64 (rgr a b)) ∧ w' = w := by
  have HA := Lib.hid (fun W => rplain_any a W)
  have HB := Lib.hid (fun W => rplain_any b W)
  have ho := ord_gt b a
  by_cases h : mg b ≤ 9218868437227405312 ∧ mg a ≤ 9218868437227405312 ∧ key a < key b
  · rw [decide_eq_true h] at ho
    rw [show rgr a b = pls b from if_pos h]
    clear h
    go_enter Try.func72, Try.ntmps72
    go_wp2_with (go_at_call 104; refine (HB.out _).mono ?_; rintro e w' ⟨rfl, rfl⟩)
    go_ret; exact ⟨rfl, rfl⟩
  · rw [decide_eq_false h] at ho
    rw [show rgr a b = pls a from if_neg h]
    clear h
    go_enter Try.func72, Try.ntmps72
    go_wp2_with (go_at_call 104; refine (HA.out _).mono ?_; rintro e w' ⟨rfl, rfl⟩)
    go_ret; exact ⟨rfl, rfl⟩
set_option maxHeartbeats 400000 in
theorem rlesser_any (a b : Nat) (w : World) :
    Calls Try.prog 73 #[.float .f64 a, .float .f64 b] w fun e w' => e = .returned (.float .f64 (rls a b)) ∧ w' = w := by
  have HA := Lib.hid (fun W => rplain_any a W)
  have HB := Lib.hid (fun W => rplain_any b W)
  have ho := ord_lt b a
  by_cases h : mg b ≤ 9218868437227405312 ∧ mg a ≤ 9218868437227405312 ∧ key b < key a
  · rw [decide_eq_true h] at ho
    rw [show rls a b = pls b from if_pos h]
    clear h
    go_enter Try.func73, Try.ntmps73
    go_wp2_with (go_at_call 104; refine (HB.out _).mono ?_; rintro e w' ⟨rfl, rfl⟩)
    go_ret; exact ⟨rfl, rfl⟩
  · rw [decide_eq_false h] at ho
    rw [show rls a b = pls a from if_neg h]
    clear h
    go_enter Try.func73, Try.ntmps73
    go_wp2_with (go_at_call 104; refine (HA.out _).mono ?_; rintro e w' ⟨rfl, rfl⟩)
    go_ret; exact ⟨rfl, rfl⟩

theorem spE_split (al ah bl bh : Nat) : (spE al ah = 1 ∧ ¬ (Spn al ah ∧ Spn bl bh)) ∨ (spE al ah = 0 ∧ spE bl bh = 1 ∧ ¬ (Spn al ah ∧ Spn bl bh)) ∨ (spE al ah = 0 ∧ spE bl bh = 0 ∧ Spn al ah ∧ Spn bl bh) := by
  rcases spE_01 al ah with ⟨h, k⟩ | ⟨h, k⟩
  · rcases spE_01 bl bh with ⟨h', k'⟩ | ⟨h', k'⟩
    · exact .inr (.inr ⟨h, h', k, k'⟩)
    · exact .inr (.inl ⟨h, h', fun x => k' x.2⟩)
  · exact .inl ⟨h, fun x => k x.1⟩

set_option maxHeartbeats 1000000 in
theorem rin_any (al ah bl bh : Nat) (w : World) (h1 : al < 18446744073709551616) (h2 : ah < 18446744073709551616) (h3 : bl < 18446744073709551616) (h4 : bh < 18446744073709551616) :
    Calls Try.prog 31 #[spv al ah, spv bl bh] w fun e w' => e = .returned (.bool (spIn al ah bl bh)) ∧ Below w.heap.size w w' := by
  have HA := Lib.hid (fun W => rcheckS_any al ah W h1 h2)
  have HB := Lib.hid (fun W => rcheckS_any bl bh W h3 h4)
  have e1 := ord_le bl al
  have e2 := ord_le ah bh
  clear h1 h2 h3 h4
  rcases spE_split al ah bl bh with ⟨a, hs⟩ | ⟨a, b, hs⟩ | ⟨a, b, hs⟩
  · rw [a] at HA
    rw [show spIn al ah bl bh = false from decide_eq_false (fun h => hs ⟨h.1, h.2.1⟩)]
    clear a hs HB e1 e2
    go_enter Try.func31, Try.ntmps31
    go_wp2_with fail
    refine (HA.out _).mono ?_
    rintro e w1 ⟨rfl, hb⟩
    have g1 : Below w.heap.size w w1 := Below.trans (by (repeat (first | exact below_self _ _ | assumption | refine below_dn ?_ _ | refine Below.drew ?_ | refine Below.setCell ?_ (by (try simp) <;> (try omega)) _ | refine Below.alloc ?_ (by (try simp) <;> (try omega)) _))) (hb.mono (by (try simp) <;> (try omega)))
    clear hb
    go_wp2
    go_ret
    exact ⟨rfl, g1⟩
  · rw [a] at HA
    rw [b] at HB
    rw [show spIn al ah bl bh = false from decide_eq_false (fun h => hs ⟨h.1, h.2.1⟩)]
    clear a b hs e1 e2
    go_enter Try.func31, Try.ntmps31
    go_wp2_with fail
    refine (HA.out _).mono ?_
    rintro e w1 ⟨rfl, hb⟩
    obtain ⟨hc, hf⟩ := bcell hb
    have hz0 : w.heap.size < w1.heap.size := by have := hb.size; (try simp at this); omega
    have hz1 : w.heap.size + 1 < w1.heap.size := by have := hb.size; (try simp at this); omega
    have g1 : Below w.heap.size w w1 := Below.trans (by (repeat (first | exact below_self _ _ | assumption | refine below_dn ?_ _ | refine Below.drew ?_ | refine Below.setCell ?_ (by (try simp) <;> (try omega)) _ | refine Below.alloc ?_ (by (try simp) <;> (try omega)) _))) (hb.mono (by (try simp) <;> (try omega)))
    clear hb
    go_wp2_with fail
    refine (HB.out _).mono ?_
    rintro e w2 ⟨rfl, hb⟩
    have g2 : Below w.heap.size w w2 := g1.trans (hb.mono (by (try simp) <;> (try omega)))
    clear hb g1
    go_wp2
    go_ret
    exact ⟨rfl, g2⟩
  · rw [a] at HA
    rw [b] at HB
    have e4 : spIn al ah bl bh = (decide (key bl ≤ key al) && decide (key ah ≤ key bh)) := by
      unfold spIn; rw [← Bool.decide_and]; exact decide_eq_decide.2 ⟨fun h => h.2.2, fun h => ⟨hs.1, hs.2, h⟩⟩
    rw [e4]
    have f1 : decide (mg bl ≤ 9218868437227405312 ∧ mg al ≤ 9218868437227405312 ∧ key bl ≤ key al) = decide (key bl ≤ key al) := decide_eq_decide.2 ⟨fun h => h.2.2, fun h => ⟨Nat.le_of_lt hs.2.1, Nat.le_of_lt hs.1.1, h⟩⟩
    have f2 : decide (mg ah ≤ 9218868437227405312 ∧ mg bh ≤ 9218868437227405312 ∧ key ah ≤ key bh) = decide (key ah ≤ key bh) := decide_eq_decide.2 ⟨fun h => h.2.2, fun h => ⟨Nat.le_of_lt hs.1.2.1, Nat.le_of_lt hs.2.2.1, h⟩⟩
    rw [f1] at e1
    rw [f2] at e2
    clear a b e4 f1 f2 hs
    obtain ⟨p, hp⟩ : ∃ p, decide (key bl ≤ key al) = p := ⟨_, rfl⟩
    obtain ⟨q, hq⟩ : ∃ q, decide (key ah ≤ key bh) = q := ⟨_, rfl⟩
    rw [hp] at e1 ⊢
    rw [hq] at e2 ⊢
    clear hp hq
    cases p <;> (
    go_enter Try.func31, Try.ntmps31
    go_wp2_with fail
    refine (HA.out _).mono ?_
    rintro e w1 ⟨rfl, hb⟩
    obtain ⟨hc, hf⟩ := bcell hb
    have hz0 : w.heap.size < w1.heap.size := by have := hb.size; (try simp at this); omega
    have hz1 : w.heap.size + 1 < w1.heap.size := by have := hb.size; (try simp at this); omega
    have g1 : Below w.heap.size w w1 := Below.trans (by (repeat (first | exact below_self _ _ | assumption | refine below_dn ?_ _ | refine Below.drew ?_ | refine Below.setCell ?_ (by (try simp) <;> (try omega)) _ | refine Below.alloc ?_ (by (try simp) <;> (try omega)) _))) (hb.mono (by (try simp) <;> (try omega)))
    clear hb
    go_wp2_with fail
    refine (HB.out _).mono ?_
    rintro e w2 ⟨rfl, hb⟩
    obtain ⟨hc2, hf2⟩ := bcell hb
    have g2 : Below w.heap.size w w2 := g1.trans (hb.mono (by (try simp) <;> (try omega)))
    clear hb g1
    go_wp2
    go_ret
    exact ⟨rfl, g2⟩)
end Go.Proofs.Ytffjkfjokikhnaa.Fl
