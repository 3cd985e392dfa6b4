/-
  Of any two floats the sum, and what it has lost, are what the document says (RoundLost's walk). Condition: floats of 64 bits.
-/
import Derived.Test.YtffjkfjokikhnaaRwk
import Derived.Test.YtffjkfjokikhnaaSp1
import Derived.Test.YtffjkfjokikhnaaRsm
namespace Go.Proofs.Ytffjkfjokikhnaa.Rb
open Go.RowKit Nb Fl Ieee

set_option maxHeartbeats 1000000 in
theorem rtwo_own (a b : Nat) (w : World) (hf : ∀ W, ¬ mg (fop .add a b W) < 9218868437227405312) :
    Calls Try.prog 25 #[.float .f64 a, .float .f64 b] w fun r w' => ∃ W, r = .returned (.tuple #[.float .f64 (fop .add a b W), .float .f64 0]) ∧ Below w.heap.size w w' := by
  have HF : Hid (∀ W w : World, Calls Try.prog 46 #[.float .f64 (fop .add a b W)] w fun e w' => e = .returned (.bool false) ∧ w' = w) := Lib.hid (fun W w => by
    have := finite_any (fop .add a b W) w (fop_lt .add a b W)
    rwa [decide_eq_false (hf W)] at this)
  have hadd := fun t W => run_add (P := Try.prog) t a b W
  clear hf
  go_enter Try.func25, Try.ntmps25
  go_wp2_with fail
  refine (HF.out _ _).mono ?_
  rintro _ w0 ⟨rfl, rfl⟩
  go_wp2
  go_ret2
  exact ⟨_, rfl, by (repeat (first | exact below_self _ _ | assumption | refine below_dn ?_ _ | refine Below.drew ?_ | refine Below.setCell ?_ (by (try simp) <;> (try omega)) _ | refine Below.alloc ?_ (by (try simp) <;> (try omega)) _))⟩
theorem two_plain {a b s l : Nat} (h : TwoIs a b s l) (h0 : mg l = 0) : l = 0 := by
  rcases h with ⟨_, h⟩ | ⟨_, z, y, hy, hl⟩
  · exact h
  · have hyl : y < 18446744073709551616 ∧ mg y ≤ 9218868437227405312 := by
      split at hy
      · have := sub_told hy.2; exact ⟨this.2, this.1⟩
      · have := sub_told hy.2; exact ⟨this.2, this.1⟩
    rw [add_nought hyl.1 hyl.2] at hl
    cases hl
    rw [pls_mg] at h0
    exact if_pos h0
theorem two_lt {a b s l : Nat} (h : TwoIs a b s l) : l < 18446744073709551616 := by
  rcases h with ⟨_, h⟩ | ⟨_, z, y, _, hl⟩
  · omega
  · exact (add_told hl).2

set_option maxHeartbeats 2000000 in
theorem roundLost_walk (a b : Nat) (w : World) (ha : a < 18446744073709551616) (hb : b < 18446744073709551616) :
    Calls Try.prog 6 #[.float .f64 a, .float .f64 b] w fun e w' => e = .returned (.bool true) ∧ Below w.heap.size w w' := by
  have H1 := Lib.hid (fun W => two_any a b W ha hb)
  by_cases hc : ∃ s, double.add a b = some s ∧ mg s < 9218868437227405312
  · obtain ⟨s, hs, hf⟩ := hc
    have hab := sum_fin hs hf
    have hsl := (add_told hs).2
    have H2 : Hid (∀ l W, TwoIs a b s l → Calls Try.prog 25 #[.float .f64 a, .float .f64 b] W fun r w' => r = .returned (.tuple #[.float .f64 s, .float .f64 l]) ∧ Below W.heap.size W w') := Lib.hid (fun l W hT => by
      have hx := two_exact ha hb hs hf hT
      have := rtwo_fin a b s l W ha hb hsl hab.1 hab.2 hf hs (two_lt hT) hx.1 hx.2 _ rfl
      have e : (if mg l = 0 then 0 else l) = l := by
        split
        · rename_i k; exact (two_plain hT k).symm
        · rfl
      rwa [e] at this)
    have HS := Lib.hid (fun W => (add_fop hs W).1)
    clear ha hb hs hf hab hsl
    go_enter Try.func6, Try.ntmps6
    go_wp2_with fail
    refine (H1.out _).mono ?_
    rintro e w1 ⟨l, rfl, hw1, hT⟩
    have g : Below w.heap.size w w1 := by rw [hw1]; exact below_dn (below_self _ _) _
    rw [HS.out] at hT ⊢
    have HT := Lib.hid hT
    clear hw1 hT H1
    go_wp2_with fail
    refine (H2.out l _ HT.out).mono ?_
    rintro e w2 ⟨rfl, q⟩
    replace g := g.trans (q.mono g.size)
    clear q H2
    go_wp2_with fail
    refine (same4_any _ _ _ _ _ ⟨.inl rfl, .inl rfl⟩).mono ?_
    rintro e w5 ⟨rfl, rfl⟩
    go_wp2
    go_ret
    exact ⟨rfl, g⟩
  · have hf : ∀ W, ¬ mg (fop .add a b W) < 9218868437227405312 := fun W k => by
      rcases fop_mg .add a b W with ⟨_, r, hr, e, _⟩ | ⟨h, _⟩
      · rw [e] at k; exact hc ⟨r, hr, k⟩
      · omega
    have H2 := Lib.hid (fun W => rtwo_own a b W hf)
    have HZ := Lib.hid (fun W l (h : TwoIs a b (fop .add a b W) l) => show l = 0 by
      rcases h with ⟨_, h⟩ | ⟨h, _⟩
      · exact h
      · exact absurd h (hf W))
    have HS := Lib.hid (fun W W' => fop_sam .add a b W W')
    clear ha hb hf hc
    go_enter Try.func6, Try.ntmps6
    go_wp2_with fail
    refine (H1.out _).mono ?_
    rintro e w1 ⟨l, rfl, hw1, hT⟩
    have g : Below w.heap.size w w1 := by rw [hw1]; exact below_dn (below_self _ _) _
    obtain rfl := HZ.out _ _ hT
    clear hw1 hT H1 HZ
    go_wp2_with fail
    refine (H2.out _).mono ?_
    rintro e w2 ⟨W, rfl, q⟩
    replace g := g.trans (q.mono g.size)
    clear q H2
    go_wp2_with fail
    refine (same4_any _ _ _ _ _ ⟨HS.out _ _, .inl rfl⟩).mono ?_
    rintro e w5 ⟨rfl, rfl⟩
    go_wp2
    go_ret
    exact ⟨rfl, g⟩
end Go.Proofs.Ytffjkfjokikhnaa.Rb
