/-
  For each operation: what is done to wider spans has what is done to narrower ones. Condition: floats of 64 bits.
-/
import Derived.Test.YtghcoijinihlnaaSpu
namespace Go.Proofs.Ytghcoijinihlnaa.Fl
open Ieee
theorem key_up {x : Nat} (h : 0 < key x) : 0 < mg x ∧ ng x = false := by
  unfold key at h; split at h
  · omega
  · rename_i q; exact ⟨by omega, by simpa using q⟩
theorem key_down {x : Nat} (h : key x < 0) : 0 < mg x ∧ ng x = true := by
  unfold key at h; split at h
  · rename_i q; exact ⟨by omega, q⟩
  · omega
theorem signs {bl bh yl yh : Nat} (hb : Spn bl bh) (hy : Spn yl yh) (i3 : key yl ≤ key bl) (i4 : key bh ≤ key yh) (hn : hasN yl yh = false) :
    ∃ sg, (0 < mg bl ∧ mg bl < 9218868437227405312 ∧ ng bl = sg) ∧ (0 < mg bh ∧ mg bh < 9218868437227405312 ∧ ng bh = sg) ∧ (0 < mg yl ∧ mg yl < 9218868437227405312 ∧ ng yl = sg) ∧ (0 < mg yh ∧ mg yh < 9218868437227405312 ∧ ng yh = sg) := by
  have k : ¬ (key yl ≤ 0 ∧ 0 ≤ key yh) := fun k => by unfold hasN at hn; rw [decide_eq_true k] at hn; cases hn
  have h1 := hb.2.2
  have h2 := hy.2.2
  rcases Int.lt_or_le 0 (key yl) with g | g
  · have a1 := key_up (x := bl) (by omega)
    have a2 := key_up (x := bh) (by omega)
    have a3 := key_up (x := yl) (by omega)
    have a4 := key_up (x := yh) (by omega)
    exact ⟨false, ⟨a1.1, hb.1, a1.2⟩, ⟨a2.1, hb.2.1, a2.2⟩, ⟨a3.1, hy.1, a3.2⟩, ⟨a4.1, hy.2.1, a4.2⟩⟩
  · have a1 := key_down (x := bl) (by omega)
    have a2 := key_down (x := bh) (by omega)
    have a3 := key_down (x := yl) (by omega)
    have a4 := key_down (x := yh) (by omega)
    exact ⟨true, ⟨a1.1, hb.1, a1.2⟩, ⟨a2.1, hb.2.1, a2.2⟩, ⟨a3.1, hy.1, a3.2⟩, ⟨a4.1, hy.2.1, a4.2⟩⟩
theorem hasN_in {bl bh yl yh : Nat} (i3 : key yl ≤ key bl) (i4 : key bh ≤ key yh) (hn : hasN yl yh = false) : hasN bl bh = false := by
  have k : ¬ (key yl ≤ 0 ∧ 0 ≤ key yh) := fun k => by unfold hasN at hn; rw [decide_eq_true k] at hn; cases hn
  exact decide_eq_false (by omega)
theorem do_wid {op : Int} {al ah bl bh xl xh yl yh l h l' h' : Nat} {er er' : Int} {e e' : Go.Ending}
    (lal : al < 18446744073709551616) (lah : ah < 18446744073709551616) (lbl : bl < 18446744073709551616) (lbh : bh < 18446744073709551616)
    (lxl : xl < 18446744073709551616) (lxh : xh < 18446744073709551616) (lyl : yl < 18446744073709551616) (lyh : yh < 18446744073709551616)
    (ha : Spn al ah) (hb : Spn bl bh) (hx : Spn xl xh) (hy : Spn yl yh)
    (i1 : key xl ≤ key al) (i2 : key ah ≤ key xh) (i3 : key yl ≤ key bl) (i4 : key bh ≤ key yh)
    (r : DoRes op al ah bl bh e) (r' : DoRes op xl xh yl yh e') (he : e = .returned (.tuple #[spv l h, .int .i64 er])) (he' : e' = .returned (.tuple #[spv l' h', .int .i64 er'])) :
    Wid l h l' h' er er' := by
  rcases r with ⟨o, r⟩ | ⟨o, r⟩ | ⟨o, r⟩ | ⟨o, r⟩ <;> rcases r' with ⟨o', r'⟩ | ⟨o', r'⟩ | ⟨o', r'⟩ | ⟨o', r'⟩ <;> first | (exfalso; omega) | skip
  · exact wid cor_sum lal lah lbl lbh lxl lxh lyl lyh ha hb hx hy trivial trivial trivial trivial i1 i2 i3 i4 r r' he he'
  · exact wid cor_dif lal lah lbl lbh lxl lxh lyl lyh ha hb hx hy trivial trivial trivial trivial i1 i2 i3 i4 r r' he he'
  · exact wid (cor_pro rfl) lal lah lbl lbh lxl lxh lyl lyh ha hb hx hy trivial trivial trivial trivial i1 i2 i3 i4 r r' he he'
  · rcases r' with ⟨_, _, q'⟩ | ⟨n', r'⟩
    · rw [q'] at he'
      have := (ans_inj he').2.2
      intro hz
      omega
    · have hn' := n' ⟨hx, hy⟩
      obtain ⟨sg, o1, o2, o3, o4⟩ := signs hb hy i3 i4 hn'
      have hn := hasN_in i3 i4 hn'
      rcases r with ⟨_, q, _⟩ | ⟨_, r⟩
      · rw [q] at hn; cases hn
      · exact wid (cor_quo rfl sg) lal lah lbl lbh lxl lxh lyl lyh ha hb hx hy o1 o2 o3 o4 i1 i2 i3 i4 r r' he he'
theorem joinLo_is {al ah cl ch : Nat} (h : Spn al ah ∧ Spn cl ch) : joinLo al ah cl ch = pls (fmin al cl) ∧ joinHi al ah cl ch = pls (fmax ah ch) := ⟨if_pos h, if_pos h⟩
/-- What Join answers has both. -/
theorem join_has {al ah cl ch : Nat} (lal : al < 18446744073709551616) (lah : ah < 18446744073709551616) (lcl : cl < 18446744073709551616) (lch : ch < 18446744073709551616) (h : Spn al ah ∧ Spn cl ch) :
    (joinLo al ah cl ch < 18446744073709551616 ∧ joinHi al ah cl ch < 18446744073709551616) ∧ Spn (joinLo al ah cl ch) (joinHi al ah cl ch) ∧
    (key (joinLo al ah cl ch) ≤ key al ∧ key ah ≤ key (joinHi al ah cl ch)) ∧ (key (joinLo al ah cl ch) ≤ key cl ∧ key ch ≤ key (joinHi al ah cl ch)) := by
  have s := join_spn h
  have k1 := fmin_key al cl
  have k2 := fmax_key ah ch
  rw [(joinLo_is h).1, (joinLo_is h).2]
  refine ⟨⟨pls_lt (fmin_of (p := fun x => x < 18446744073709551616) lal lcl), pls_lt (fmax_of (p := fun x => x < 18446744073709551616) lah lch)⟩, ⟨by rw [pls_mg]; exact s.1, by rw [pls_mg]; exact s.2.1, by rw [pls_key, pls_key]; exact s.2.2⟩, ?_, ?_⟩
  · rw [pls_key, pls_key]; omega
  · rw [pls_key, pls_key]; omega
end Go.Proofs.Ytghcoijinihlnaa.Fl
