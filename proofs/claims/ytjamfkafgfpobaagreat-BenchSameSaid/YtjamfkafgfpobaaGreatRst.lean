/-
  A number that fits has as few words as fit, however it came about. No conditions.
-/
import Derived.Test.YtjamfkafgfpobaaGreatRm0
namespace Go.Proofs.YtjamfkafgfpobaaGreat
open Go.RowKit Nb
theorem pow_6432 (k : Nat) : W64 ^ k = W32 ^ (2 * k) := by rw [show W64 = W32 ^ 2 from rfl, ← Nat.pow_mul]
theorem fits_len {ls : List Nat} (k : Nat) (hn : Norm ls) (h : val W64 ls < W32 ^ (2 * k)) : ls.length ≤ k := by
  rcases Nat.eq_zero_or_pos ls.length with h0 | h0
  · omega
  · have h1 := norm_ge (B := W64) hn h0
    rw [← pow_6432] at h
    have h2 := (Nat.pow_lt_pow_iff_right (show 1 < W64 by decide)).1 (Nat.lt_of_le_of_lt h1 h)
    omega
section
variable {W : World} {n : Bool} {A : Option Addr} {ls : List Nat} {c C : Nat} {q : Rat} {f : Fv}
theorem Bg.reset (h : Bg W n A ls c C) (hf : (sv n (val W64 ls)).natAbs < W32 ^ (2 * 1024)) : Bg W n A ls c 1024 :=
  ⟨h.sl, h.dig, h.norm, h.sign, h.len, fits_len 1024 h.norm (by rwa [sv_abs] at hf), h.room⟩
theorem Fq.reset (h : Fq W q f C) (hf : FitsQ q) : Fq W q f 1024 := by
  obtain ⟨h0, h1⟩ := h
  have e : 2048 = 2 * 1024 := rfl
  obtain ⟨k1, k2⟩ := hf
  unfold Fits at k1 k2
  rw [e] at k1 k2
  exact ⟨h0, h1.num.reset (by rw [h1.vn]; exact k1), h1.den.reset (by rw [h1.svd]; exact k2), h1.vn, h1.vd⟩
end
end Go.Proofs.YtjamfkafgfpobaaGreat
