/-
  What large.Int.Text returns for a number that is not nought: its decimal numeral, with a sign ahead of what is below nought. Condition: the table of powers of ten reads as the program's text lays it.
-/
import Derived.Test.YtghcoijinihlnaaGreatTextM
import Derived.Deep.LoopGhost
namespace Go.Proofs.YtghcoijinihlnaaGreat
open Go.RowKit Nb
/-- Ten to the power of as many digits as a word holds. -/
def T10 : Nat := 10000000000000000000
theorem T10_int : ((T10 : Nat) : Int) = 10000000000000000000 := rfl
theorem T10_lt : T10 < W64 := by decide
theorem T10_pos : 0 < T10 := by decide
theorem T10_pow : T10 = 10 ^ 19 := by decide
/-- One group more. -/
theorem text_step {gs : List Nat} {V X : Nat} (h : val T10 gs + T10 ^ gs.length * V = X) : val T10 (gs ++ [V % T10]) + T10 ^ (gs ++ [V % T10]).length * (V / T10) = X := by
  rw [val_snoc, List.length_append, List.length_cons, List.length_nil, Nat.pow_succ, Nat.mul_assoc, Nat.add_assoc, ← Nat.mul_add, Nat.mod_add_div]
  exact h
theorem text_last {gs : List Nat} {V : Nat} (hV : V ≠ 0) (h : V / T10 = 0) : Norm (gs ++ [V % T10]) := fun hne => by
  rw [List.getLast_append_of_ne_nil _ (by simp)]
  simp only [List.getLast_singleton]
  have := Nat.mod_add_div V T10
  rw [h] at this
  omega
theorem text_len {gs : List Nat} {V X L : Nat} (h : val T10 gs + T10 ^ gs.length * V = X) (hV : V ≠ 0) (hX : X < W64 ^ L) : gs.length < 2 * L := by
  have h1 : T10 ^ gs.length * 1 ≤ T10 ^ gs.length * V := Nat.mul_le_mul_left _ (by omega)
  have h2 : W64 ^ L ≤ T10 ^ (2 * L) := by
    rw [Nat.pow_mul]
    exact Nat.pow_le_pow_left (by decide) L
  have h3 : T10 ^ gs.length < T10 ^ (2 * L) := by omega
  exact (Nat.pow_lt_pow_iff_right (by decide)).1 h3
theorem info_u64p : ∃ i0, Tryz.prog.info? 58 = some i0 ∧ i0.zero = some (.int .u64 0) ∧ i0.size = 1 ∧ i0.bytes = 8 := info_parts info_u64
theorem size_u64 : ∀ w, (Go.sizeOf 58).run Tryz.prog w = .ok 1 w := fun w => by kernel_rfl
/-- A copy. -/
theorem clone_any (A : Option Addr) (xs : List Nat) (c : Nat) (w : World) (hx : Sl .u64 w w.heap.size A xs) (hl : xs.length * 8 ≤ 140737488351232) (hpos : 0 < xs.length) :
    Calls Tryz.prog 116 #[.slice A xs.length c] w fun e w' => ∃ g cap rest, e = .returned (.slice (some ⟨g, 0, none⟩) xs.length cap) ∧ RowV .u64 w' g 58 xs rest ∧ w.heap.size ≤ g ∧ cap ≤ maxLen ∧ xs.length ≤ cap ∧ Below w.heap.size w w' := by
  obtain ⟨i0, hi, hz0, hz1, hz2⟩ := info_u64p
  obtain ⟨ad, rfl, hb, hc⟩ := hx hpos
  obtain ⟨b, o, sp⟩ := ad
  have hsp : sp = none := by
    have := hc 0 hpos
    rw [show (⟨b, o, sp⟩ : Addr).add 0 = ⟨b, o, sp⟩ from by simp [Addr.add]] at this
    cases sp with
    | none => rfl
    | some s => simp [World.cell?] at this; split at this <;> simp at this
  subst hsp
  refine (Tryz.slices_Clone i0 (.int .u64 0) 1 8 hi hz0 hz1 hz2 rfl (by decide) size_u64 b o xs.length c (xs.map fun n : Nat => Value.int .u64 n) w (by simp) (by unfold maxLen; omega) (by omega) (fun j u hu => ?_) (fun u hu => ?_)).mono ?_
  · rw [List.getElem?_map] at hu
    rcases hj : xs[j]? with _ | x
    · rw [hj] at hu; cases hu
    · rw [hj] at hu
      obtain ⟨hlt, rfl⟩ := List.getElem?_eq_some_iff.1 hj
      have := hc j hlt
      rw [Lib.add_plain] at this
      rw [this]; exact hu
  · obtain ⟨n, _, rfl⟩ := List.mem_map.1 hu
    rfl
  · rintro e w' ⟨v', rfl, hown, _, hbel⟩
    obtain ⟨g, cap, rfl, hcap, hcap2⟩ : ∃ g cap, v' = .slice (some ⟨g, 0, none⟩) xs.length cap ∧ xs.length ≤ cap ∧ cap ≤ maxLen := by
      rcases hown.2 with ⟨_, h0⟩ | ⟨g, cap, cur, hv, _, _, h1, h2, _⟩
      · exact absurd h0 (by omega)
      · exact ⟨g, cap, hv, h1, h2⟩
    obtain ⟨rest, hrow, hg⟩ := RowV.of_own hown
    exact ⟨g, cap, rest, rfl, hrow, hg, hcap2, hcap, hbel⟩
theorem dec_len {H k : Nat} (h : H < T10 ^ k) (hk : 0 < k) : (Lib.decDigits H).length ≤ 19 * k := by
  rw [Lib.decDigits_length]
  refine nDigits_le (by omega) ?_
  rw [Nat.pow_mul, ← T10_pow]
  exact h
/-- One group more is told. -/
theorem dec_more {H d : Nat} (hH : 0 < H) (hd : d < T10) (l : List UInt8) : ((l ++ Lib.decDigits H) ++ Lib.repeatL (⟨#[48]⟩ : ByteArray).data.toList (19 - Lib.nDigits d)) ++ Lib.decDigits d = l ++ Lib.decDigits (d + T10 * H) := by
  have h1 : d + T10 * H = H * 10 ^ 19 + d := by rw [← T10_pow, Nat.mul_comm, Nat.add_comm]
  have h2 := dec_join (k := 19) hH (g := d) (by rw [← T10_pow]; exact hd)
  rw [h1, h2, padDec_eq (by decide) (by rw [← T10_pow]; exact hd)]
  have h3 := Lib.repeatL_replicate 48 1 (19 - Lib.nDigits d)
  rw [Nat.mul_one] at h3
  have h4 : (⟨#[48]⟩ : ByteArray).data.toList = List.replicate 1 48 := rfl
  rw [h4, h3]
  simp [List.append_assoc]
theorem gs_len {gs : List Nat} {X L : Nat} (hn : Norm gs) (hpos : 0 < gs.length) (h : val T10 gs = X) (hX : X < W64 ^ L) : gs.length ≤ 2 * L := by
  have h1 := norm_ge (B := T10) hn hpos
  have h2 : W64 ^ L ≤ T10 ^ (2 * L) := by
    rw [Nat.pow_mul]
    exact Nat.pow_le_pow_left (by decide) L
  have h3 : T10 ^ (gs.length - 1) < T10 ^ (2 * L) := by omega
  have := (Nat.pow_lt_pow_iff_right (by decide)).1 h3
  omega
theorem own_words {w : World} {B : Nat} {e : TypeId} {v : Value} {gs : List Nat} (h : w.ownsRow B e 1 v gs.length (gs.map fun n : Nat => Value.int .u64 n)) (hpos : 0 < gs.length) :
    ∃ g cap rest, v = .slice (some ⟨g, 0, none⟩) gs.length cap ∧ RowV .u64 w g e gs rest ∧ B ≤ g ∧ gs.length ≤ cap ∧ cap ≤ maxLen := by
  obtain ⟨g, cap, rfl, hcap, hcap2⟩ : ∃ g cap, v = .slice (some ⟨g, 0, none⟩) gs.length cap ∧ gs.length ≤ cap ∧ cap ≤ maxLen := by
    rcases h.2 with ⟨_, h0⟩ | ⟨g, cap, cur, hv, _, _, h1, h2, _⟩
    · exact absurd h0 (by omega)
    · exact ⟨g, cap, hv, h1, h2⟩
  obtain ⟨rest, hrow, hg⟩ := RowV.of_own h
  exact ⟨g, cap, rest, rfl, hrow, hg, hcap, hcap2⟩
theorem own_far {w : World} {B g n : Nat} {e : TypeId} {v : Value} {vs : List Value} (h : w.ownsRow B e 1 v n vs) (hg : g < B) : some g ≠ v.ownBlock := by
  rcases h.2 with ⟨rfl, _⟩ | ⟨g', cap, cur, rfl, hb, _⟩
  · simp [Value.ownBlock]
  · intro e
    simp [Value.ownBlock] at e
    omega
end Go.Proofs.YtghcoijinihlnaaGreat
