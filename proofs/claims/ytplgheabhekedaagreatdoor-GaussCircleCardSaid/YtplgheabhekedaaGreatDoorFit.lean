/-
  What whole.fit returns: the number in limbs, or the refusal where it is too long. No conditions but that it is a number, and no longer than memory.
-/
import Derived.Test.YtplgheabhekedaaGreatDoorWh
import Derived.Test.YtplgheabhekedaaGreatDoorInt3
namespace Go.Proofs.YtplgheabhekedaaGreatDoor
open Go.RowKit Nb

/-- May a number be told (has it no more limbs than may be)? -/
def Fits (Z : Int) : Prop := Z.natAbs < W32 ^ 2048
/-- A number in limbs. -/
structure Lm (w : World) (neg : Bool) (A : Option Addr) (ls : List Nat) (c : Nat) : Prop where
  sl : Sl .u32 w w.heap.size A ls
  dig : Dig W32 ls
  ok : Ok neg ls
theorem Lm.below {w w' : World} {neg : Bool} {A : Option Addr} {ls : List Nat} {c : Nat} (h : Lm w neg A ls c) (hb : Below w.heap.size w w') : Lm w' neg A ls c := ⟨(h.sl.below hb).more hb.size, h.dig, h.ok⟩
/-- What is told of a number: itself, or the refusal. -/
def Says (Z : Int) (n : Bool) (ls : List Nat) (er : Int) : Prop := (Fits Z ∧ er = 0 ∧ sv n (val W32 ls) = Z) ∨ (¬ Fits Z ∧ er = 4 ∧ ls = [] ∧ n = false)
def Told (w : World) (Z : Int) (e : Ending) (w' : World) : Prop := ∃ (n : Bool) (V : Option Addr) (ls : List Nat) (k : Nat) (er : Int), e = .returned (.tuple #[big n V ls.length k, .int .i64 er]) ∧
  Lm w' n V ls k ∧ Says Z n ls er ∧ Below w.heap.size w w'
theorem ok_zero : Ok false [] := ⟨by simp, Norm.nil, fun _ => rfl⟩
theorem sv_abs (n : Bool) (v : Nat) : (sv n v).natAbs = v := by cases n <;> simp [sv]

theorem limbsL_le' {ws : List Nat} (hd : Dig W64 ws) (hn : Norm ws) (k : Nat) : limbsL ws ≤ k ↔ val W64 ws < W32 ^ k := by
  have h1 : lenL ws = bitLen (val W64 ws) := lenL_val hd hn
  have h2 : bitLen (val W64 ws) ≤ 32 * k ↔ val W64 ws < 2 ^ (32 * k) := bitLen_le_iff
  rw [show W32 ^ k = 2 ^ (32 * k) by rw [Nat.pow_mul], ← h2, ← h1]
  unfold limbsL
  omega
theorem limbsL_le {ws : List Nat} (hd : Dig W64 ws) (hn : Norm ws) : limbsL ws ≤ 2048 ↔ val W64 ws < W32 ^ 2048 := limbsL_le' hd hn 2048

set_option maxHeartbeats 1000000 in
theorem fit_any (neg : Bool) (A : Option Addr) (ws : List Nat) (c C : Nat) (w : World) (hx : Bg w neg A ws c C) (hl : ws.length * 8 ≤ 140737488351232) :
    Calls Tryz.prog 147 #[big neg A ws.length c] w (Told w (sv neg (val W64 ws))) := by
  have hF : Fits (sv neg (val W64 ws)) ↔ limbsL ws ≤ 2048 := by
    unfold Fits; rw [sv_abs]; exact (limbsL_le hx.dig hx.norm).symm
  have hv := val_unpack hx.dig hx.norm
  have hun := norm_unpack hx.dig hx.norm
  have hul := unpack_length ws
  have hlb := lenL_le hx.dig
  have hlen : limbsL ws ≤ 140737488351232 := by unfold limbsL; omega
  have hsg : unpack ws = [] → neg = false := fun h => by
    apply hx.sign
    rw [h] at hv
    exact (norm_zero (B := W64) (by decide) hx.norm).1 (by simpa [val] using hv.symm)
  have HU := Lib.hid (And.intro hv (And.intro hun hsg)); clear hv hun hsg hlb
  have r0 : ∀ W : World, Sl .u64 W W.heap.size A ws → Sl .u64 ((W.alloc (.cells #[.bool neg, .slice A ws.length c] 85)).alloc (.cells #[.bool false, .slice none 0 0] 24)) ((W.alloc (.cells #[.bool neg, .slice A ws.length c] 85)).alloc (.cells #[.bool false, .slice none 0 0] 24)).heap.size A ws := fun W h => ((h.alloc (Nat.le_refl _) _).alloc (by go_size) _).more (by go_size)
  have s0 := r0 _ hx.sl
  have q0 : ((w.alloc (.cells #[.bool neg, .slice A ws.length c] 85)).alloc (.cells #[.bool false, .slice none 0 0] 24)).cell? ⟨w.heap.size, 0, none⟩ = some (.bool neg) := by go_cell
  have q1 : ((w.alloc (.cells #[.bool neg, .slice A ws.length c] 85)).alloc (.cells #[.bool false, .slice none 0 0] 24)).cell? ⟨w.heap.size, 1, none⟩ = some (.slice A ws.length c) := by go_cell
  have q2 : ((w.alloc (.cells #[.bool neg, .slice A ws.length c] 85)).alloc (.cells #[.bool false, .slice none 0 0] 24)).cell? ⟨w.heap.size + 1, 0, none⟩ = some (.bool false) := by go_cell
  have q3 : ((w.alloc (.cells #[.bool neg, .slice A ws.length c] 85)).alloc (.cells #[.bool false, .slice none 0 0] 24)).cell? ⟨w.heap.size + 1, 1, none⟩ = some (.slice none 0 0) := by go_cell
  have q4 : ((w.alloc (.cells #[.bool neg, .slice A ws.length c] 85)).alloc (.cells #[.bool false, .slice none 0 0] 24)).frozen? ⟨w.heap.size + 1, 0, none⟩ = false := by simp
  have q5 : ((w.alloc (.cells #[.bool neg, .slice A ws.length c] 85)).alloc (.cells #[.bool false, .slice none 0 0] 24)).frozen? ⟨w.heap.size + 1, 1, none⟩ = false := by simp
  have hb0 : Below w.heap.size w ((w.alloc (.cells #[.bool neg, .slice A ws.length c] 85)).alloc (.cells #[.bool false, .slice none 0 0] 24)) := by go_grown
  have hz0 : ((w.alloc (.cells #[.bool neg, .slice A ws.length c] 85)).alloc (.cells #[.bool false, .slice none 0 0] 24)).heap.size = w.heap.size + 1 + 1 := by go_size
  go_enter Tryz.func147, Tryz.ntmps147
  go_wp2_with fail
  generalize hW : ((w.alloc (.cells #[.bool neg, .slice A ws.length c] 85)).alloc (.cells #[.bool false, .slice none 0 0] 24)) = W at *
  clear hW
  refine (limbs_any neg A ws c _ s0 hx.dig hl).mono ?_
  rintro e w1 ⟨rfl, hb1⟩
  have HZ := Lib.hid hb1.size
  have g0 := (hb1.cell (p := ⟨w.heap.size, 0, none⟩) (by simp; omega)).trans q0
  have g1 := (hb1.cell (p := ⟨w.heap.size, 1, none⟩) (by simp; omega)).trans q1
  have g2 := (hb1.cell (p := ⟨w.heap.size + 1, 0, none⟩) (by simp; omega)).trans q2
  have g3 := (hb1.cell (p := ⟨w.heap.size + 1, 1, none⟩) (by simp; omega)).trans q3
  have g4 := (hb1.frozen (p := ⟨w.heap.size + 1, 0, none⟩) (by simp; omega)).trans q4
  have g5 := (hb1.frozen (p := ⟨w.heap.size + 1, 1, none⟩) (by simp; omega)).trans q5
  have s1 := (s0.below hb1).more hb1.size
  have hbw := hb0.trans (hb1.mono hb0.size)
  clear q0 q1 q2 q3 q4 q5
  by_cases hF2 : limbsL ws ≤ 2048
  · go_wp2_with fail
    refine (int_any neg A ws c _ s1 hx.dig hx.norm hl).mono ?_
    rintro e w2 ⟨g, rfl, hrow, hg, hb2⟩
    have e2 := (hb2.cell (p := ⟨w.heap.size + 1, 0, none⟩) (by simp; have := HZ.out; omega)).trans g2
    have e3 := (hb2.cell (p := ⟨w.heap.size + 1, 1, none⟩) (by simp; have := HZ.out; omega)).trans g3
    have e4 := (hb2.frozen (p := ⟨w.heap.size + 1, 0, none⟩) (by simp; have := HZ.out; omega)).trans g4
    have e5 := (hb2.frozen (p := ⟨w.heap.size + 1, 1, none⟩) (by simp; have := HZ.out; omega)).trans g5
    go_wp2
    have hne : g ≠ w.heap.size + 1 := by have := HZ.out; omega
    refine bodyPost_ret (v := .tuple #[big neg (some ⟨g, 0, none⟩) (unpack ws).length (unpack ws).length, .int .i64 0]) (by simp [results, Tryz.results147, go_sem, e2, e3, hul]) rfl ?_
    refine ⟨neg, some ⟨g, 0, none⟩, unpack ws, (unpack ws).length, 0, rfl, ⟨?_, dig_unpack ws, ⟨by omega, HU.out.2.1, HU.out.2.2⟩⟩, .inl ⟨hF.2 hF2, rfl, by rw [HU.out.1]⟩, ?_⟩
    · exact ((hrow.far (by simp; omega) _).far (by simp; omega) _).sl (by have := hrow.lt; simp; omega)
    · exact ((hbw.trans (hb2.mono hbw.size)).setCell (by simp) _).setCell (by simp) _
  · go_wp2
    refine bodyPost_ret (v := .tuple #[big false none ([] : List Nat).length 0, .int .i64 4]) (by simp [results, Tryz.results147, go_sem, g2, g3]) rfl ?_
    refine ⟨false, none, [], 0, 4, rfl, ⟨fun h => absurd h (by simp), by intro x hx; simp at hx, ok_zero⟩, .inr ⟨fun h => hF2 (hF.1 h), rfl, rfl, rfl⟩, ?_⟩
    exact (hbw.setCell (by simp) _).setCell (by simp) _
end Go.Proofs.YtplgheabhekedaaGreatDoor
