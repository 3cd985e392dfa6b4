/-
  What the document's own divide by one digit, number, minus, finite return. Conditions: as each theorem states.
-/
import Derived.Test.YtffjkfjokikhnaaRw1
import Derived.Test.YtffjkfjokikhnaaRb5
namespace Go.Proofs.Ytffjkfjokikhnaa.Rb
open Go.RowKit Nb Fl
set_option maxHeartbeats 1000000 in
theorem divide1_any (A : Option Addr) (bd : Addr) (xs : List Nat) (c d y : Nat) (w : World) (hx : Sl .u32 w w.heap.size A xs) (dx : Dig W32 xs) (hB : Sl .u32 w w.heap.size (some bd) [y]) (hy : 0 < y) (hy2 : y ≤ 4294967295) (hb : xs.length * 4 ≤ 140737488351232) :
    Calls Try.prog 109 #[.slice A xs.length c, .slice (some bd) 1 d] w fun e w' => ∃ v u, e = .returned (.tuple #[v, u]) ∧ Limbs w (val W32 xs / y) xs.length v w' ∧ Limbs w (val W32 xs % y) 1 u w' := by
  have hS := Lib.hid (short_any A xs c y w hx dx hy hy2 hb)
  have hcell : w.cell? bd = some (.int .u32 (y : Nat)) := by
    obtain ⟨ad', e1, _, h2⟩ := hB.at_ (i := 0) (by simp)
    injection e1 with e1
    subst e1
    cases bd
    exact h2
  have hR : val W32 xs % y < 4294967296 := Nat.lt_of_lt_of_le (Nat.mod_lt _ hy) (by omega)
  generalize val W32 xs / y = Q at *
  generalize val W32 xs % y = R at *
  have HRB := Lib.hid hR
  clear hx dx hB
  go_enter Try.func109, Try.ntmps109
  go_wp2_with fail
  refine (hS.out).mono ?_
  rintro e w1 ⟨v, rfl, hl⟩
  have HL := Lib.hid hl
  obtain ⟨V, us, k, rfl, _, _, _, _, _, _, hb1⟩ := hl
  have HB1 := Lib.hid hb1
  have hrow : Row .u32 (w1.alloc (.cells #[.int .u32 R] 85)) w1.heap.size 85 [R] := heap_alloc_new w1 _
  have hT := Lib.hid (rtrim_any (some ⟨w1.heap.size, 0, none⟩) [R] 1 (w1.alloc (.cells #[.int .u32 R] 85)) (hrow.sl (by simp)) (by simp) (by unfold maxLen; omega))
  have HROW := Lib.hid hrow
  clear hrow hb1
  go_wp2_with fail
  refine (hT.out).mono ?_
  rintro e w2 ⟨rfl, rfl⟩
  go_wp2_with fail
  go_ret2
  have hln := trimL_len [R]
  refine ⟨.slice V us.length k, .slice (some ⟨w1.heap.size, 0, none⟩) (trimL [R]).length 1, rfl, ?_, ?_⟩
  · obtain ⟨V2, us2, k2, e2, s2, d2, n2, v2, l2, l3, b2⟩ := HL.out
    injection e2 with e3 e4 e5
    have hb2 : Below w1.heap.size w1 (w1.alloc (.cells #[.int .u32 R] 85)) := by go_grown
    subst e3 e5
    exact ⟨_, us2, k, by rw [e4], (s2.below hb2).more hb2.size, d2, n2, v2, l2, l3, b2.trans (hb2.mono b2.size)⟩
  · refine ⟨some ⟨w1.heap.size, 0, none⟩, trimL [R], 1, rfl, sl_trimL (HROW.out.sl (by simp)), dig_trimL (Dig.one HRB.out), norm_trimL _, by rw [val_trimL]; simp [val], by simpa using hln, Nat.le_refl _, ?_⟩
    exact HB1.out.trans (Below.mono (by go_grown) HB1.out.size)

set_option maxHeartbeats 1000000 in
theorem number_any (A : Option Addr) (xs : List Nat) (c : Nat) (w : World) (hx : Bg w false A xs c maxLen) (hv : val W32 xs ≤ 9223372036854775807) :
    Calls Try.prog 112 #[big false A xs.length c] w fun e w' => e = .returned (.int .u64 (val W32 xs : Nat)) ∧ Below w.heap.size w w' := by
  have hlen : xs.length ≤ 2 := by
    rcases Nat.lt_or_ge 2 xs.length with h | h
    · exfalso
      have h1 := norm_ge (B := W32) hx.norm (by omega)
      have h2 : W32 ^ 2 ≤ W32 ^ (xs.length - 1) := Nat.pow_le_pow_right (by decide) (by omega)
      have h3 : W32 ^ 2 = 18446744073709551616 := by decide
      omega
    · exact h
  have ho : Ok false xs := ⟨by omega, hx.norm, fun _ => rfl⟩
  have hI := Lib.hid (rint64_mid false A xs c)
  have hsl := hx.sl
  have hd := hx.dig
  have HI : Hid (∀ W, Sl .u32 W W.heap.size A xs → Calls Try.prog 114 #[big false A xs.length c] W fun e w' => e = .returned (.tuple #[.int .i64 (val W32 xs : Nat), .bool true]) ∧ Below W.heap.size W w') := Lib.hid (fun W h => by
    have := hI.out W h hd ho (by simp only [sv]; split <;> omega) (by simp only [sv]; split <;> omega)
    simpa [sv] using this)
  have hsl2 := (hsl.alloc (Nat.le_refl _) (.cells #[.bool false, .slice A xs.length c] 49)).more (B' := (w.alloc (.cells #[.bool false, .slice A xs.length c] 49)).heap.size) (by simp)
  have HS := Lib.hid hsl2
  have hvi : ((val W32 xs : Nat) : Int) ≤ 9223372036854775807 := by omega
  generalize val W32 xs = V at *
  clear hx hI hsl hd hsl2 ho hv
  go_enter Try.func112, Try.ntmps112
  go_wp2_with fail
  refine (HI.out _ HS.out).mono ?_
  rintro e w1 ⟨rfl, hb1⟩
  go_wp2
  go_ret
  exact ⟨rfl, Below.trans (by go_grown) (hb1.mono (by go_size))⟩
end Go.Proofs.Ytffjkfjokikhnaa.Rb
