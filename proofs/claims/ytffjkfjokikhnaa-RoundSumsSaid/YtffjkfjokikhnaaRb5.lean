/-
  Plain facts and contracts that hold in this seat: joined by program. Conditions: as each theorem states.
-/
import Derived.Test.YtffjkfjokikhnaaRb4
/-! ### Look4 -/
namespace Go.Proofs.Ytffjkfjokikhnaa
open Go.RowKit Nb
theorem ret2_int {a b : Int} (h : a = b) : Ending.returned (.tuple #[.int .i64 a, .bool true]) = .returned (.tuple #[.int .i64 b, .bool true]) := by rw [h]
/-- One boxed number, told twice. -/
theorem Two.one {w : World} {n : Bool} {A : Option Addr} {xs : List Nat} {l c : Nat} (hr : Sl .u32 w w.heap.size A xs) :
    Two w (w.alloc (.cells #[.bool n, .slice A l c] 49)) w.heap.size w.heap.size n n A A xs xs l c l c :=
  ⟨by go_grown, by simp, by simp, (hr.alloc (Nat.le_refl _) _).more (by simp), (hr.alloc (Nat.le_refl _) _).more (by simp), by go_cell, by go_cell, by go_cell, by go_cell⟩
set_option maxHeartbeats 4000000 in
theorem rint64_bad (neg : Bool) (A : Option Addr) (ls : List Nat) (c : Nat) (w : World) (hr : Sl .u32 w w.heap.size A ls) (hl : ls.length * 4 ≤ 140737488351232) (ho : ¬ Ok neg ls) :
    Calls Try.prog 114 #[big neg A ls.length c] w fun e w' => e = .returned (.tuple #[.int .i64 0, .bool false]) ∧ Below w.heap.size w w' := by
  have ht := Two.one (n := neg) (l := ls.length) (c := c) hr
  have HT := Lib.hid ht.all
  go_enter Try.func114, Try.ntmps114
  go_wp2_with fail
  generalize w.alloc (.cells #[.bool neg, .slice A ls.length c] 49) = W at *
  have q0 := ht.a0
  have q1 := ht.a1
  go_region_with (go_at_call 115; refine (rcheck_bad neg A ls c _ (by exact (ht.on ((Below.refl _ _).drew)).sa) hl ho).mono ?_; rintro e w1 ⟨rfl, hb1⟩)
  all_goals
    go_wp2
    go_ret2
    exact ⟨rfl, ((ht.on ((Below.refl _ _).drew)).on hb1).below⟩
def minL : List Nat := ofI (-9223372036854775808)
def maxL : List Nat := ofI 9223372036854775807
theorem minL_ok : Ok true minL := by
  have h := ofI_ok (n := -9223372036854775808) (by decide) (by decide)
  rw [show decide ((-9223372036854775808 : Int) < 0) = true from by decide] at h
  exact h
theorem maxL_ok : Ok false maxL := by
  have h := ofI_ok (n := 9223372036854775807) (by decide) (by decide)
  rw [show decide ((9223372036854775807 : Int) < 0) = false from by decide] at h
  exact h
theorem minL_sv : sv true (val W32 minL) = -9223372036854775808 := by rw [minL, ofI_val (by decide) (by decide)]; rfl
theorem maxL_sv : sv false (val W32 maxL) = 9223372036854775807 := by rw [maxL, ofI_val (by decide) (by decide)]; rfl
theorem rof_min (w : World) : Calls Try.prog 89 #[.int .i64 (-9223372036854775808)] w fun e w' => ∃ A c, e = .returned (big true A minL.length c) ∧ Sl .u32 w' w'.heap.size A minL ∧ Below w.heap.size w w' :=
  (rof_any (-9223372036854775808) w (by decide) (by decide)).mono fun e w' ⟨A, c, h1, h2, _, _, h3⟩ => ⟨A, c, h1, h2, h3⟩
theorem rof_max (w : World) : Calls Try.prog 89 #[.int .i64 9223372036854775807] w fun e w' => ∃ A c, e = .returned (big false A maxL.length c) ∧ Sl .u32 w' w'.heap.size A maxL ∧ Below w.heap.size w w' :=
  (rof_any 9223372036854775807 w (by decide) (by decide)).mono fun e w' ⟨A, c, h1, h2, _, _, h3⟩ => ⟨A, c, h1, h2, h3⟩
theorem rCmp_min (r : Int) (neg : Bool) (A B : Option Addr) (ls : List Nat) (c d : Nat) (w : World) (hr : Sl .u32 w w.heap.size A ls) (hs : Sl .u32 w w.heap.size B minL) (hd : Dig W32 ls) (ho : Ok neg ls) (hv : cmpI (sv neg (val W32 ls)) (-9223372036854775808) = r) :
    Calls Try.prog 101 #[big neg A ls.length c, big true B minL.length d] w fun e w' => e = .returned (.int .i64 r) ∧ Below w.heap.size w w' := by
  have h := rCmp_any neg true A B ls minL c d w hr hs hd (ofI_dig _) ho minL_ok
  rw [minL_sv, hv] at h
  exact h
theorem rCmp_max (r : Int) (neg : Bool) (A B : Option Addr) (ls : List Nat) (c d : Nat) (w : World) (hr : Sl .u32 w w.heap.size A ls) (hs : Sl .u32 w w.heap.size B maxL) (hd : Dig W32 ls) (ho : Ok neg ls) (hv : cmpI (sv neg (val W32 ls)) 9223372036854775807 = r) :
    Calls Try.prog 101 #[big neg A ls.length c, big false B maxL.length d] w fun e w' => e = .returned (.int .i64 r) ∧ Below w.heap.size w w' := by
  have h := rCmp_any neg false A B ls maxL c d w hr hs hd (ofI_dig _) ho maxL_ok
  rw [maxL_sv, hv] at h
  exact h
set_option maxHeartbeats 4000000 in
theorem rint64_lo (neg : Bool) (A : Option Addr) (ls : List Nat) (c : Nat) (w : World) (hr : Sl .u32 w w.heap.size A ls) (hd : Dig W32 ls) (ho : Ok neg ls) (hz : sv neg (val W32 ls) < -9223372036854775808) :
    Calls Try.prog 114 #[big neg A ls.length c] w fun e w' => e = .returned (.tuple #[.int .i64 0, .bool false]) ∧ Below w.heap.size w w' := by
  have ht := Two.one (n := neg) (l := ls.length) (c := c) hr
  have R := Lib.hid (cmpI_lt hz)
  have T := Lib.hid (ht.on ((Below.refl _ _).drew))
  clear hz
  have q0 := ht.a0
  have q1 := ht.a1
  go_enter Try.func114, Try.ntmps114
  go_wp2_with fail
  generalize w.alloc (.cells #[.bool neg, .slice A ls.length c] 49) = W at *
  go_region_with (first
    | (go_at_call 115; refine (rcheck_ok neg A ls c _ (by exact T.out.sa) ho).mono ?_; rintro e w1 ⟨rfl, hb1⟩; have T1 := Lib.hid (T.out.on hb1); have p0 := T1.out.a0; have p1 := T1.out.a1)
    | (go_at_call 89; refine (rof_min _).mono ?_; rintro e w2 ⟨B, d, rfl, hsB, hb2⟩; have T2 := Lib.hid (T1.out.on hb2); have r0 := T2.out.a0; have r1 := T2.out.a1; have HSB := Lib.hid hsB; clear hsB)
    | (go_at_call 101; refine (rCmp_min (-1) neg A _ ls c _ _ (by exact T2.out.sa) (by exact HSB.out) hd ho R.out).mono ?_; rintro e w3 ⟨rfl, hb3⟩))
  all_goals
    go_wp2
    go_ret2
    exact ⟨rfl, (T2.out.on hb3).below⟩
set_option maxHeartbeats 8000000 in
theorem rint64_hi (neg : Bool) (A : Option Addr) (ls : List Nat) (c : Nat) (w : World) (hr : Sl .u32 w w.heap.size A ls) (hd : Dig W32 ls) (ho : Ok neg ls) (hz : 9223372036854775807 < sv neg (val W32 ls)) :
    Calls Try.prog 114 #[big neg A ls.length c] w fun e w' => e = .returned (.tuple #[.int .i64 0, .bool false]) ∧ Below w.heap.size w w' := by
  have ht := Two.one (n := neg) (l := ls.length) (c := c) hr
  have R1 := Lib.hid (cmpI_gt (show -9223372036854775808 < sv neg (val W32 ls) by omega))
  have R2 := Lib.hid (cmpI_gt hz)
  have T := Lib.hid (ht.on ((Below.refl _ _).drew))
  clear hz
  have q0 := ht.a0
  have q1 := ht.a1
  go_enter Try.func114, Try.ntmps114
  go_wp2_with fail
  generalize w.alloc (.cells #[.bool neg, .slice A ls.length c] 49) = W at *
  go_region_with (first
    | (go_at_call 115; refine (rcheck_ok neg A ls c _ (by exact T.out.sa) ho).mono ?_; rintro e w1 ⟨rfl, hb1⟩; have T1 := Lib.hid (T.out.on hb1); have p0 := T1.out.a0; have p1 := T1.out.a1)
    | (go_at_call 89; with_reducible refine (rof_min _).mono ?_; rintro e w2 ⟨B, d, rfl, hsB, hb2⟩; have T2 := Lib.hid (T1.out.on hb2); have r0 := T2.out.a0; have r1 := T2.out.a1; have HSB := Lib.hid hsB; clear hsB)
    | (go_at_call 101; with_reducible refine (rCmp_min 1 neg A B ls c d _ (by exact T2.out.sa) (by exact HSB.out) hd ho R1.out).mono ?_; rintro e w3 ⟨rfl, hb3⟩; have T3 := Lib.hid (T2.out.on hb3); have s0 := T3.out.a0; have s1 := T3.out.a1)
    | (go_at_call 89; with_reducible refine (rof_max _).mono ?_; rintro e w4 ⟨C, m, rfl, hsC, hb4⟩; have T4 := Lib.hid (T3.out.on hb4); have v0 := T4.out.a0; have v1 := T4.out.a1; have HSC := Lib.hid hsC; clear hsC)
    | (go_at_call 101; with_reducible refine (rCmp_max 1 neg A C ls c m _ (by exact T4.out.sa) (by exact HSC.out) hd ho R2.out).mono ?_; rintro e w5 ⟨rfl, hb5⟩; have T5 := Lib.hid (T4.out.on hb5); have x0 := T5.out.a0; have x1 := T5.out.a1))
  all_goals
    go_wp2
    go_ret2
    exact ⟨rfl, T5.out.below⟩
end Go.Proofs.Ytffjkfjokikhnaa
/-! ### Look5 -/
namespace Go.Proofs.Ytffjkfjokikhnaa
open Go.RowKit Nb
theorem val_drop_le (B : Nat) (xs : List Nat) {k : Nat} (hk : k ≤ xs.length) (hB : 0 < B) : val B (xs.drop k) ≤ val B xs := by
  have h := val_take_drop B xs k hk
  have h2 : 1 * val B (xs.drop k) ≤ B ^ k * val B (xs.drop k) := Nat.mul_le_mul_right _ (Nat.pow_pos hB)
  omega
theorem val_drop_one (B : Nat) {xs : List Nat} {j : Nat} (hj : j < xs.length) : val B (xs.drop j) = xs[j] + B * val B (xs.drop (j + 1)) := by
  rw [List.drop_eq_getElem_cons hj, val_cons]
theorem Two.get {w W : World} {p q : Nat} {n1 n2 : Bool} {A B : Option Addr} {xs ys : List Nat} {l1 c l2 d : Nat} {X : Prop} (h : Two w W p q n1 n2 A B xs ys l1 c l2 d ∧ X) : Two w W p q n1 n2 A B xs ys l1 c l2 d := h.1
set_option maxHeartbeats 4000000 in
theorem rint64_mid (neg : Bool) (A : Option Addr) (ls : List Nat) (c : Nat) (w : World) (hr : Sl .u32 w w.heap.size A ls) (hd : Dig W32 ls) (ho : Ok neg ls) (h0 : -9223372036854775808 ≤ sv neg (val W32 ls)) (h1 : sv neg (val W32 ls) ≤ 9223372036854775807) :
    Calls Try.prog 114 #[big neg A ls.length c] w fun e w' => e = .returned (.tuple #[.int .i64 (sv neg (val W32 ls)), .bool true]) ∧ Below w.heap.size w w' := by
  have ht := Two.one (n := neg) (l := ls.length) (c := c) hr
  have hr1 : 0 ≤ cmpI (sv neg (val W32 ls)) (-9223372036854775808) := by unfold cmpI; rw [if_neg (by omega)]; split <;> omega
  have hr2 : cmpI (sv neg (val W32 ls)) 9223372036854775807 ≤ 0 := by
    unfold cmpI; split
    · omega
    · rw [if_neg (by omega)]; omega
  have hbd : (val W32 ls : Int) ≤ 9223372036854775808 := by unfold sv at h0 h1; split at h0 <;> simp_all <;> omega
  have hbd2 : neg = false → (val W32 ls : Int) ≤ 9223372036854775807 := by intro e; subst e; exact h1
  have hlen := ho.len
  have C1 : ∀ r, r = cmpI (sv neg (val W32 ls)) (-9223372036854775808) → cmpI (sv neg (val W32 ls)) (-9223372036854775808) = r := fun r h => h.symm
  generalize hrr1 : cmpI (sv neg (val W32 ls)) (-9223372036854775808) = r1 at *
  generalize hrr2 : cmpI (sv neg (val W32 ls)) 9223372036854775807 = r2 at *
  have R1 := Lib.hid hrr1
  have R2 := Lib.hid hrr2
  have HB := Lib.hid hbd
  have HB2 := Lib.hid hbd2
  have hn1 : decide (r1 < 0) = false := by simp; omega
  have hn2 : decide (0 < r2) = false := by simp; omega
  clear C1 hrr1 hrr2 h0 h1 hbd hbd2
  have HT := Lib.hid ht.all
  go_enter Try.func114, Try.ntmps114
  go_wp2_with fail
  generalize w.alloc (.cells #[.bool neg, .slice A ls.length c] 49) = W at *
  have hall := HT.out
  go_region_held3 (fun w' => Two w w' w.heap.size w.heap.size neg neg A A ls ls ls.length c ls.length c ∧ w'.cell? ⟨w.heap.size, 0, none⟩ = some (.bool neg) ∧ w'.cell? ⟨w.heap.size, 1, none⟩ = some (.slice A ls.length c) ∧ w'.cell? ⟨w.heap.size, 0, none⟩ = some (.bool neg) ∧ w'.cell? ⟨w.heap.size, 1, none⟩ = some (.slice A ls.length c))
    (first | exact HT.out | exact Two.keep HT.out ((Below.refl _ _).drew) | exact Two.keep (by assumption) (by assumption) | exact Two.keep (by assumption) ((Below.refl _ _).drew))
    (first
      | (go_at_call 115; refine (rcheck_ok neg A ls c _ (Two.sa' (by assumption)) ho).mono ?_; rintro e w' ⟨rfl, hb⟩)
      | (go_at_call 89; with_reducible refine (rof_min _).mono ?_; rintro e w' ⟨B, d, rfl, hsB, hb⟩)
      | (go_at_call 101; with_reducible refine (rCmp_min r1 neg A _ ls c _ _ (Two.sa' (by assumption)) (by assumption) hd ho R1.out).mono ?_; rintro e w' ⟨rfl, hb⟩)
      | (go_at_call 89; with_reducible refine (rof_max _).mono ?_; rintro e w' ⟨C, m, rfl, hsC, hb⟩)
      | (go_at_call 101; with_reducible refine (rCmp_max r2 neg A _ ls c _ _ (Two.sa' (by assumption)) (by assumption) hd ho R2.out).mono ?_; rintro e w' ⟨rfl, hb⟩))
  go_wp2
  have hst : Two w w' w.heap.size w.heap.size neg neg A A ls ls ls.length c ls.length c := Two.get (by assumption)
  have e0 := hst.a0
  have e1 := hst.a1
  go_loop [4, 5] (fun nv iv => ∃ (k : Nat) (q : Int), k ≤ ls.length ∧ iv = .int .i64 q ∧ q + 1 = k ∧ nv = .int .u64 (val W32 (ls.drop k) : Nat)) (fun _ iv => (intOf iv + 1).toNat)
  case atStart => exact ⟨ls.length, _, Nat.le_refl _, rfl, by omega, by rw [List.drop_length]; rfl⟩
  case round =>
    obtain ⟨k, q, hk, rfl, hq, rfl⟩ := hrel
    rcases k with _ | j
    · obtain rfl : q = -1 := by omega
      clear hq
      have hv0 : val W32 (ls.drop 0) = val W32 ls := by rw [List.drop_zero]
      rw [hv0]
      have hb1 := HB.out
      have hb2 := HB2.out
      clear hv0
      rcases neg with _ | _
      · have hb3 := hb2 rfl
        have hw : wrap64 (val W32 ls : Int) = val W32 ls := IntWalk.wrap64_in _ (by omega)
        clear hb1 hb2 HB2
        go_wp2
        go_ret2
        exact ⟨ret2_int rfl, hst.below⟩
      · have hw : IntKind.i64.wrap (IntKind.u64.wrap (-(val W32 ls : Int))) = -(val W32 ls : Int) := by rw [IntKind.wrap_i64, IntKind.wrap_u64]; omega
        have hw2 : wrap64 (IntKind.u64.wrap (-(val W32 ls : Int))) = -(val W32 ls : Int) := by rw [← IntWalk.i64_left]; exact hw
        have HW := Lib.hid hw2
        clear hb1 hb2 HB2 hw hw2
        go_wp2
        go_ret2
        exact ⟨ret2_int HW.out, hst.below⟩
    · obtain rfl : q = j := by omega
      clear hq
      have hj : j < ls.length := by omega
      obtain ⟨ad, rfl, hb0, hcell⟩ := hst.sa.at_ hj
      have hvd := val_drop_one W32 hj
      have hle := val_drop_le W32 ls (k := j) (by omega) (by decide)
      have hb1 := HB.out
      have hji : (j : Int) < (ls.length : Int) := by omega
      generalize val W32 (ls.drop (j + 1)) = v at *
      generalize ls[j] = x at *
      have hmul : (v : Int) * 4294967296 + x = (val W32 (ls.drop j) : Nat) := by rw [hvd]; simp [W32]; omega
      have hvb : (v : Int) * 4294967296 ≤ 18446744073709551615 := by omega
      have hsum : (v : Int) * 4294967296 + x ≤ 18446744073709551615 := by omega
      have HM := Lib.hid hmul
      clear hvd hmul hle
      go_wp2
      go_round
      case rel => exact ⟨j, _, by omega, rfl, by omega, by rw [← HM.out]⟩
      case measure => simp [intOf]
end Go.Proofs.Ytffjkfjokikhnaa
