/-
  What span's Sqrt returns of a span that has what is not below nought. Condition: floats of 64 bits.
-/
import Derived.Test.YtghcoijinihlnaaSpq
namespace Go.Proofs.Ytghcoijinihlnaa.Fl
open Go.RowKit Ieee
/-- What round.Sqrt answers of a float that is not below nought. -/
def RtIs (x d u : Nat) : Prop := ∃ r, double.sqrt x = some r ∧ SqrtIs x r d u
theorem key_sign {x : Nat} (h : 0 ≤ key x) : ng x = false ∨ mg x = 0 := by
  unfold key at h
  split at h
  · exact .inr (by omega)
  · rename_i q; exact .inl (by simpa using q)
theorem rt_call {x : Nat} (W : World) (hx : x < 18446744073709551616) (fx : mg x < 9218868437227405312) (h0 : 0 ≤ key x) :
    Calls Try.prog 23 #[.float .f64 x] W fun e w' => ∃ d u, e = .returned (.tuple #[.float .f64 d, .float .f64 u]) ∧ Below W.heap.size W w' ∧ Flt d ∧ Flt u ∧ RtIs x d u := by
  obtain ⟨r, hr⟩ := sqrt_fin fx (key_sign h0)
  refine (sqrtd_any x W hx).mono ?_
  rintro e w' ⟨d, u, he, hb, h⟩
  have hq : sqw x W = r := by unfold sqw; rw [hr]; rfl
  rw [hq] at h
  have ht := sqrt_told hr
  have hf : Flt d ∧ Flt u := by
    rcases h with ⟨_, rfl, rfl⟩ | ⟨_, _, l, _, rfl, rfl⟩
    · exact ⟨⟨ht.2, ht.1⟩, ⟨ht.2, ht.1⟩⟩
    · exact lohi_flt l ht.2 ht.1
  exact ⟨d, u, he, hb, hf.1, hf.2, r, hr, h⟩
theorem max_nought {l : Nat} (hl : l < 18446744073709551616) (fl : mg l < 9218868437227405312) : fmax l 0 < 18446744073709551616 ∧ mg (fmax l 0) < 9218868437227405312 ∧ 0 ≤ key (fmax l 0) :=
  ⟨fmax_of (p := fun x => x < 18446744073709551616) hl (by decide), fmax_of (p := fun x => mg x < 9218868437227405312) fl (by decide), by rw [fmax_key, key_zero]; omega⟩
theorem Zr.newOf (W : World) (x y : Nat) (t : TypeId) : Zr (W.alloc (.cells #[.float .f64 x, .float .f64 y] t)) W.heap.size [x, y] := by
  refine ⟨by simp, fun j hj => ?_, fun j => World.frozen?_alloc_at _ _ _ _ rfl⟩
  rw [World.cell?_alloc_new]
  match j, hj with
  | 0, _ => rfl
  | 1, _ => rfl
set_option maxHeartbeats 4000000 in
theorem spanrt_ok (l h : Nat) (w : World) (h1 : l < 18446744073709551616) (h2 : h < 18446744073709551616) (hs : Spn l h) (hh : 0 ≤ key h) :
    Calls Try.prog 9 #[spv l h] w fun e w' => ∃ d1 u1 d2 u2, RtIs (fmax l 0) d1 u1 ∧ RtIs h d2 u2 ∧ (Flt d1 ∧ Flt u1 ∧ Flt d2 ∧ Flt u2) ∧
      e = .returned (.tuple #[spv (leaLo d1 u1 [(d2, u2)]) (leaHi d1 u1 [(d2, u2)]), .int .i64 (leaE d1 u1 [(d2, u2)])]) ∧ Below w.heap.size w w' := by
  have HC := Lib.hid (fun W => check_span l h W h1)
  have hm0 := max_nought h1 hs.1
  have HD1 := Lib.hid (fun W => rt_call W hm0.1 hm0.2.1 hm0.2.2)
  have HD2 := Lib.hid (fun W => rt_call W h2 hs.2.1 hh)
  have HB := Lib.hid (fun x y W => between_any x y W)
  have hsf := @run_store_f Try.prog .f64
  have hmax : ∀ ts t w, (Builtin.max_ ts t #[.float .f64 l, .float .f64 0]).run Try.prog w = .ok (.float .f64 (fmax l 0)) w := fun ts t w => by
    have := wmax_is (x := l) (y := 0) w (Nat.le_of_lt hs.1) (by decide)
    rw [run_max2, this.1, this.2]; rfl
  rw [spE_ok hs] at HC
  have o1 : (FloatKind.f64.format.order h 0 == some .lt) = false := by
    rw [ord_lt]
    refine decide_eq_false (fun k => ?_)
    have := k.2.2
    rw [key_zero] at this
    omega
  generalize fmax l 0 = m at *
  have HL := Lib.hid (fun g W d1 u1 d2 u2 (hf : Flt d1 ∧ Flt u1 ∧ Flt d2 ∧ Flt u2) (hg : g < W.heap.size) (hl : Lies W g 0 [(d2, u2)]) => least_any d1 u1 g 0 1 1 [(d2, u2)] W rfl (by decide) hf.1 hf.2.1 (fun s k => by simp at k; subst k; exact hf.2.2) hg hl)
  clear h1 h2 hs hh hm0
  go_enter Try.func9, Try.ntmps9
  go_wp2_with fail
  refine (HC.out _).mono ?_
  rintro e w1 ⟨rfl, rfl⟩
  have R : Sqk w (((w.alloc (Obj.cells #[Value.float FloatKind.f64 l, Value.float FloatKind.f64 h] 24)).alloc
          (Obj.cells #[Value.float FloatKind.f64 0, Value.float FloatKind.f64 0] 24)).alloc
      (Obj.cells #[Value.float FloatKind.f64 l, Value.float FloatKind.f64 h] 24)) l h :=
    ⟨by (repeat (first | exact below_self _ _ | assumption | refine below_dn ?_ _ | refine Below.drew ?_ | refine Below.setCell ?_ (by (try simp) <;> (try omega)) _ | refine Below.alloc ?_ (by (try simp) <;> (try omega)) _)), by simp, by go_cell, by go_cell, by go_cell, by go_cell, by go_cell, by go_cell⟩
  go_wp2
  generalize (((w.alloc (Obj.cells #[Value.float FloatKind.f64 l, Value.float FloatKind.f64 h] 24)).alloc
          (Obj.cells #[Value.float FloatKind.f64 0, Value.float FloatKind.f64 0] 24)).alloc
      (Obj.cells #[Value.float FloatKind.f64 l, Value.float FloatKind.f64 h] 24)) = w1 at *
  clear HC
  refine wp_region_noPanic ?_
  replace R := R.on (Below.drew (Below.refl _ _))
  refine wp_region_held_drew (S := (fun wx => wx.cell? ⟨w.heap.size, 0, none⟩ = some (.float .f64 l) ∧ wx.cell? ⟨w.heap.size, 1, none⟩ = some (.float .f64 h))) (by kernel_rfl) ⟨R.a0, R.a1⟩ (fun hHeld => ?_)
  generalize w1.drew = Vd at *
  refine wpAnyH_take (i := 0) (v := ?_) (by (simp only [List.getElem?_toArray, List.getElem?_cons_zero]; rfl)) (by kernel_rfl) (by kernel_rfl) (by kernel_rfl) (fun _ _ _ h => h) (Or.inl ⟨by rfl, ?_⟩) (by assumption) ?_
  rotate_left
  · intro wt hSw
    (try dsimp only at hSw)
    go_simp
    (try with_reducible rfl)
  (try simp only [Act.put, List.setIfInBounds_toArray, List.set_cons_zero, List.set_cons_succ])
  refine wpAnyH_take (i := 1) (v := ?_) (by (simp only [List.getElem?_toArray, List.getElem?_cons_succ, List.getElem?_cons_zero]; rfl)) (by kernel_rfl) (by kernel_rfl) (by kernel_rfl) (fun _ _ _ h => h) (Or.inl ⟨by rfl, ?_⟩) (by assumption) ?_
  rotate_left
  · intro wt hSw
    (try dsimp only at hSw)
    go_simp
    (try with_reducible rfl)
  (try simp only [Act.put, List.setIfInBounds_toArray, List.set_cons_zero, List.set_cons_succ])
  refine wpAnyH_take (i := 7) (v := ?_) (by (simp only [List.getElem?_toArray, List.getElem?_cons_succ, List.getElem?_cons_zero]; rfl)) (by kernel_rfl) (by kernel_rfl) (by kernel_rfl) (fun _ _ _ h => h) (Or.inl ⟨by rfl, ?_⟩) (by assumption) ?_
  rotate_left
  · intro wt hSw
    (try dsimp only at hSw)
    go_simp
    (try with_reducible rfl)
  (try simp only [Act.put, List.setIfInBounds_toArray, List.set_cons_zero, List.set_cons_succ])
  refine wpAnyH_take (i := 8) (v := ?_) (by (simp only [List.getElem?_toArray, List.getElem?_cons_succ, List.getElem?_cons_zero]; rfl)) (by kernel_rfl) (by kernel_rfl) (by kernel_rfl) (fun _ _ _ h => h) (Or.inl ⟨by rfl, ?_⟩) (by assumption) ?_
  rotate_left
  · intro wt hSw
    (try dsimp only at hSw)
    go_simp
    (try with_reducible rfl)
  (try simp only [Act.put, List.setIfInBounds_toArray, List.set_cons_zero, List.set_cons_succ])
  refine wpAnyH_ready (rs := [2]) (by kernel_rfl) (by simp) (AllReadyH.cons (by (simp only [List.getElem?_toArray, List.getElem?_cons_succ, List.getElem?_cons_zero]; rfl)) (fun K hK => ?_) AllReadyH.nil)
  go_simp
  (try simp only [hmax])
  (try go_wp2_with fail)
  refine hK.out _ _ ⟨R.a0, R.a1⟩ (fun hHeld => ?_)
  clear hK
  (try simp only [Act.put, List.setIfInBounds_toArray, List.set_cons_zero, List.set_cons_succ])
  refine wpAnyH_ready (rs := [3]) (by kernel_rfl) (by simp) (AllReadyH.cons (by (simp only [List.getElem?_toArray, List.getElem?_cons_succ, List.getElem?_cons_zero]; rfl)) (fun K hK => ?_) AllReadyH.nil)
  go_simp
  (go_at_call 23; with_reducible refine (HD1.out _).mono ?_)
  rintro e3 w3 ⟨d1, u1, rfl, hb, fd1, fu1, hr1⟩
  (try go_wp2_with fail)
  replace R := R.on hb
  clear hb
  refine hK.out _ _ ⟨R.a0, R.a1⟩ (fun hHeld => ?_)
  clear hK
  (try simp only [Act.put, List.setIfInBounds_toArray, List.set_cons_zero, List.set_cons_succ])
  refine wpAnyH_take (i := 4) (v := ?_) (by (simp only [List.getElem?_toArray, List.getElem?_cons_succ, List.getElem?_cons_zero]; rfl)) (by kernel_rfl) (by kernel_rfl) (by kernel_rfl) (fun _ _ _ h => h) (Or.inl ⟨by rfl, ?_⟩) (by assumption) ?_
  rotate_left
  · intro wt hSw
    (try dsimp only at hSw)
    go_simp
    (try with_reducible rfl)
  (try simp only [Act.put, List.setIfInBounds_toArray, List.set_cons_zero, List.set_cons_succ])
  refine wpAnyH_take (i := 5) (v := ?_) (by (simp only [List.getElem?_toArray, List.getElem?_cons_succ, List.getElem?_cons_zero]; rfl)) (by kernel_rfl) (by kernel_rfl) (by kernel_rfl) (fun _ _ _ h => h) (Or.inl ⟨by rfl, ?_⟩) (by assumption) ?_
  rotate_left
  · intro wt hSw
    (try dsimp only at hSw)
    go_simp
    (try with_reducible rfl)
  (try simp only [Act.put, List.setIfInBounds_toArray, List.set_cons_zero, List.set_cons_succ])
  refine wpAnyH_ready (rs := [6]) (by kernel_rfl) (by simp) (AllReadyH.cons (by (simp only [List.getElem?_toArray, List.getElem?_cons_succ, List.getElem?_cons_zero]; rfl)) (fun K hK => ?_) AllReadyH.nil)
  go_simp
  (go_at_call 20; with_reducible refine (HB.out _ _ _).mono ?_)
  rintro e6 w6 ⟨rfl, hb⟩
  (try go_wp2_with fail)
  replace R := R.on hb
  clear hb
  refine hK.out _ _ ⟨R.a0, R.a1⟩ (fun hHeld => ?_)
  clear hK
  (try simp only [Act.put, List.setIfInBounds_toArray, List.set_cons_zero, List.set_cons_succ])
  refine wpAnyH_ready (rs := [9]) (by kernel_rfl) (by simp) (AllReadyH.cons (by (simp only [List.getElem?_toArray, List.getElem?_cons_succ, List.getElem?_cons_zero]; rfl)) (fun K hK => ?_) AllReadyH.nil)
  go_simp
  (go_at_call 23; with_reducible refine (HD2.out _).mono ?_)
  rintro e9 w9 ⟨d2, u2, rfl, hb, fd2, fu2, hr2⟩
  (try go_wp2_with fail)
  replace R := R.on hb
  clear hb
  refine hK.out _ _ ⟨R.a0, R.a1⟩ (fun hHeld => ?_)
  clear hK
  (try simp only [Act.put, List.setIfInBounds_toArray, List.set_cons_zero, List.set_cons_succ])
  refine wpAnyH_take (i := 10) (v := ?_) (by (simp only [List.getElem?_toArray, List.getElem?_cons_succ, List.getElem?_cons_zero]; rfl)) (by kernel_rfl) (by kernel_rfl) (by kernel_rfl) (fun _ _ _ h => h) (Or.inl ⟨by rfl, ?_⟩) (by assumption) ?_
  rotate_left
  · intro wt hSw
    (try dsimp only at hSw)
    go_simp
    (try with_reducible rfl)
  (try simp only [Act.put, List.setIfInBounds_toArray, List.set_cons_zero, List.set_cons_succ])
  refine wpAnyH_take (i := 11) (v := ?_) (by (simp only [List.getElem?_toArray, List.getElem?_cons_succ, List.getElem?_cons_zero]; rfl)) (by kernel_rfl) (by kernel_rfl) (by kernel_rfl) (fun _ _ _ h => h) (Or.inl ⟨by rfl, ?_⟩) (by assumption) ?_
  rotate_left
  · intro wt hSw
    (try dsimp only at hSw)
    go_simp
    (try with_reducible rfl)
  (try simp only [Act.put, List.setIfInBounds_toArray, List.set_cons_zero, List.set_cons_succ])
  refine wpAnyH_ready (rs := [12]) (by kernel_rfl) (by simp) (AllReadyH.cons (by (simp only [List.getElem?_toArray, List.getElem?_cons_succ, List.getElem?_cons_zero]; rfl)) (fun K hK => ?_) AllReadyH.nil)
  go_simp
  (go_at_call 20; with_reducible refine (HB.out _ _ _).mono ?_)
  rintro e12 w12 ⟨rfl, hb⟩
  (try go_wp2_with fail)
  replace R := R.on hb
  clear hb
  refine hK.out _ _ ⟨R.a0, R.a1⟩ (fun hHeld => ?_)
  clear hK
  (try simp only [Act.put, List.setIfInBounds_toArray, List.set_cons_zero, List.set_cons_succ])
  refine wpAnyH_ready (rs := [13]) (by kernel_rfl) (by simp) (AllReadyH.cons (by (simp only [List.getElem?_toArray, List.getElem?_cons_succ, List.getElem?_cons_zero]; rfl)) (fun K hK => ?_) AllReadyH.nil)
  go_simp
  have Z : Zr (w12.alloc (.cells #[.float .f64 d2, .float .f64 u2] 24)) w12.heap.size [d2, u2] := Zr.newOf w12 d2 u2 24
  replace R := R.on (Below.alloc (o := (.cells #[.float .f64 d2, .float .f64 u2] 24)) (Below.refl _ w12) (Nat.le_refl _))
  generalize w12.heap.size = g at *
  generalize (w12.alloc (.cells #[.float .f64 d2, .float .f64 u2] 24)) = wa at *
  refine hK.out _ _ ⟨R.a0, R.a1⟩ (fun hHeld => ?_)
  clear hK
  (try simp only [Act.put, List.setIfInBounds_toArray, List.set_cons_zero, List.set_cons_succ])
  refine wpAnyH_ready (rs := [14]) (by kernel_rfl) (by simp) (AllReadyH.cons (by (simp only [List.getElem?_toArray, List.getElem?_cons_succ, List.getElem?_cons_zero]; rfl)) (fun K hK => ?_) AllReadyH.nil)
  go_simp
  (go_at_call 14; with_reducible refine (HL.out g _ d1 u1 d2 u2 ⟨fd1, fu1, fd2, fu2⟩ Z.lt (lies_one (Z.at_ 0 d2 rfl) (Z.at_ 1 u2 rfl))).mono ?_)
  rintro e14 w14 ⟨rfl, hb⟩
  (try go_wp2_with fail)
  replace R := R.on hb
  clear hb Z
  refine hK.out _ _ ⟨R.a0, R.a1⟩ (fun hHeld => ?_)
  clear hK
  (try simp only [Act.put, List.setIfInBounds_toArray, List.set_cons_zero, List.set_cons_succ])
  refine wpAnyH_take (i := 15) (v := ?_) (by (simp only [List.getElem?_toArray, List.getElem?_cons_succ, List.getElem?_cons_zero]; rfl)) (by kernel_rfl) (by kernel_rfl) (by kernel_rfl) (fun _ _ _ h => h) (Or.inl ⟨by rfl, ?_⟩) (by assumption) ?_
  rotate_left
  · intro wt hSw
    (try dsimp only at hSw)
    go_simp
    (try with_reducible rfl)
  (try simp only [Act.put, List.setIfInBounds_toArray, List.set_cons_zero, List.set_cons_succ])
  refine wpAnyH_take (i := 16) (v := ?_) (by (simp only [List.getElem?_toArray, List.getElem?_cons_succ, List.getElem?_cons_zero]; rfl)) (by kernel_rfl) (by kernel_rfl) (by kernel_rfl) (fun _ _ _ h => h) (Or.inl ⟨by rfl, ?_⟩) (by assumption) ?_
  rotate_left
  · intro wt hSw
    (try dsimp only at hSw)
    go_simp
    (try with_reducible rfl)
  (try simp only [Act.put, List.setIfInBounds_toArray, List.set_cons_zero, List.set_cons_succ])
  have r0 := R.r0
  have r1 := R.r1
  have r2 := R.f0
  have r3 := R.f1
  have r4 := R.lt
  have HB := R.below
  have x0 := R.a0
  have x1 := R.a1
  refine wpAnyH_ready (rs := [17]) (by kernel_rfl) (by simp) (AllReadyH.cons (by (simp only [List.getElem?_toArray, List.getElem?_cons_succ, List.getElem?_cons_zero]; rfl)) (fun K hK => ?_) AllReadyH.nil)
  go_simp
  refine hK.out _ _ ⟨by rw [far2 (by omega)]; exact x0, by rw [far2 (by omega)]; exact x1⟩ (fun hHeld => ?_)
  clear hK x0 x1
  (try simp only [Act.put, List.setIfInBounds_toArray, List.set_cons_zero, List.set_cons_succ])
  refine wpAnyH_take (i := 18) (v := ?_) (by (simp only [List.getElem?_toArray, List.getElem?_cons_succ, List.getElem?_cons_zero]; rfl)) (by kernel_rfl) (by kernel_rfl) (by kernel_rfl) (fun _ _ _ h => h) (Or.inl ⟨by rfl, ?_⟩) (by assumption) ?_
  rotate_left
  · intro wt hSw
    (try dsimp only at hSw)
    go_simp
    (try with_reducible rfl)
  (try simp only [Act.put, List.setIfInBounds_toArray, List.set_cons_zero, List.set_cons_succ])
  refine wpAnyH_done (by kernel_rfl) (NoPanic.normal ?_) _
  go_wp2
  exact bodyPost_ret (v := .tuple #[spv (leaLo d1 u1 [(d2, u2)]) (leaHi d1 u1 [(d2, u2)]), .int .i64 (leaE d1 u1 [(d2, u2)])]) (by simp [results, Try.results9, go_sem, r0, r1]) rfl ⟨d1, u1, d2, u2, hr1, hr2, ⟨fd1, fu1, fd2, fu2⟩, rfl, by (repeat (first | exact below_self _ _ | assumption | refine below_dn ?_ _ | refine Below.drew ?_ | refine Below.setCell ?_ (by (try simp) <;> (try omega)) _ | refine Below.alloc ?_ (by (try simp) <;> (try omega)) _))⟩
end Go.Proofs.Ytghcoijinihlnaa.Fl
