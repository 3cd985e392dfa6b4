/-
  What the document's own Check, Cmp and their like return. No conditions but that the lists are lists of limbs.
-/
import Derived.Test.YtdfbakdfakijbaaRef
import Derived.Test.YtdfbakdfakijbaaLeft
import Derived.Test.YtdfbakdfakijbaaWhole
namespace Go.Proofs.Ytdfbakdfakijbaa
open Go.RowKit Nb

set_option maxHeartbeats 400000 in
set_option maxRecDepth 100000 in
theorem rcheck_ok (neg : Bool) (A : Option Addr) (ls : List Nat) (c : Nat) (w : World) (hr : Sl .u32 w w.heap.size A ls) (ho : Ok neg ls) :
    Calls Try.prog 18 #[big neg A ls.length c] w fun e w' => e = .returned (.int .i64 0) ∧ Below w.heap.size w w' := by
  have hlen := ho.len
  rcases hn : ls.length with _ | j
  · have hneg : neg = false := ho.sign (List.eq_nil_of_length_eq_zero hn)
    subst hneg
    clear ho hr hlen hn
    go_enter Try.func18, Try.ntmps18
    go_wp2
    go_ret
    exact ⟨rfl, by go_grown⟩
  · obtain ⟨ad, rfl, hb, hcell⟩ := hr.at_ (i := j) (by omega)
    have hz := (norm_iff (xs := ls) (by omega)).1 ho.norm
    simp only [hn, Nat.add_sub_cancel] at hz
    have hbz : (((ls[j] : Nat) : Int) == 0) = false := by simp; omega
    have hj : j + 1 ≤ 2048 := by omega
    generalize ls[j] = x at *
    clear ho hr hlen hn hz
    go_enter Try.func18, Try.ntmps18
    go_wp2
    go_ret
    exact ⟨rfl, by go_grown⟩

set_option maxHeartbeats 400000 in
set_option maxRecDepth 100000 in
theorem rcheck_bad (neg : Bool) (A : Option Addr) (ls : List Nat) (c : Nat) (w : World) (hr : Sl .u32 w w.heap.size A ls) (hl : ls.length * 4 ≤ 140737488351232) (ho : ¬ Ok neg ls) :
    Calls Try.prog 18 #[big neg A ls.length c] w fun e w' => e = .returned (.int .i64 1) ∧ Below w.heap.size w w' := by
  by_cases hlen : ls.length ≤ 2048
  · rcases hn : ls.length with _ | j
    · have hneg : neg = true := by
        cases neg
        · exact absurd ⟨hlen, by rw [List.eq_nil_of_length_eq_zero hn]; exact Norm.nil, fun _ => rfl⟩ ho
        · rfl
      subst hneg
      clear ho hr hlen hn hl
      go_enter Try.func18, Try.ntmps18
      go_wp2
      go_ret
      exact ⟨rfl, by go_grown⟩
    · obtain ⟨ad, rfl, hb, hcell⟩ := hr.at_ (i := j) (by omega)
      have hz : ls[j] = 0 := by
        rcases Nat.eq_zero_or_pos ls[j] with h | h
        · exact h
        · refine absurd ⟨hlen, (norm_iff (xs := ls) (by omega)).2 ?_, fun e => by subst e; simp at hn⟩ ho
          simp only [hn, Nat.add_sub_cancel]; omega
      rw [hz] at hcell
      have hj : j + 1 ≤ 2048 := by omega
      clear ho hr hlen hn hz hl
      go_enter Try.func18, Try.ntmps18
      go_wp2
      go_ret
      exact ⟨rfl, by go_grown⟩
  · generalize ls.length = n at *
    clear ho hr
    go_enter Try.func18, Try.ntmps18
    go_wp2
    go_ret
    exact ⟨rfl, by go_grown⟩


set_option maxHeartbeats 400000 in
theorem rcmp_any (A B : Option Addr) (xs ys : List Nat) (c d : Nat) (w : World) (hr : Sl .u32 w w.heap.size A xs) (hs : Sl .u32 w w.heap.size B ys) (hx : Dig W32 xs) (hy : Dig W32 ys) (nx : Norm xs) (ny : Norm ys)
    (hl : xs.length * 4 ≤ 140737488351232) (hk : ys.length * 4 ≤ 140737488351232) :
    Calls Try.prog 40 #[.slice A xs.length c, .slice B ys.length d] w fun e w' => e = .returned (.int .i64 (cmpI (val W32 xs : Nat) (val W32 ys : Nat))) ∧ Qu w w' := by
  rcases Nat.lt_trichotomy xs.length ys.length with h | h | h
  · have e : cmpI (val W32 xs : Nat) (val W32 ys : Nat) = -1 := cmpI_lt (by have := cmp_len (B := W32) (by decide) hx ny h; omega)
    have E := Lib.hid e; clear e
    generalize xs.length = m at *
    generalize ys.length = n at *
    have hne : ((m : Int) != n) = true := by simp; omega
    have hlt : (m : Int) < n := by omega
    clear hr hs nx ny hx hy
    go_enter Try.func40, Try.ntmps40
    go_wp2
    go_ret
    exact ⟨by rw [E.out]; rfl, Qu.refl _⟩
  · have HE := Lib.hid h
    rw [← h]
    clear h hk
    go_enter Try.func40, Try.ntmps40
    go_wp2
    go_loopw [5] (fun i wr => ∃ (k : Nat) (q : Int), k ≤ xs.length ∧ i = .int .i64 q ∧ q + 1 = k ∧ xs.drop k = ys.drop k ∧ Qu w wr) (fun i _ => (intOf i + 1).toNat)
    case atStart => exact ⟨xs.length, xs.length - 1, Nat.le_refl _, rfl, by omega, by rw [List.drop_length, HE.out, List.drop_length], Qu.refl _⟩
    case round =>
      obtain ⟨k, q, hk, rfl, hq, hd, hqu⟩ := hrel
      have HD := Lib.hid hd; clear hd
      rcases k with _ | j
      · obtain rfl : q = -1 := by omega
        clear hq
        go_wp2
        go_ret
        exact ⟨by rw [cmpI_eq (by have := HD.out; simp at this; rw [this])]; rfl, hqu⟩
      · obtain rfl : q = j := by omega
        clear hq
        have hj : j < ys.length := by have := HE.out; omega
        obtain ⟨ad, rfl, hb, hcell⟩ := hr.at_ (i := j) (by omega)
        rw [← hqu.cell] at hcell
        obtain ⟨bd, rfl, hb', hcell'⟩ := hs.at_ (i := j) hj
        rw [← hqu.cell] at hcell'
        have hjx : j < xs.length := by omega
        have hji : (j : Int) < (xs.length : Int) := by omega
        rcases Nat.lt_trichotomy xs[j] ys[j] with hlt | heq | hgt
        · have e : cmpI (val W32 xs : Nat) (val W32 ys : Nat) = -1 := by
            have := val_top HE.out (k := j + 1) (by omega) HD.out (cmp_dig hx hy hjx hj hlt)
            exact cmpI_lt (by omega)
          have E := Lib.hid e; clear e
          generalize xs[j] = x at *
          generalize ys[j] = y at *
          have hlt' : (x : Int) < y := by omega
          clear hlt
          go_wp2
          go_quiet (fail)
          go_wp2
          go_ret
          exact ⟨by rw [E.out]; rfl, hqu.drew _⟩
        · have hdj : xs.drop j = ys.drop j := by
            rw [List.drop_eq_getElem_cons hjx, List.drop_eq_getElem_cons hj, HD.out, heq]
          rw [heq] at hcell
          have HDJ := Lib.hid hdj; clear hdj heq
          generalize ys[j] = y at *
          go_wp2
          go_quiet (fail)
          go_wp2
          go_quiet (fail)
          go_wp2
          go_roundw
          case rel => exact ⟨j, _, by omega, rfl, by omega, HDJ.out, hqu.drew _⟩
          case measure => simp [intOf]
        · have e : cmpI (val W32 xs : Nat) (val W32 ys : Nat) = 1 := by
            have := val_top HE.out.symm (k := j + 1) (by have := HE.out; omega) HD.out.symm (cmp_dig hy hx hj hjx hgt)
            exact cmpI_gt (by omega)
          have E := Lib.hid e; clear e
          generalize xs[j] = x at *
          generalize ys[j] = y at *
          have hlt' : (y : Int) < x := by omega
          have hge : ¬ (x : Int) < y := by omega
          clear hgt
          go_wp2
          go_quiet (fail)
          go_wp2
          go_quiet (fail)
          go_wp2
          go_ret
          exact ⟨by rw [E.out]; rfl, (hqu.drew _).drew _⟩
  · have e : cmpI (val W32 xs : Nat) (val W32 ys : Nat) = 1 := cmpI_gt (by have := cmp_len (B := W32) (by decide) hy nx h; omega)
    have E := Lib.hid e; clear e
    generalize xs.length = m at *
    generalize ys.length = n at *
    have hne : ((m : Int) != n) = true := by simp; omega
    have hlt : (n : Int) < m := by omega
    have hge : ¬ (m : Int) < n := by omega
    clear hr hs nx ny hx hy
    go_enter Try.func40, Try.ntmps40
    go_wp2
    go_ret
    exact ⟨by rw [E.out]; rfl, Qu.refl _⟩

theorem cmpI_neg (x y : Int) : cmpI (-x) (-y) = -cmpI x y := by
  unfold cmpI
  split <;> split <;> (try split) <;> (try split) <;> omega
theorem cmpI_swap (x y : Int) : cmpI (-x) (-y) = cmpI y x := by
  unfold cmpI
  split <;> split <;> (try split) <;> (try split) <;> omega
theorem ok_vpos {neg : Bool} {ls : List Nat} (h : Ok neg ls) : neg = true → 0 < val W32 ls := by
  intro e
  rcases Nat.eq_zero_or_pos (val W32 ls) with h0 | h0
  · have := (norm_zero (B := W32) (by decide) h.norm).1 h0
    have := h.sign this
    rw [e] at this; cases this
  · exact h0
/-- The sign tells where the value lies. -/
theorem rsgn_cases {neg : Bool} {ls : List Nat} (h : Ok neg ls) :
    (rsgn neg ls = -1 ∧ neg = true ∧ 0 < val W32 ls) ∨ (rsgn neg ls = 0 ∧ neg = false ∧ val W32 ls = 0) ∨ (rsgn neg ls = 1 ∧ neg = false ∧ 0 < val W32 ls) := by
  unfold rsgn
  by_cases h0 : ls.length = 0
  · have e : ls = [] := List.eq_nil_of_length_eq_zero h0
    rw [if_pos h0]
    exact .inr (.inl ⟨rfl, h.sign e, by rw [e]; rfl⟩)
  · rw [if_neg h0]
    have hp : 0 < val W32 ls := by
      rcases Nat.eq_zero_or_pos (val W32 ls) with h1 | h1
      · have := (norm_zero (B := W32) (by decide) h.norm).1 h1
        rw [this] at h0; simp at h0
      · exact h1
    cases neg
    · exact .inr (.inr ⟨rfl, rfl, hp⟩)
    · exact .inl ⟨rfl, rfl, hp⟩
/-- What signs and sizes make of one another. -/
theorem cmp_signs {n1 n2 : Bool} {xs ys : List Nat} (h1 : Ok n1 xs) (h2 : Ok n2 ys) :
    (rsgn n1 xs < rsgn n2 ys ∧ cmpI (sv n1 (val W32 xs)) (sv n2 (val W32 ys)) = -1) ∨ (rsgn n2 ys < rsgn n1 xs ∧ cmpI (sv n1 (val W32 xs)) (sv n2 (val W32 ys)) = 1) ∨
    (rsgn n1 xs = rsgn n2 ys ∧ rsgn n1 xs < 0 ∧ cmpI (sv n1 (val W32 xs)) (sv n2 (val W32 ys)) = -cmpI (val W32 xs : Nat) (val W32 ys : Nat)) ∨
    (rsgn n1 xs = rsgn n2 ys ∧ 0 ≤ rsgn n1 xs ∧ cmpI (sv n1 (val W32 xs)) (sv n2 (val W32 ys)) = cmpI (val W32 xs : Nat) (val W32 ys : Nat)) := by
  rcases rsgn_cases h1 with ⟨a, rfl, c⟩ | ⟨a, rfl, c⟩ | ⟨a, rfl, c⟩ <;> rcases rsgn_cases h2 with ⟨a', rfl, c'⟩ | ⟨a', rfl, c'⟩ | ⟨a', rfl, c'⟩ <;> rw [a, a'] <;> simp only [sv]
  · exact .inr (.inr (.inl ⟨by trivial, by omega, by simp only [if_true]; exact cmpI_neg _ _⟩))
  · exact .inl ⟨by omega, cmpI_lt (by simp; omega)⟩
  · exact .inl ⟨by omega, cmpI_lt (by simp; omega)⟩
  · exact .inr (.inl ⟨by omega, cmpI_gt (by simp; omega)⟩)
  · exact .inr (.inr (.inr ⟨by trivial, by omega, rfl⟩))
  · exact .inl ⟨by omega, cmpI_lt (by simp; omega)⟩
  · exact .inr (.inl ⟨by omega, cmpI_gt (by simp; omega)⟩)
  · exact .inr (.inl ⟨by omega, cmpI_gt (by simp; omega)⟩)
  · exact .inr (.inr (.inr ⟨by trivial, by omega, rfl⟩))

set_option maxHeartbeats 1000000 in
/-- The document's Cmp, of two numbers that may be. -/
theorem rCmp_any (n1 n2 : Bool) (A B : Option Addr) (xs ys : List Nat) (c d : Nat) (w : World) (hr : Sl .u32 w w.heap.size A xs) (hs : Sl .u32 w w.heap.size B ys) (hx : Dig W32 xs) (hy : Dig W32 ys) (o1 : Ok n1 xs) (o2 : Ok n2 ys) :
    Calls Try.prog 31 #[big n1 A xs.length c, big n2 B ys.length d] w fun e w' => e = .returned (.int .i64 (cmpI (sv n1 (val W32 xs)) (sv n2 (val W32 ys)))) ∧ Below w.heap.size w w' := by
  have ht := Two.boxed (n1 := n1) (n2 := n2) (l1 := xs.length) (c := c) (l2 := ys.length) (d := d) hr hs
  have hl1 := o1.len
  have hl2 := o2.len
  have nx := o1.norm
  have ny := o2.norm
  have hsig := cmp_signs o1 o2
  have ha : -1 ≤ rsgn n1 xs ∧ rsgn n1 xs ≤ 1 := by unfold rsgn; split <;> (try split) <;> omega
  have c1 := fun W => rsign_any n1 A xs c W (by omega)
  have c2 := fun W => rsign_any n2 B ys d W (by omega)
  have C1 := Lib.hid c1
  have C2 := Lib.hid c2
  clear c1 c2 hr hs o1 o2
  generalize rsgn n1 xs = a at *
  generalize rsgn n2 ys = b at *
  generalize cmpI (sv n1 (val W32 xs)) (sv n2 (val W32 ys)) = z at *
  obtain ⟨ha1, ha2⟩ := ha
  rcases hsig with ⟨hab, hz⟩ | ⟨hab, hz⟩ | ⟨hab, ha, hz⟩ | ⟨hab, ha, hz⟩
  · have hne : (a != b) = true := by simp; omega
    have HZ := Lib.hid hz; clear hz
    go_enter Try.func31, Try.ntmps31
    go_wp2_with fail
    refine (C1.out _).mono ?_
    rintro e w1 ⟨rfl, hb1⟩
    have t1 := ht.on hb1
    have p0 := t1.b0
    have p1 := t1.b1
    go_wp2_with fail
    refine (C2.out _).mono ?_
    rintro e w2 ⟨rfl, hb2⟩
    have t2 := t1.on hb2
    have q0 := t2.a0
    have q1 := t2.a1
    have r0 := t2.b0
    have r1 := t2.b1
    go_wp2
    go_ret
    exact ⟨by rw [HZ.out]; rfl, t2.below⟩
  · have hne : (a != b) = true := by simp; omega
    have hge : ¬ a < b := by omega
    have HZ := Lib.hid hz; clear hz
    go_enter Try.func31, Try.ntmps31
    go_wp2_with fail
    refine (C1.out _).mono ?_
    rintro e w1 ⟨rfl, hb1⟩
    have t1 := ht.on hb1
    have p0 := t1.b0
    have p1 := t1.b1
    go_wp2_with fail
    refine (C2.out _).mono ?_
    rintro e w2 ⟨rfl, hb2⟩
    have t2 := t1.on hb2
    have q0 := t2.a0
    have q1 := t2.a1
    have r0 := t2.b0
    have r1 := t2.b1
    go_wp2
    go_ret
    exact ⟨by rw [HZ.out]; rfl, t2.below⟩
  · subst hab
    have HZ := Lib.hid hz; clear hz
    go_enter Try.func31, Try.ntmps31
    go_wp2_with fail
    refine (C1.out _).mono ?_
    rintro e w1 ⟨rfl, hb1⟩
    have t1 := ht.on hb1
    have p0 := t1.b0
    have p1 := t1.b1
    go_wp2_with fail
    refine (C2.out _).mono ?_
    rintro e w2 ⟨rfl, hb2⟩
    have t2 := t1.on hb2
    have q0 := t2.a0
    have q1 := t2.a1
    have r0 := t2.b0
    have r1 := t2.b1
    have C3 := Lib.hid (rcmp_any A B xs ys c d w2 t2.sa t2.sb hx hy nx ny (by omega) (by omega))
    go_wp2_with fail
    refine (C3.out).mono ?_
    rintro e w3 ⟨rfl, hq3⟩
    have hcb : -1 ≤ cmpI (val W32 xs : Nat) (val W32 ys : Nat) ∧ cmpI (val W32 xs : Nat) (val W32 ys : Nat) ≤ 1 := by unfold cmpI; split <;> (try split) <;> omega
    obtain ⟨hc1, hc2⟩ := hcb
    go_wp2
    go_ret
    exact ⟨by rw [HZ.out]; rfl, t2.below.trans (hq3.below _)⟩
  · subst hab
    have HZ := Lib.hid hz; clear hz
    go_enter Try.func31, Try.ntmps31
    go_wp2_with fail
    refine (C1.out _).mono ?_
    rintro e w1 ⟨rfl, hb1⟩
    have t1 := ht.on hb1
    have p0 := t1.b0
    have p1 := t1.b1
    go_wp2_with fail
    refine (C2.out _).mono ?_
    rintro e w2 ⟨rfl, hb2⟩
    have t2 := t1.on hb2
    have q0 := t2.a0
    have q1 := t2.a1
    have r0 := t2.b0
    have r1 := t2.b1
    have C3 := Lib.hid (rcmp_any A B xs ys c d w2 t2.sa t2.sb hx hy nx ny (by omega) (by omega))
    go_wp2_with fail
    refine (C3.out).mono ?_
    rintro e w3 ⟨rfl, hq3⟩
    go_wp2
    go_ret
    exact ⟨by rw [HZ.out]; rfl, t2.below.trans (hq3.below _)⟩
end Go.Proofs.Ytdfbakdfakijbaa
