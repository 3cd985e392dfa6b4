/-
  Plain facts and contracts that hold in this seat: joined by program. Conditions: as each theorem states.
-/
import Derived.Test.YtjamfkafgfpobaaGreatOf
import Derived.Test.YtjamfkafgfpobaaGreatText3
import Derived.Deep.RegionWith
/-! ### Wh -/
namespace Go.Proofs.YtjamfkafgfpobaaGreat
open Go.RowKit Nb
/-- The limbs of a number of 64 bits. -/
def ofI (n : Int) : List Nat := unpack (ofL n)
section
variable {n : Int} (h0 : -9223372036854775808 ≤ n) (h1 : n ≤ 9223372036854775807)
include h0 h1
theorem ofI_val : val W32 (ofI n) = n.natAbs := by rw [ofI, val_unpack (ofL_dig h0 h1) (ofL_norm n), ofL_val]
theorem ofI_norm : Norm (ofI n) := norm_unpack (ofL_dig h0 h1) (ofL_norm n)
theorem ofI_len : (ofI n).length ≤ 2 := by
  rw [ofI, unpack_length]
  have h := lenL_le (ofL_dig h0 h1)
  have := ofL_len n
  unfold limbsL; omega
theorem ofI_ok : Ok (decide (n < 0)) (ofI n) := by
  refine ⟨by have := ofI_len h0 h1; omega, ofI_norm h0 h1, fun h => ?_⟩
  have := ofI_val h0 h1
  rw [h] at this
  simp [val] at this
  simp; omega
end
theorem ofI_dig (n : Int) : Dig W32 (ofI n) := dig_unpack _
set_option maxHeartbeats 400000 in
theorem of_any (n : Int) (w : World) (h0 : -9223372036854775808 ≤ n) (h1 : n ≤ 9223372036854775807) :
    Calls Tryz.prog 84 #[.int .i64 n] w fun e w' => ∃ A c, e = .returned (big (decide (n < 0)) A (ofI n).length c) ∧ Sl .u32 w' w'.heap.size A (ofI n) ∧ (ofI n).length ≤ c ∧ c ≤ 2 ∧ Below w.heap.size w w' := by
  have hln := ofI_len h0 h1
  go_enter Tryz.func84, Tryz.ntmps84
  go_wp2_with fail
  refine (large_of_any n _ h0 h1).mono ?_
  rintro e w1 ⟨g, rfl, hs1, hg1, hb1⟩
  have hll := ofL_len n
  go_wp2_with fail
  refine (int_any (decide (n < 0)) (some ⟨g, 0, none⟩) (ofL n) 1 _ hs1 (ofL_dig h0 h1) (ofL_norm n) (by omega)).mono ?_
  rintro e w2 ⟨g2, rfl, hr2, hg2, hb2⟩
  have hs := hb1.size
  simp at hs hg1
  have hb12 := hb1.trans (hb2.mono hb1.size)
  have e0 : w2.cell? ⟨w.heap.size, 0, none⟩ = some (.bool false) := by rw [hb12.cell (by go_size)]; go_cell
  have e1 : w2.cell? ⟨w.heap.size, 1, none⟩ = some (.slice none 0 0) := by rw [hb12.cell (by go_size)]; go_cell
  have f0 : w2.frozen? ⟨w.heap.size, 0, none⟩ = false := by rw [hb12.frozen (by go_size)]; simp
  have f1 : w2.frozen? ⟨w.heap.size, 1, none⟩ = false := by rw [hb12.frozen (by go_size)]; simp
  have hb3 : Below w.heap.size w w2 := by refine Below.trans ?_ (hb12.mono (by go_size)); go_grown
  go_wp2
  refine bodyPost_ret (v := big (decide (n < 0)) (some ⟨g2, 0, none⟩) (ofI n).length (ofI n).length) (by simp [results, Tryz.results84, go_sem, e0, e1, ofI]) rfl ?_
  exact ⟨some ⟨g2, 0, none⟩, (ofI n).length, rfl, ((hr2.far (by simp; omega) _).far (by simp; omega) _).sl (by have := hr2.lt; simp; omega), by omega, by omega, (hb3.setCell (by simp) _).setCell (by simp) _⟩
theorem ok_neg {neg : Bool} {ls : List Nat} (h : Ok neg ls) : (neg && decide (0 < (pack ls).length)) = neg := by
  cases neg
  · rfl
  · have : ls ≠ [] := fun e => by have := h.sign e; simp at this
    have h2 : 0 < ls.length := List.length_pos_iff.2 this
    have h3 := pack_length ls
    simp; omega
theorem ok_nil {neg : Bool} {ls : List Nat} (h : Ok neg ls) (e : pack ls = []) : neg = false := by
  apply h.sign
  have h3 := pack_length ls
  rw [e] at h3
  apply List.eq_nil_of_length_eq_zero
  simp at h3; omega
theorem sgn_pack (neg : Bool) (ls : List Nat) : sgn neg (pack ls) = sgn neg ls := by
  unfold sgn
  have h3 := pack_length ls
  by_cases h0 : ls.length = 0
  · have h4 : (pack ls).length = 0 := by omega
    rw [h0, h4]
  · have h4 : ¬ (pack ls).length = 0 := by omega
    simp only [h0, h4, if_false]
/-- The first half of each: Check says yes, then From. Afterwards the number lies in words at g. -/
theorem head_facts {w w1 : World} {neg : Bool} {A : Option Addr} {ls : List Nat} {c : Nat} (hr : Sl .u32 w w.heap.size A ls)
    (hb1 : Below (w.alloc (.cells #[.bool neg, .slice A ls.length c] 27)).heap.size (w.alloc (.cells #[.bool neg, .slice A ls.length c] 27)) w1) :
    w1.cell? ⟨w.heap.size, 0, none⟩ = some (.bool neg) ∧ w1.cell? ⟨w.heap.size, 1, none⟩ = some (.slice A ls.length c) ∧ Below w.heap.size w w1 ∧ Sl .u32 w1 w1.heap.size A ls ∧ w.heap.size < w1.heap.size := by
  have hbw : Below w.heap.size w w1 := by refine Below.trans ?_ (hb1.mono (by go_size)); go_grown
  refine ⟨by rw [hb1.cell (by go_size)]; go_cell, by rw [hb1.cell (by go_size)]; go_cell, hbw, (hr.below hbw).more hbw.size, ?_⟩
  have := hb1.size
  simp at this; omega
set_option maxHeartbeats 400000 in
theorem wsign_ok (neg : Bool) (A : Option Addr) (ls : List Nat) (c : Nat) (w : World) (hr : Sl .u32 w w.heap.size A ls) (hd : Dig W32 ls) (ho : Ok neg ls) :
    Calls Tryz.prog 81 #[big neg A ls.length c] w fun e w' => e = .returned (.int .i64 (sgn neg ls)) ∧ Below w.heap.size w w' := by
  have hlen := ho.len
  have hpl : (pack ls).length ≤ 1024 := by rw [pack_length]; omega
  go_enter Tryz.func81, Tryz.ntmps81
  go_wp2_with fail
  refine (check_ok neg A ls c _ (by exact ((hr.alloc (Nat.le_refl _) _).more (by go_size))) ho).mono ?_
  rintro e w1 ⟨rfl, hb1⟩
  obtain ⟨a0, a1, hbw, hs1, hz1⟩ := head_facts hr hb1
  go_wp2_with fail
  refine (from_any neg A ls c _ hs1 hd (by omega)).mono ?_
  rw [ok_neg ho]
  rintro e w2 ⟨g, rfl, hrow, hg, hb2⟩
  go_wp2_with fail
  refine (sign_any neg _ (pack ls) _ _ (by omega)).mono ?_
  rw [sgn_pack]
  rintro e w3 ⟨rfl, hb3⟩
  go_wp2
  go_ret
  exact ⟨rfl, hbw.trans ((hb2.mono (by omega)).trans (hb3.mono (by have := hb2.size; omega)))⟩
set_option maxHeartbeats 400000 in
theorem wsign_bad (neg : Bool) (A : Option Addr) (ls : List Nat) (c : Nat) (w : World) (hr : Sl .u32 w w.heap.size A ls) (hl : ls.length * 4 ≤ 140737488351232) (ho : ¬ Ok neg ls) :
    Calls Tryz.prog 81 #[big neg A ls.length c] w fun e w' => e = .returned (.int .i64 0) ∧ Below w.heap.size w w' := by
  go_enter Tryz.func81, Tryz.ntmps81
  go_wp2_with fail
  refine (check_bad neg A ls c _ (by exact ((hr.alloc (Nat.le_refl _) _).more (by go_size))) hl ho).mono ?_
  rintro e w1 ⟨rfl, hb1⟩
  obtain ⟨a0, a1, hbw, hs1, hz1⟩ := head_facts hr hb1
  go_wp2
  go_ret
  exact ⟨rfl, hbw⟩
/-- Two numbers in two cells of the call's own, and their limbs: what stays while more memory is made. -/
structure Two (w W : World) (p q : Nat) (n1 n2 : Bool) (A B : Option Addr) (xs ys : List Nat) (l1 c l2 d : Nat) : Prop where
  below : Below w.heap.size w W
  lp : p < W.heap.size
  lq : q < W.heap.size
  sa : Sl .u32 W W.heap.size A xs
  sb : Sl .u32 W W.heap.size B ys
  a0 : W.cell? ⟨p, 0, none⟩ = some (.bool n1)
  a1 : W.cell? ⟨p, 1, none⟩ = some (.slice A l1 c)
  b0 : W.cell? ⟨q, 0, none⟩ = some (.bool n2)
  b1 : W.cell? ⟨q, 1, none⟩ = some (.slice B l2 d)
section
variable {w W W' : World} {p q : Nat} {n1 n2 : Bool} {A B : Option Addr} {xs ys : List Nat} {l1 c l2 d : Nat} {X : Prop}
theorem Two.on (h : Two w W p q n1 n2 A B xs ys l1 c l2 d) (hb : Below W.heap.size W W') : Two w W' p q n1 n2 A B xs ys l1 c l2 d :=
  ⟨h.below.trans (hb.mono h.below.size), Nat.lt_of_lt_of_le h.lp hb.size, Nat.lt_of_lt_of_le h.lq hb.size, (h.sa.below hb).more hb.size, (h.sb.below hb).more hb.size,
   (hb.cell (p := ⟨p, 0, none⟩) h.lp).trans h.a0, (hb.cell (p := ⟨p, 1, none⟩) h.lp).trans h.a1, (hb.cell (p := ⟨q, 0, none⟩) h.lq).trans h.b0, (hb.cell (p := ⟨q, 1, none⟩) h.lq).trans h.b1⟩
theorem Two.all (h : Two w W p q n1 n2 A B xs ys l1 c l2 d) : Two w W p q n1 n2 A B xs ys l1 c l2 d ∧ W.cell? ⟨p, 0, none⟩ = some (.bool n1) ∧ W.cell? ⟨p, 1, none⟩ = some (.slice A l1 c) ∧ W.cell? ⟨q, 0, none⟩ = some (.bool n2) ∧ W.cell? ⟨q, 1, none⟩ = some (.slice B l2 d) :=
  ⟨h, h.a0, h.a1, h.b0, h.b1⟩
theorem Two.keep (h : Two w W p q n1 n2 A B xs ys l1 c l2 d ∧ X) (hb : Below W.heap.size W W') : Two w W' p q n1 n2 A B xs ys l1 c l2 d ∧ W'.cell? ⟨p, 0, none⟩ = some (.bool n1) ∧ W'.cell? ⟨p, 1, none⟩ = some (.slice A l1 c) ∧ W'.cell? ⟨q, 0, none⟩ = some (.bool n2) ∧ W'.cell? ⟨q, 1, none⟩ = some (.slice B l2 d) :=
  (h.1.on hb).all
theorem Two.sa' (h : Two w W p q n1 n2 A B xs ys l1 c l2 d ∧ X) : Sl .u32 W W.heap.size A xs := h.1.sa
theorem Two.sb' (h : Two w W p q n1 n2 A B xs ys l1 c l2 d ∧ X) : Sl .u32 W W.heap.size B ys := h.1.sb
theorem Two.below' (h : Two w W p q n1 n2 A B xs ys l1 c l2 d ∧ X) : Below w.heap.size w W := h.1.below
/-- Both boxed. -/
theorem Two.boxed (hr : Sl .u32 w w.heap.size A xs) (hs : Sl .u32 w w.heap.size B ys) :
    Two w ((w.alloc (.cells #[.bool n1, .slice A l1 c] 27)).alloc (.cells #[.bool n2, .slice B l2 d] 27)) w.heap.size (w.heap.size + 1) n1 n2 A B xs ys l1 c l2 d := by
  refine ⟨by go_grown, by go_size, by go_size, ?_, ?_, by go_cell, by go_cell, by go_cell, by go_cell⟩
  · exact (((hr.alloc (Nat.le_refl _) _).alloc (by go_size) _).more (by go_size))
  · exact (((hs.alloc (Nat.le_refl _) _).alloc (by go_size) _).more (by go_size))
end
theorem ok_vpos {neg : Bool} {ls : List Nat} (h : Ok neg ls) : neg = true → 0 < val W32 ls := by
  intro e
  rcases Nat.eq_zero_or_pos (val W32 ls) with h0 | h0
  · have := (norm_zero (B := W32) (by decide) h.norm).1 h0
    have := h.sign this
    rw [e] at this; cases this
  · exact h0
theorem cmpI_swap (x y : Int) : cmpI (-x) (-y) = cmpI y x := by
  unfold cmpI
  split <;> split <;> (try split) <;> (try split) <;> omega
/-- Two boxed numbers in words. -/
theorem lboxed {w : World} {n1 n2 : Bool} {A B : Option Addr} {xs ys : List Nat} {c d : Nat} (hr : Sl .u64 w w.heap.size A xs) (hs : Sl .u64 w w.heap.size B ys) (W : World)
    (hW : W = (w.alloc (.cells #[.bool n1, .slice A xs.length c] 72)).alloc (.cells #[.bool n2, .slice B ys.length d] 72)) :
    Below w.heap.size w W ∧ Sl .u64 W W.heap.size A xs ∧ Sl .u64 W W.heap.size B ys := by
  subst hW
  exact ⟨by go_grown, (((hr.alloc (Nat.le_refl _) _).alloc (by go_size) _).more (by go_size)), (((hs.alloc (Nat.le_refl _) _).alloc (by go_size) _).more (by go_size))⟩
set_option maxHeartbeats 1000000 in
theorem lcmp_any (n1 n2 : Bool) (A B : Option Addr) (xs ys : List Nat) (c d : Nat) (w : World) (hr : Sl .u64 w w.heap.size A xs) (hs : Sl .u64 w w.heap.size B ys) (hx : Dig W64 xs) (hy : Dig W64 ys) (nx : Norm xs) (ny : Norm ys)
    (hl : xs.length * 8 ≤ 140737488351232) (hk : ys.length * 8 ≤ 140737488351232) (p1 : n1 = true → 0 < val W64 xs) (p2 : n2 = true → 0 < val W64 ys) :
    Calls Tryz.prog 89 #[big n1 A xs.length c, big n2 B ys.length d] w fun e w' => e = .returned (.int .i64 (cmpI (sv n1 (val W64 xs)) (sv n2 (val W64 ys)))) ∧ Below w.heap.size w w' := by
  obtain ⟨hb, sx, sy⟩ := lboxed (n1 := n1) (n2 := n2) (c := c) (d := d) hr hs _ rfl
  rcases n1 with _ | _ <;> rcases n2 with _ | _
  · have C := Lib.hid (compare_any A B xs ys c d _ sx sy hx hy nx ny hl hk)
    clear hr hs sx sy p1 p2
    go_enter Tryz.func89, Tryz.ntmps89
    go_wp2_with fail
    refine (C.out).mono ?_
    rintro e w1 ⟨rfl, hq⟩
    go_wp2
    go_ret
    exact ⟨rfl, hb.trans (hq.below _)⟩
  · have e : cmpI (sv false (val W64 xs)) (sv true (val W64 ys)) = 1 := cmpI_gt (by have := p2 rfl; simp [sv]; omega)
    have E := Lib.hid e
    clear hr hs sx sy p1 p2 e
    go_enter Tryz.func89, Tryz.ntmps89
    go_wp2
    go_ret
    exact ⟨by rw [E.out]; rfl, hb⟩
  · have e : cmpI (sv true (val W64 xs)) (sv false (val W64 ys)) = -1 := cmpI_lt (by have := p1 rfl; simp [sv]; omega)
    have E := Lib.hid e
    clear hr hs sx sy p1 p2 e
    go_enter Tryz.func89, Tryz.ntmps89
    go_wp2
    go_ret
    exact ⟨by rw [E.out]; rfl, hb⟩
  · have e : cmpI (sv true (val W64 xs)) (sv true (val W64 ys)) = cmpI (val W64 ys : Nat) (val W64 xs : Nat) := cmpI_swap _ _
    have E := Lib.hid e
    have C := Lib.hid (compare_any B A ys xs d c _ sy sx hy hx ny nx hk hl)
    clear hr hs sx sy p1 p2 e
    go_enter Tryz.func89, Tryz.ntmps89
    go_wp2_with fail
    refine (C.out).mono ?_
    rintro e w1 ⟨rfl, hq⟩
    go_wp2
    go_ret
    exact ⟨by rw [E.out]; rfl, hb.trans (hq.below _)⟩
/-- What Check says, as a number. -/
noncomputable def chkV (neg : Bool) (ls : List Nat) : Int := open Classical in if Ok neg ls then 0 else 1
theorem chkV_ok {neg : Bool} {ls : List Nat} (h : Ok neg ls) : chkV neg ls = 0 := if_pos h
theorem chkV_bad {neg : Bool} {ls : List Nat} (h : ¬ Ok neg ls) : chkV neg ls = 1 := if_neg h
theorem check_u (neg : Bool) (A : Option Addr) (ls : List Nat) (c : Nat) (w : World) (hr : Sl .u32 w w.heap.size A ls) (hl : ls.length * 4 ≤ 140737488351232) :
    Calls Tryz.prog 111 #[big neg A ls.length c] w fun e w' => e = .returned (.int .i64 (chkV neg ls)) ∧ Below w.heap.size w w' := by
  by_cases h : Ok neg ls
  · rw [chkV_ok h]; exact check_ok neg A ls c w hr h
  · rw [chkV_bad h]; exact check_bad neg A ls c w hr hl h
set_option maxHeartbeats 1000000 in
/-- The gate, of two numbers in a list. -/
theorem check_two (g : Nat) (n1 n2 : Bool) (A B : Option Addr) (xs ys : List Nat) (l c d : Nat) (w : World) (hr : Sl .u32 w w.heap.size A xs) (hs : Sl .u32 w w.heap.size B ys) (hg : g < w.heap.size)
    (hl : xs.length * 4 ≤ 140737488351232) (hk : ys.length * 4 ≤ 140737488351232)
    (c0 : w.cell? ⟨g, 0, none⟩ = some (.bool n1)) (c1 : w.cell? ⟨g, 1, none⟩ = some (.slice A xs.length c)) (c2 : w.cell? ⟨g, 2, none⟩ = some (.bool n2)) (c3 : w.cell? ⟨g, 3, none⟩ = some (.slice B ys.length d)) :
    Calls Tryz.prog 114 #[.slice (some ⟨g, 0, none⟩) 2 l] w fun e w' => e = .returned (.int .i64 (if chkV n1 xs = 0 then chkV n2 ys else 1)) ∧ Below w.heap.size w w' := by
  have k1 : chkV n1 xs = 0 ∨ chkV n1 xs = 1 := by by_cases h : Ok n1 xs; exact .inl (chkV_ok h); exact .inr (chkV_bad h)
  have k2 : chkV n2 ys = 0 ∨ chkV n2 ys = 1 := by by_cases h : Ok n2 ys; exact .inl (chkV_ok h); exact .inr (chkV_bad h)
  have C1 := Lib.hid (fun W h => check_u n1 A xs c W h hl)
  have C2 := Lib.hid (fun W h => check_u n2 B ys d W h hk)
  generalize chkV n1 xs = a at *
  generalize chkV n2 ys = b at *
  go_enter Tryz.func114, Tryz.ntmps114
  go_wp2
  refine wp_loop_rounds 3 ?_
  rw [rounds_succ]
  go_wp2_with fail
  have s1 : Sl .u32 (w.alloc (.cells #[.bool n1, .slice A xs.length c] 27)) (w.alloc (.cells #[.bool n1, .slice A xs.length c] 27)).heap.size A xs := (hr.alloc (Nat.le_refl _) _).more (by simp)
  refine (C1.out _ s1).mono ?_
  rintro e w1 ⟨rfl, hb1⟩
  have hbw : Below w.heap.size w w1 := by refine Below.trans ?_ (hb1.mono (by go_size)); go_grown
  have hz1 : w.heap.size < w1.heap.size := by have := hb1.size; simp at this; omega
  have d2 := (hbw.cell (p := ⟨g, 2, none⟩) hg).trans c2
  have d3 := (hbw.cell (p := ⟨g, 3, none⟩) hg).trans c3
  rcases k1 with rfl | rfl
  · go_wp2
    rw [rounds_succ]
    go_wp2_with fail
    have s2 : Sl .u32 (w1.alloc (.cells #[.bool n2, .slice B ys.length d] 27)) (w1.alloc (.cells #[.bool n2, .slice B ys.length d] 27)).heap.size B ys := (((hs.below hbw).more hbw.size).alloc (Nat.le_refl _) _).more (by simp)
    refine (C2.out _ s2).mono ?_
    rintro e w2 ⟨rfl, hb2⟩
    have hbw2 : Below w1.heap.size w1 w2 := by refine Below.trans ?_ (hb2.mono (by go_size)); go_grown
    rcases k2 with rfl | rfl
    · go_wp2
      rw [rounds_succ]
      go_wp2
      go_ret
      exact ⟨rfl, hbw.trans (hbw2.mono hbw.size)⟩
    · go_wp2
      go_ret
      exact ⟨rfl, hbw.trans (hbw2.mono hbw.size)⟩
  · go_wp2
    go_ret
    exact ⟨rfl, hbw⟩
theorem sl_row {k : IntKind} {w : World} {g : Nat} {e : TypeId} {xs : List Nat} (h : Row k w g e xs) : Sl k w w.heap.size (some ⟨g, 0, none⟩) xs := h.sl h.lt
theorem sl_row_then {k : IntKind} {w w' : World} {g : Nat} {e : TypeId} {xs : List Nat} (h : Row k w g e xs) (hb : Below w.heap.size w w') : Sl k w' w'.heap.size (some ⟨g, 0, none⟩) xs :=
  (h.below hb h.lt).sl (Nat.lt_of_lt_of_le h.lt hb.size)
/-- What Cmp says. -/
noncomputable def cmpV (n1 : Bool) (xs : List Nat) (n2 : Bool) (ys : List Nat) : Int := open Classical in if Ok n1 xs ∧ Ok n2 ys then cmpI (sv n1 (val W32 xs)) (sv n2 (val W32 ys)) else 0
theorem from_ok (neg : Bool) (A : Option Addr) (ls : List Nat) (c : Nat) (w : World) (hr : Sl .u32 w w.heap.size A ls) (hd : Dig W32 ls) (ho : Ok neg ls) :
    Calls Tryz.prog 90 #[big neg A ls.length c] w fun e w' => ∃ g, e = .returned (big neg (some ⟨g, 0, none⟩) (pack ls).length (pack ls).length) ∧
      Row .u64 w' g 160 (pack ls) ∧ w.heap.size ≤ g ∧ Below w.heap.size w w' := by
  have h := from_any neg A ls c w hr hd (by have := ho.len; omega)
  rw [ok_neg ho] at h
  exact h
set_option maxHeartbeats 4000000 in
theorem wcmp_u (n1 n2 : Bool) (A B : Option Addr) (xs ys : List Nat) (c d : Nat) (w : World) (hr : Sl .u32 w w.heap.size A xs) (hs : Sl .u32 w w.heap.size B ys) (hx : Dig W32 xs) (hy : Dig W32 ys) (hl : xs.length * 4 ≤ 140737488351232) (hk : ys.length * 4 ≤ 140737488351232) :
    Calls Tryz.prog 83 #[big n1 A xs.length c, big n2 B ys.length d] w fun e w' => e = .returned (.int .i64 (cmpV n1 xs n2 ys)) ∧ Below w.heap.size w w' := by
  have ht := Two.boxed (n1 := n1) (n2 := n2) (l1 := xs.length) (c := c) (l2 := ys.length) (d := d) hr hs
  have hrow : ∀ (W : World) (g : Nat), g = W.heap.size → ∀ (i : Nat) (u : Value), (#[.bool n1, .slice A xs.length c, .bool n2, .slice B ys.length d] : Array Value)[i]? = some u → (W.alloc (.cells #[.bool n1, .slice A xs.length c, .bool n2, .slice B ys.length d] 27)).cell? ⟨g, i, none⟩ = some u := by
    intro W g hg i u hu
    subst hg
    rw [World.cell?_alloc_new]; exact hu
  have ha0 := ht.a0
  have ha1 := ht.a1
  have hb0 := ht.b0
  have hb1 := ht.b1
  go_enter Tryz.func83, Tryz.ntmps83
  go_wp2_with fail
  have hz : ((w.alloc (.cells #[.bool n1, .slice A xs.length c] 27)).alloc (.cells #[.bool n2, .slice B ys.length d] 27)).heap.size = w.heap.size + 1 + 1 := by simp
  generalize (w.alloc (.cells #[.bool n1, .slice A xs.length c] 27)).alloc (.cells #[.bool n2, .slice B ys.length d] 27) = W at *
  have tW := ht.on (W' := W.alloc (.cells #[.bool n1, .slice A xs.length c, .bool n2, .slice B ys.length d] 27)) ((Below.refl _ _).alloc (Nat.le_refl _) _)
  refine (check_two (w.heap.size + 1 + 1) n1 n2 A B xs ys 2 c d _ tW.sa tW.sb (by simp; omega) hl hk (hrow _ _ hz.symm 0 _ rfl) (hrow _ _ hz.symm 1 _ rfl) (hrow _ _ hz.symm 2 _ rfl) (hrow _ _ hz.symm 3 _ rfl)).mono ?_
  rintro e w1 ⟨rfl, hq1⟩
  have t1 := tW.on hq1
  clear tW ht ha0 ha1 hb0 hb1 hrow
  by_cases ho : Ok n1 xs ∧ Ok n2 ys
  · obtain ⟨o1, o2⟩ := ho
    have hv : cmpV n1 xs n2 ys = cmpI (sv n1 (val W64 (pack xs))) (sv n2 (val W64 (pack ys))) := by
      unfold cmpV; rw [if_pos ⟨o1, o2⟩, val_pack, val_pack]
    have hp1 : n1 = true → 0 < val W64 (pack xs) := by rw [val_pack]; exact ok_vpos o1
    have hp2 : n2 = true → 0 < val W64 (pack ys) := by rw [val_pack]; exact ok_vpos o2
    have hn1 := norm_pack o1.norm
    have hn2 := norm_pack o2.norm
    have hd1 := dig_pack hx
    have hd2 := dig_pack hy
    have hg1 : (pack xs).length * 8 ≤ 140737488351232 := by rw [pack_length]; have := o1.len; omega
    have hg2 : (pack ys).length * 8 ≤ 140737488351232 := by rw [pack_length]; have := o2.len; omega
    have L := Lib.hid (fun g1 g2 W h k => lcmp_any n1 n2 (some ⟨g1, 0, none⟩) (some ⟨g2, 0, none⟩) (pack xs) (pack ys) (pack xs).length (pack ys).length W h k hd1 hd2 hn1 hn2 hg1 hg2 hp1 hp2)
    rw [chkV_ok o1, chkV_ok o2]
    have HV := Lib.hid hv; clear hv
    have HT := Lib.hid t1.all
    have hall := HT.out
    go_wp2_with fail
    go_region_held3 (fun w' => Two w w' w.heap.size (w.heap.size + 1) n1 n2 A B xs ys xs.length c ys.length d ∧ w'.cell? ⟨w.heap.size, 0, none⟩ = some (.bool n1) ∧ w'.cell? ⟨w.heap.size, 1, none⟩ = some (.slice A xs.length c) ∧ w'.cell? ⟨w.heap.size + 1, 0, none⟩ = some (.bool n2) ∧ w'.cell? ⟨w.heap.size + 1, 1, none⟩ = some (.slice B ys.length d))
      (first | exact HT.out | exact Two.keep HT.out ((Below.refl _ _).drew) | exact Two.keep (by assumption) (by assumption) | exact Two.keep (by assumption) ((Below.refl _ _).drew))
      (first
        | (go_at_call 90; refine (from_ok _ _ _ _ _ (by first | exact Two.sa' (by assumption) | exact Two.sb' (by assumption)) (by first | exact hx | exact hy) (by first | exact o1 | exact o2)).mono ?_; rintro e w' ⟨g, rfl, hrow, hg, hb⟩)
        | (go_at_call 89; refine (L.out _ _ _ (by first | exact sl_row (by assumption) | exact sl_row_then (by assumption) (by assumption)) (by first | exact sl_row (by assumption) | exact sl_row_then (by assumption) (by assumption))).mono ?_; rintro e w' ⟨rfl, hb⟩))
    all_goals
      go_wp2
      go_ret
      exact ⟨by rw [HV.out]; rfl, Two.below' (by assumption)⟩
  · have hv : cmpV n1 xs n2 ys = 0 := by unfold cmpV; rw [if_neg ho]
    have hk2 : (if chkV n1 xs = 0 then chkV n2 ys else 1) = 1 := by
      by_cases h : Ok n1 xs
      · rw [if_pos (chkV_ok h), chkV_bad (fun h2 => ho ⟨h, h2⟩)]
      · rw [if_neg (by rw [chkV_bad h]; decide)]
    rw [hk2]
    have HV := Lib.hid hv; clear hv hk2
    go_wp2
    go_ret
    exact ⟨by rw [HV.out]; rfl, t1.below⟩
noncomputable def sgnV (neg : Bool) (ls : List Nat) : Int := open Classical in if Ok neg ls then sgn neg ls else 0
section
variable (neg : Bool) (A : Option Addr) (ls : List Nat) (c : Nat) (w : World) (hr : Sl .u32 w w.heap.size A ls) (hd : Dig W32 ls) (hl : ls.length * 4 ≤ 140737488351232)
include hr hd hl
theorem wsign_u : Calls Tryz.prog 81 #[big neg A ls.length c] w fun e w' => e = .returned (.int .i64 (sgnV neg ls)) ∧ Below w.heap.size w w' := by
  unfold sgnV
  by_cases h : Ok neg ls
  · rw [if_pos h]; exact wsign_ok neg A ls c w hr hd h
  · rw [if_neg h]; exact wsign_bad neg A ls c w hr hl h
end
end Go.Proofs.YtjamfkafgfpobaaGreat
