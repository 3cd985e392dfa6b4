/-
  Numbers of limbs that fit, what whole's sums, products and quotients return, constants, SameInt. Conditions: that numbers are no longer than memory.
-/
import Derived.Test.YtjamfkafgfpobaaGreatWh
import Derived.Test.YtjamfkafgfpobaaGreatInt3
import Derived.Test.YtjamfkafgfpobaaGreatQuo
namespace Go.Proofs.YtjamfkafgfpobaaGreat
open Go.RowKit Nb
/-- May a number be told (has it no more limbs than may be)? -/
def Fits (Z : Int) : Prop := Z.natAbs < W32 ^ 2048
/-- A number in limbs. -/
structure Lm (w : World) (neg : Bool) (A : Option Addr) (ls : List Nat) (c : Nat) : Prop where
  sl : Sl .u32 w w.heap.size A ls
  dig : Dig W32 ls
  ok : Ok neg ls
theorem Lm.below {w w' : World} {neg : Bool} {A : Option Addr} {ls : List Nat} {c : Nat} (h : Lm w neg A ls c) (hb : Below w.heap.size w w') : Lm w' neg A ls c := ⟨(h.sl.below hb).more hb.size, h.dig, h.ok⟩
/-- What is told of a number: itself, or the refusal. -/
def Says (Z : Int) (n : Bool) (ls : List Nat) (er : Int) : Prop := (Fits Z ∧ er = 0 ∧ sv n (val W32 ls) = Z) ∨ (¬ Fits Z ∧ er = 4 ∧ ls = [] ∧ n = false)
def Told (w : World) (Z : Int) (e : Ending) (w' : World) : Prop := ∃ (n : Bool) (V : Option Addr) (ls : List Nat) (k : Nat) (er : Int), e = .returned (.tuple #[big n V ls.length k, .int .i64 er]) ∧
  Lm w' n V ls k ∧ Says Z n ls er ∧ Below w.heap.size w w'
theorem ok_zero : Ok false [] := ⟨by simp, Norm.nil, fun _ => rfl⟩
theorem sv_abs (n : Bool) (v : Nat) : (sv n v).natAbs = v := by cases n <;> simp [sv]
theorem limbsL_le' {ws : List Nat} (hd : Dig W64 ws) (hn : Norm ws) (k : Nat) : limbsL ws ≤ k ↔ val W64 ws < W32 ^ k := by
  have h1 : lenL ws = bitLen (val W64 ws) := lenL_val hd hn
  have h2 : bitLen (val W64 ws) ≤ 32 * k ↔ val W64 ws < 2 ^ (32 * k) := bitLen_le_iff
  rw [show W32 ^ k = 2 ^ (32 * k) by rw [Nat.pow_mul], ← h2, ← h1]
  unfold limbsL
  omega
theorem limbsL_le {ws : List Nat} (hd : Dig W64 ws) (hn : Norm ws) : limbsL ws ≤ 2048 ↔ val W64 ws < W32 ^ 2048 := limbsL_le' hd hn 2048
set_option maxHeartbeats 1000000 in
theorem fit_any (neg : Bool) (A : Option Addr) (ws : List Nat) (c C : Nat) (w : World) (hx : Bg w neg A ws c C) (hl : ws.length * 8 ≤ 140737488351232) :
    Calls Tryz.prog 128 #[big neg A ws.length c] w (Told w (sv neg (val W64 ws))) := by
  have hF : Fits (sv neg (val W64 ws)) ↔ limbsL ws ≤ 2048 := by
    unfold Fits; rw [sv_abs]; exact (limbsL_le hx.dig hx.norm).symm
  have hv := val_unpack hx.dig hx.norm
  have hun := norm_unpack hx.dig hx.norm
  have hul := unpack_length ws
  have hlb := lenL_le hx.dig
  have hlen : limbsL ws ≤ 140737488351232 := by unfold limbsL; omega
  have hsg : unpack ws = [] → neg = false := fun h => by
    apply hx.sign
    rw [h] at hv
    exact (norm_zero (B := W64) (by decide) hx.norm).1 (by simpa [val] using hv.symm)
  have HU := Lib.hid (And.intro hv (And.intro hun hsg)); clear hv hun hsg hlb
  have r0 : ∀ W : World, Sl .u64 W W.heap.size A ws → Sl .u64 ((W.alloc (.cells #[.bool neg, .slice A ws.length c] 72)).alloc (.cells #[.bool false, .slice none 0 0] 27)) ((W.alloc (.cells #[.bool neg, .slice A ws.length c] 72)).alloc (.cells #[.bool false, .slice none 0 0] 27)).heap.size A ws := fun W h => ((h.alloc (Nat.le_refl _) _).alloc (by go_size) _).more (by go_size)
  have s0 := r0 _ hx.sl
  have q0 : ((w.alloc (.cells #[.bool neg, .slice A ws.length c] 72)).alloc (.cells #[.bool false, .slice none 0 0] 27)).cell? ⟨w.heap.size, 0, none⟩ = some (.bool neg) := by go_cell
  have q1 : ((w.alloc (.cells #[.bool neg, .slice A ws.length c] 72)).alloc (.cells #[.bool false, .slice none 0 0] 27)).cell? ⟨w.heap.size, 1, none⟩ = some (.slice A ws.length c) := by go_cell
  have q2 : ((w.alloc (.cells #[.bool neg, .slice A ws.length c] 72)).alloc (.cells #[.bool false, .slice none 0 0] 27)).cell? ⟨w.heap.size + 1, 0, none⟩ = some (.bool false) := by go_cell
  have q3 : ((w.alloc (.cells #[.bool neg, .slice A ws.length c] 72)).alloc (.cells #[.bool false, .slice none 0 0] 27)).cell? ⟨w.heap.size + 1, 1, none⟩ = some (.slice none 0 0) := by go_cell
  have q4 : ((w.alloc (.cells #[.bool neg, .slice A ws.length c] 72)).alloc (.cells #[.bool false, .slice none 0 0] 27)).frozen? ⟨w.heap.size + 1, 0, none⟩ = false := by simp
  have q5 : ((w.alloc (.cells #[.bool neg, .slice A ws.length c] 72)).alloc (.cells #[.bool false, .slice none 0 0] 27)).frozen? ⟨w.heap.size + 1, 1, none⟩ = false := by simp
  have hb0 : Below w.heap.size w ((w.alloc (.cells #[.bool neg, .slice A ws.length c] 72)).alloc (.cells #[.bool false, .slice none 0 0] 27)) := by go_grown
  have hz0 : ((w.alloc (.cells #[.bool neg, .slice A ws.length c] 72)).alloc (.cells #[.bool false, .slice none 0 0] 27)).heap.size = w.heap.size + 1 + 1 := by go_size
  go_enter Tryz.func128, Tryz.ntmps128
  go_wp2_with fail
  generalize hW : ((w.alloc (.cells #[.bool neg, .slice A ws.length c] 72)).alloc (.cells #[.bool false, .slice none 0 0] 27)) = W at *
  clear hW
  refine (limbs_any neg A ws c _ s0 hx.dig hl).mono ?_
  rintro e w1 ⟨rfl, hb1⟩
  have HZ := Lib.hid hb1.size
  have g0 := (hb1.cell (p := ⟨w.heap.size, 0, none⟩) (by simp; omega)).trans q0
  have g1 := (hb1.cell (p := ⟨w.heap.size, 1, none⟩) (by simp; omega)).trans q1
  have g2 := (hb1.cell (p := ⟨w.heap.size + 1, 0, none⟩) (by simp; omega)).trans q2
  have g3 := (hb1.cell (p := ⟨w.heap.size + 1, 1, none⟩) (by simp; omega)).trans q3
  have g4 := (hb1.frozen (p := ⟨w.heap.size + 1, 0, none⟩) (by simp; omega)).trans q4
  have g5 := (hb1.frozen (p := ⟨w.heap.size + 1, 1, none⟩) (by simp; omega)).trans q5
  have s1 := (s0.below hb1).more hb1.size
  have hbw := hb0.trans (hb1.mono hb0.size)
  clear q0 q1 q2 q3 q4 q5
  by_cases hF2 : limbsL ws ≤ 2048
  · go_wp2_with fail
    refine (int_any neg A ws c _ s1 hx.dig hx.norm hl).mono ?_
    rintro e w2 ⟨g, rfl, hrow, hg, hb2⟩
    have e2 := (hb2.cell (p := ⟨w.heap.size + 1, 0, none⟩) (by simp; have := HZ.out; omega)).trans g2
    have e3 := (hb2.cell (p := ⟨w.heap.size + 1, 1, none⟩) (by simp; have := HZ.out; omega)).trans g3
    have e4 := (hb2.frozen (p := ⟨w.heap.size + 1, 0, none⟩) (by simp; have := HZ.out; omega)).trans g4
    have e5 := (hb2.frozen (p := ⟨w.heap.size + 1, 1, none⟩) (by simp; have := HZ.out; omega)).trans g5
    go_wp2
    have hne : g ≠ w.heap.size + 1 := by have := HZ.out; omega
    refine bodyPost_ret (v := .tuple #[big neg (some ⟨g, 0, none⟩) (unpack ws).length (unpack ws).length, .int .i64 0]) (by simp [results, Tryz.results128, go_sem, e2, e3, hul]) rfl ?_
    refine ⟨neg, some ⟨g, 0, none⟩, unpack ws, (unpack ws).length, 0, rfl, ⟨?_, dig_unpack ws, ⟨by omega, HU.out.2.1, HU.out.2.2⟩⟩, .inl ⟨hF.2 hF2, rfl, by rw [HU.out.1]⟩, ?_⟩
    · exact ((hrow.far (by simp; omega) _).far (by simp; omega) _).sl (by have := hrow.lt; simp; omega)
    · exact ((hbw.trans (hb2.mono hbw.size)).setCell (by simp) _).setCell (by simp) _
  · go_wp2
    refine bodyPost_ret (v := .tuple #[big false none ([] : List Nat).length 0, .int .i64 4]) (by simp [results, Tryz.results128, go_sem, g2, g3]) rfl ?_
    refine ⟨false, none, [], 0, 4, rfl, ⟨fun h => absurd h (by simp), by intro x hx; simp at hx, ok_zero⟩, .inr ⟨fun h => hF2 (hF.1 h), rfl, rfl, rfl⟩, ?_⟩
    exact (hbw.setCell (by simp) _).setCell (by simp) _
end Go.Proofs.YtjamfkafgfpobaaGreat
namespace Go.Proofs.YtjamfkafgfpobaaGreat
open Go.RowKit Nb
theorem Two.put {w W : World} {p q r : Nat} {n1 n2 : Bool} {A B : Option Addr} {xs ys : List Nat} {l1 c l2 d : Nat} {X : Prop} (h : Two w W p q n1 n2 A B xs ys l1 c l2 d ∧ X) (hr : Rest W r) (hw : w.heap.size ≤ r) (hp : p ≠ r) (hq : q ≠ r) (u v : Value) :
    Two w ((W.setCell ⟨r, 0, none⟩ u).setCell ⟨r, 1, none⟩ v) p q n1 n2 A B xs ys l1 c l2 d ∧ ((W.setCell ⟨r, 0, none⟩ u).setCell ⟨r, 1, none⟩ v).cell? ⟨p, 0, none⟩ = some (.bool n1) ∧ ((W.setCell ⟨r, 0, none⟩ u).setCell ⟨r, 1, none⟩ v).cell? ⟨p, 1, none⟩ = some (.slice A l1 c) ∧ ((W.setCell ⟨r, 0, none⟩ u).setCell ⟨r, 1, none⟩ v).cell? ⟨q, 0, none⟩ = some (.bool n2) ∧ ((W.setCell ⟨r, 0, none⟩ u).setCell ⟨r, 1, none⟩ v).cell? ⟨q, 1, none⟩ = some (.slice B l2 d) := by
  have hk : ∀ (x : Nat) (j : Nat), x ≠ r → ((W.setCell ⟨r, 0, none⟩ u).setCell ⟨r, 1, none⟩ v).cell? ⟨x, j, none⟩ = W.cell? ⟨x, j, none⟩ := fun x j hx => by
    rw [World.cell?_setCell_other _ _ _ _ (fun e => hx (by injection e with a; exact a.symm)), World.cell?_setCell_other _ _ _ _ (fun e => hx (by injection e with a; exact a.symm))]
  have h2 : Two w ((W.setCell ⟨r, 0, none⟩ u).setCell ⟨r, 1, none⟩ v) p q n1 n2 A B xs ys l1 c l2 d :=
    ⟨(h.1.below.setCell hw _).setCell hw _, by simpa using h.1.lp, by simpa using h.1.lq, by simpa using h.1.sa.put hr u v, by simpa using h.1.sb.put hr u v, (hk _ _ hp).trans h.1.a0, (hk _ _ hp).trans h.1.a1, (hk _ _ hq).trans h.1.b0, (hk _ _ hq).trans h.1.b1⟩
  exact h2.all
/-- What is answered of two numbers: where both may be, what comes of them; else the refusal. -/
def Reck (w : World) (p : Prop) (Z : Int) (e : Ending) (w' : World) : Prop := ∃ (n : Bool) (V : Option Addr) (ls : List Nat) (k : Nat) (er : Int), e = .returned (.tuple #[big n V ls.length k, .int .i64 er]) ∧
  Lm w' n V ls k ∧ ((p ∧ Says Z n ls er) ∨ (¬ p ∧ er = 1 ∧ ls = [] ∧ n = false)) ∧ Below w.heap.size w w'
theorem Lm.laid {W : World} {r : Nat} {n : Bool} {V : Option Addr} {ls : List Nat} {k : Nat} (h : Lm W n V ls k) (hr : Rest W r) (u v : Value) : Lm ((W.setCell ⟨r, 0, none⟩ u).setCell ⟨r, 1, none⟩ v) n V ls k :=
  ⟨by simpa using h.sl.put hr u v, h.dig, h.ok⟩
theorem Rest.newI (W : World) : Rest (W.alloc (.cells #[.bool false, .slice none 0 0] 27)) W.heap.size :=
  ⟨by simp, by go_cell, by go_cell, World.frozen?_alloc_new _ _ _ _, World.frozen?_alloc_new _ _ _ _⟩
end Go.Proofs.YtjamfkafgfpobaaGreat
namespace Go.Proofs.YtjamfkafgfpobaaGreat
open Go.RowKit Nb
theorem of_fix (n : Int) (neg : Bool) (w : World) (h0 : -9223372036854775808 ≤ n) (h1 : n ≤ 9223372036854775807) (hneg : decide (n < 0) = neg) :
    Calls Tryz.prog 84 #[.int .i64 n] w fun e w' => ∃ A c xs, e = .returned (big neg A xs.length c) ∧ Lm w' neg A xs c ∧ sv neg (val W32 xs) = n ∧ xs.length ≤ 2 ∧ Below w.heap.size w w' := by
  subst hneg
  refine (of_any n w h0 h1).mono ?_
  rintro e w' ⟨A, c, rfl, hs, hb⟩
  refine ⟨A, c, ofI n, rfl, ⟨hs, ofI_dig n, ofI_ok h0 h1⟩, ?_, ofI_len h0 h1, hb.2.2⟩
  rw [ofI_val h0 h1, sv]
  by_cases h : n < 0 <;> simp [h] <;> omega
/-- A number in a cell. -/
structure Held (W : World) (p : Nat) (n : Bool) (A : Option Addr) (ls : List Nat) (c : Nat) : Prop where
  lt : p < W.heap.size
  c0 : W.cell? ⟨p, 0, none⟩ = some (.bool n)
  c1 : W.cell? ⟨p, 1, none⟩ = some (.slice A ls.length c)
  lm : Lm W n A ls c
theorem Held.on {W W' : World} {p : Nat} {n : Bool} {A : Option Addr} {ls : List Nat} {c : Nat} (h : Held W p n A ls c) (hb : Below W.heap.size W W') : Held W' p n A ls c :=
  ⟨Nat.lt_of_lt_of_le h.lt hb.size, (hb.cell (p := ⟨p, 0, none⟩) h.lt).trans h.c0, (hb.cell (p := ⟨p, 1, none⟩) h.lt).trans h.c1, h.lm.below hb⟩
/-- One is laid. -/
theorem Held.new {W : World} {p : Nat} {n : Bool} {A : Option Addr} {ls : List Nat} {c : Nat} (hr : Rest W p) (h : Lm W n A ls c) : Held ((W.setCell ⟨p, 0, none⟩ (.bool n)).setCell ⟨p, 1, none⟩ (.slice A ls.length c)) p n A ls c := by
  refine ⟨by simpa using hr.lr, ?_, ?_, h.laid hr _ _⟩
  · rw [World.cell?_setCell_other _ _ _ _ (by simp)]
    have := hr.r0; have := hr.f0
    go_cell
  · have := hr.r1; have := hr.f1
    go_cell
theorem Held.put {W : World} {p r : Nat} {n : Bool} {A : Option Addr} {ls : List Nat} {c : Nat} (h : Held W p n A ls c) (hr : Rest W r) (hne : p ≠ r) (u v : Value) : Held ((W.setCell ⟨r, 0, none⟩ u).setCell ⟨r, 1, none⟩ v) p n A ls c := by
  have hk : ∀ (j : Nat), ((W.setCell ⟨r, 0, none⟩ u).setCell ⟨r, 1, none⟩ v).cell? ⟨p, j, none⟩ = W.cell? ⟨p, j, none⟩ := fun j => by
    rw [World.cell?_setCell_other _ _ _ _ (fun e => hne (by injection e with a; exact a.symm)), World.cell?_setCell_other _ _ _ _ (fun e => hne (by injection e with a; exact a.symm))]
  exact ⟨by simpa using h.lt, (hk 0).trans h.c0, (hk 1).trans h.c1, h.lm.laid hr u v⟩
theorem Lm.sz {W : World} {n : Bool} {A : Option Addr} {ls : List Nat} {c : Nat} (h : Lm W n A ls c) : ls.length * 4 ≤ 140737488351232 := by have := h.ok.len; omega
/-- Of two numbers that may be. -/
theorem wcmp_lm {n1 n2 : Bool} {A B : Option Addr} {xs ys : List Nat} {c d : Nat} (w : World) (h1 : Lm w n1 A xs c) (h2 : Lm w n2 B ys d) (r : Int) (hr : cmpI (sv n1 (val W32 xs)) (sv n2 (val W32 ys)) = r) :
    Calls Tryz.prog 83 #[big n1 A xs.length c, big n2 B ys.length d] w fun e w' => e = .returned (.int .i64 r) ∧ Below w.heap.size w w' := by
  have h := wcmp_u n1 n2 A B xs ys c d w h1.sl h2.sl h1.dig h2.dig h1.sz h2.sz
  rwa [show cmpV n1 xs n2 ys = r by unfold cmpV; rw [if_pos ⟨h1.ok, h2.ok⟩, hr]] at h
end Go.Proofs.YtjamfkafgfpobaaGreat
namespace Go.Proofs.YtjamfkafgfpobaaGreat
open Go.RowKit Nb
/-- Two numbers in words, in two cells of the call's own, and their limbs: what stays while more memory is made. -/
structure Both (w W : World) (p q : Nat) (n1 n2 : Bool) (A B : Option Addr) (xs ys : List Nat) (l1 c l2 d : Nat) : Prop where
  below : Below w.heap.size w W
  lp : p < W.heap.size
  lq : q < W.heap.size
  sa : Sl .u64 W W.heap.size A xs
  sb : Sl .u64 W W.heap.size B ys
  a0 : W.cell? ⟨p, 0, none⟩ = some (.bool n1)
  a1 : W.cell? ⟨p, 1, none⟩ = some (.slice A l1 c)
  b0 : W.cell? ⟨q, 0, none⟩ = some (.bool n2)
  b1 : W.cell? ⟨q, 1, none⟩ = some (.slice B l2 d)
section
variable {w W W' : World} {p q : Nat} {n1 n2 : Bool} {A B : Option Addr} {xs ys : List Nat} {l1 c l2 d : Nat} {X : Prop}
theorem Both.on (h : Both w W p q n1 n2 A B xs ys l1 c l2 d) (hb : Below W.heap.size W W') : Both w W' p q n1 n2 A B xs ys l1 c l2 d :=
  ⟨h.below.trans (hb.mono h.below.size), Nat.lt_of_lt_of_le h.lp hb.size, Nat.lt_of_lt_of_le h.lq hb.size, (h.sa.below hb).more hb.size, (h.sb.below hb).more hb.size,
   (hb.cell (p := ⟨p, 0, none⟩) h.lp).trans h.a0, (hb.cell (p := ⟨p, 1, none⟩) h.lp).trans h.a1, (hb.cell (p := ⟨q, 0, none⟩) h.lq).trans h.b0, (hb.cell (p := ⟨q, 1, none⟩) h.lq).trans h.b1⟩
theorem Both.all (h : Both w W p q n1 n2 A B xs ys l1 c l2 d) : Both w W p q n1 n2 A B xs ys l1 c l2 d ∧ W.cell? ⟨p, 0, none⟩ = some (.bool n1) ∧ W.cell? ⟨p, 1, none⟩ = some (.slice A l1 c) ∧ W.cell? ⟨q, 0, none⟩ = some (.bool n2) ∧ W.cell? ⟨q, 1, none⟩ = some (.slice B l2 d) :=
  ⟨h, h.a0, h.a1, h.b0, h.b1⟩
theorem Both.keep (h : Both w W p q n1 n2 A B xs ys l1 c l2 d ∧ X) (hb : Below W.heap.size W W') : Both w W' p q n1 n2 A B xs ys l1 c l2 d ∧ W'.cell? ⟨p, 0, none⟩ = some (.bool n1) ∧ W'.cell? ⟨p, 1, none⟩ = some (.slice A l1 c) ∧ W'.cell? ⟨q, 0, none⟩ = some (.bool n2) ∧ W'.cell? ⟨q, 1, none⟩ = some (.slice B l2 d) :=
  (h.1.on hb).all
theorem Both.sa' (h : Both w W p q n1 n2 A B xs ys l1 c l2 d ∧ X) : Sl .u64 W W.heap.size A xs := h.1.sa
theorem Both.sb' (h : Both w W p q n1 n2 A B xs ys l1 c l2 d ∧ X) : Sl .u64 W W.heap.size B ys := h.1.sb
theorem Both.below' (h : Both w W p q n1 n2 A B xs ys l1 c l2 d ∧ X) : Below w.heap.size w W := h.1.below
end
theorem Both.put {w W : World} {p q r : Nat} {n1 n2 : Bool} {A B : Option Addr} {xs ys : List Nat} {l1 c l2 d : Nat} {X : Prop} (h : Both w W p q n1 n2 A B xs ys l1 c l2 d ∧ X) (hr : Rest W r) (hw : w.heap.size ≤ r) (hp : p ≠ r) (hq : q ≠ r) (u v : Value) :
    Both w ((W.setCell ⟨r, 0, none⟩ u).setCell ⟨r, 1, none⟩ v) p q n1 n2 A B xs ys l1 c l2 d ∧ ((W.setCell ⟨r, 0, none⟩ u).setCell ⟨r, 1, none⟩ v).cell? ⟨p, 0, none⟩ = some (.bool n1) ∧ ((W.setCell ⟨r, 0, none⟩ u).setCell ⟨r, 1, none⟩ v).cell? ⟨p, 1, none⟩ = some (.slice A l1 c) ∧ ((W.setCell ⟨r, 0, none⟩ u).setCell ⟨r, 1, none⟩ v).cell? ⟨q, 0, none⟩ = some (.bool n2) ∧ ((W.setCell ⟨r, 0, none⟩ u).setCell ⟨r, 1, none⟩ v).cell? ⟨q, 1, none⟩ = some (.slice B l2 d) := by
  have hk : ∀ (x : Nat) (j : Nat), x ≠ r → ((W.setCell ⟨r, 0, none⟩ u).setCell ⟨r, 1, none⟩ v).cell? ⟨x, j, none⟩ = W.cell? ⟨x, j, none⟩ := fun x j hx => by
    rw [World.cell?_setCell_other _ _ _ _ (fun e => hx (by injection e with a; exact a.symm)), World.cell?_setCell_other _ _ _ _ (fun e => hx (by injection e with a; exact a.symm))]
  have h2 : Both w ((W.setCell ⟨r, 0, none⟩ u).setCell ⟨r, 1, none⟩ v) p q n1 n2 A B xs ys l1 c l2 d :=
    ⟨(h.1.below.setCell hw _).setCell hw _, by simpa using h.1.lp, by simpa using h.1.lq, by simpa using h.1.sa.put hr u v, by simpa using h.1.sb.put hr u v, (hk _ _ hp).trans h.1.a0, (hk _ _ hp).trans h.1.a1, (hk _ _ hq).trans h.1.b0, (hk _ _ hq).trans h.1.b1⟩
  exact h2.all
theorem Pair.drew {w Q W : World} {r s : Nat} (h : Pair w Q W r s) : Pair w Q W.drew r s := ⟨h.below.drew, h.more.drew, h.one.drew, h.two.drew⟩
section
variable {w1 W : World} {s t : Nat} {n m : Bool} {V U : Option Addr} {zs rs : List Nat} {k l C D : Nat}
end
theorem Rest.alloc {W : World} {s : Nat} (h : Rest W s) (e : Obj) : Rest (W.alloc e) s := h.on (by go_grown)
end Go.Proofs.YtjamfkafgfpobaaGreat
namespace Go.Proofs.YtjamfkafgfpobaaGreat
open Go.RowKit Nb
theorem take_same {xs ys : List Nat} {k : Nat} (h : xs.take k = ys.take k) (hk : k < xs.length) (hl : xs.length = ys.length) (he : xs[k] = ys[k]'(hl ▸ hk)) : xs.take (k + 1) = ys.take (k + 1) := by
  rw [List.take_succ_eq_append_getElem hk, List.take_succ_eq_append_getElem (hl ▸ hk), h, he]
theorem same_all {xs ys : List Nat} {k : Nat} (h : xs.take k = ys.take k) (hk : xs.length ≤ k) (hl : xs.length = ys.length) : xs = ys := by
  rwa [List.take_of_length_le hk, List.take_of_length_le (hl ▸ hk)] at h
set_option maxHeartbeats 1000000 in
theorem same_any (n1 n2 : Bool) (A B : Option Addr) (xs ys : List Nat) (c d : Nat) (w : World) (hr : Sl .u32 w w.heap.size A xs) (hs : Sl .u32 w w.heap.size B ys) (hl : xs.length * 4 ≤ 140737488351232) (hk : ys.length * 4 ≤ 140737488351232) :
    Calls Tryz.prog 59 #[big n1 A xs.length c, big n2 B ys.length d] w fun e w' => e = .returned (.bool (decide (n1 = n2 ∧ xs = ys))) ∧ Below w.heap.size w w' := by
  by_cases hn : n1 = n2
  · subst hn
    by_cases hlen : xs.length = ys.length
    · have hyes : ∀ k, xs.take k = ys.take k → xs.length ≤ k → decide (n1 = n1 ∧ xs = ys) = true := fun k h h2 => by simp [same_all h h2 hlen]
      have hno : ∀ k (hk : k < xs.length) (hk2 : k < ys.length), xs[k] ≠ ys[k] → decide (n1 = n1 ∧ xs = ys) = false := fun k hk hk2 h => by
        rw [decide_eq_false_iff_not]; rintro ⟨_, rfl⟩; exact h rfl
      generalize decide (n1 = n1 ∧ xs = ys) = r at *
      have HY := Lib.hid hyes
      have HN := Lib.hid hno
      clear hyes hno
      rw [← hlen]
      have HL := Lib.hid hlen
      clear hlen hk
      go_enter Tryz.func59, Tryz.ntmps59
      go_wp2
      have hW : ∃ W : World, W = ((w.alloc (Obj.cells #[Value.bool n1, Value.slice A xs.length c] 27)).alloc (Obj.cells #[Value.bool n1, Value.slice B xs.length d] 27)) ∧ Below w.heap.size w W ∧
          W.cell? ⟨w.heap.size, 1, none⟩ = some (.slice A xs.length c) ∧ W.cell? ⟨w.heap.size + 1, 1, none⟩ = some (.slice B xs.length d) := by
        refine ⟨_, rfl, by go_grown, ?_, ?_⟩ <;> go_cell
      obtain ⟨W, hW, hb, c1, c2⟩ := hW
      rw [← hW]
      clear hW
      go_loopw [5] (fun iv wr => ∃ k : Nat, k ≤ xs.length ∧ iv = .int .i64 k ∧ Qu W wr ∧ xs.take k = ys.take k) (fun iv _ => xs.length - (intOf iv).toNat)
      case atStart => exact ⟨0, Nat.zero_le _, rfl, Qu.refl _, rfl⟩
      case round =>
        obtain ⟨k, hk2, rfl, hqu, htk⟩ := hrel
        have HT := Lib.hid htk
        clear htk
        rw [← hqu.cell] at c1 c2
        by_cases hlt : k < xs.length
        · have hlt2 : k < ys.length := HL.out ▸ hlt
          obtain ⟨ad, rfl, hb1, h1⟩ := (hr.below hb).at_ hlt
          obtain ⟨bd, rfl, hb2, h2⟩ := (hs.below hb).at_ hlt2
          rw [← hqu.cell] at h1 h2
          have hji : (k : Int) < (xs.length : Int) := by omega
          by_cases he : xs[k] = ys[k]
          · have HE := Lib.hid (take_same HT.out hlt HL.out he)
            rw [← he] at h2
            clear he
            go_wp2
            go_quiet (fail)
            go_wp2
            go_roundw
            case rel => exact ⟨k + 1, by omega, by go_num, hqu.drew _, HE.out⟩
            case measure => simp [intOf]; omega
          · have HE := Lib.hid (HN.out k hlt hlt2 he)
            obtain ⟨x, hx⟩ : ∃ x : Nat, xs[k] = x := ⟨_, rfl⟩
            obtain ⟨y, hy⟩ : ∃ y : Nat, ys[k] = y := ⟨_, rfl⟩
            rw [hx] at h1 he
            rw [hy] at h2 he
            clear hx hy
            have hxy : ¬ (x : Int) = (y : Int) := by omega
            go_wp2
            go_quiet (fail)
            go_wp2
            go_ret
            exact ⟨by rw [HE.out]; rfl, hb.trans ((hqu.drew _).below _)⟩
        · have HE := Lib.hid (HY.out k HT.out (by omega))
          go_wp2
          go_ret
          exact ⟨by rw [HE.out]; rfl, hb.trans (hqu.below _)⟩
    · have hv : decide (n1 = n1 ∧ xs = ys) = false := by rw [decide_eq_false_iff_not]; rintro ⟨_, rfl⟩; exact hlen rfl
      rw [hv]
      have hle : ¬ (xs.length : Int) = (ys.length : Int) := by omega
      clear hv
      go_enter Tryz.func59, Tryz.ntmps59
      go_wp2
      go_ret
      exact ⟨rfl, by go_grown⟩
  · have hv : decide (n1 = n2 ∧ xs = ys) = false := by rw [decide_eq_false_iff_not]; rintro ⟨h, _⟩; exact hn h
    rw [hv]
    clear hv
    go_enter Tryz.func59, Tryz.ntmps59
    go_wp2
    go_ret
    exact ⟨rfl, by go_grown⟩
end Go.Proofs.YtjamfkafgfpobaaGreat
