/-
  What the document's own Plus, Minus, Times, Turned and Size return. Condition: that the numbers are numbers, and no longer than memory.
-/
import Derived.Test.YtffjkfjokikhnaaRb1
import Derived.Deep.RegionHeld3
namespace Go.Proofs.Ytffjkfjokikhnaa
open Go.RowKit Nb
/-- A slice of numbers does not lie where something else does. -/
theorem Sl.keepAtI {k : IntKind} {w : World} {B : Nat} {A : Option Addr} {ls : List Nat} (h : Sl k w B A ls) {p : Addr} {v : Value} (hv : w.cell? p = some v) (hne : ∀ n, v ≠ .int k n) (u : Value) : Sl k (w.setCell p u) B A ls := fun hn => by
  obtain ⟨ad, e, hb, hc⟩ := h hn
  refine ⟨ad, e, hb, fun j hj => ?_⟩
  rw [World.cell?_setCell_other _ _ _ _ (fun e => by
    have h1 := hc j hj
    rw [← e] at h1
    rw [hv] at h1
    exact hne _ (Option.some.inj h1))]
  exact hc j hj

end Go.Proofs.Ytffjkfjokikhnaa
namespace Go.Proofs.Ytffjkfjokikhnaa.Rb
open Go.RowKit Nb
theorem cmpI_ge {x y : Int} (h : y ≤ x) : ¬ cmpI x y < 0 := by
  unfold cmpI; rw [if_neg (by omega)]; split <;> omega


/-- A number in words. -/
structure Bg (w : World) (neg : Bool) (A : Option Addr) (ls : List Nat) (c C : Nat) : Prop where
  sl : Sl .u32 w w.heap.size A ls
  dig : Dig W32 ls
  norm : Norm ls
  sign : ls = [] → neg = false
  len : ls.length ≤ c
  cap : c ≤ C
/-- It answers this number. -/
def Gives (w : World) (Z : Int) (C : Nat) (e : Ending) (w' : World) : Prop := ∃ (neg : Bool) (A : Option Addr) (zs : List Nat) (c : Nat), e = .returned (big neg A zs.length c) ∧ Bg w' neg A zs c C ∧ sv neg (val W32 zs) = Z ∧ Below w.heap.size w w'

section
variable {w w' : World} {neg : Bool} {A : Option Addr} {ls : List Nat} {c C C' : Nat}
theorem Bg.below (h : Bg w neg A ls c C) (hb : Below w.heap.size w w') : Bg w' neg A ls c C := ⟨(h.sl.below hb).more hb.size, h.dig, h.norm, h.sign, h.len, h.cap⟩
theorem Bg.mono (h : Bg w neg A ls c C) (hC : C ≤ C') : Bg w neg A ls c C' := ⟨h.sl, h.dig, h.norm, h.sign, h.len, Nat.le_trans h.cap hC⟩
theorem Gives.mono {Z : Int} {e : Ending} (h : Gives w Z C e w') (hC : C ≤ C') : Gives w Z C' e w' := by
  obtain ⟨n, A, zs, c, h1, h2, h3, h4⟩ := h
  exact ⟨n, A, zs, c, h1, h2.mono hC, h3, h4⟩
end
theorem sv_made {neg : Bool} {zs : List Nat} : sv (neg && decide (0 < zs.length)) (val W32 zs) = sv neg (val W32 zs) := by
  rcases Nat.eq_zero_or_pos zs.length with h | h
  · rw [List.eq_nil_of_length_eq_zero h]; cases neg <;> rfl
  · simp [h]
theorem sign_made {neg : Bool} {zs : List Nat} : zs = [] → (neg && decide (0 < zs.length)) = false := fun h => by subst h; simp

/-- Two numbers in two cells of the call's own: what stays while more memory is made. -/
structure Duo (w W : World) (p q : Nat) (n1 n2 : Bool) (A B : Option Addr) (xs ys : List Nat) (l1 c l2 d : Nat) : Prop where
  below : Below w.heap.size w W
  lp : p < W.heap.size
  lq : q < W.heap.size
  sa : Sl .u32 W w.heap.size A xs
  sb : Sl .u32 W w.heap.size B ys
  a0 : W.cell? ⟨p, 0, none⟩ = some (.bool n1)
  a1 : W.cell? ⟨p, 1, none⟩ = some (.slice A l1 c)
  b0 : W.cell? ⟨q, 0, none⟩ = some (.bool n2)
  b1 : W.cell? ⟨q, 1, none⟩ = some (.slice B l2 d)
abbrev DuoS (w W : World) (p q : Nat) (n1 n2 : Bool) (A B : Option Addr) (xs ys : List Nat) (l1 c l2 d : Nat) : Prop := Duo w W p q n1 n2 A B xs ys l1 c l2 d ∧ W.cell? ⟨p, 0, none⟩ = some (.bool n1) ∧ W.cell? ⟨p, 1, none⟩ = some (.slice A l1 c) ∧ W.cell? ⟨q, 0, none⟩ = some (.bool n2) ∧ W.cell? ⟨q, 1, none⟩ = some (.slice B l2 d)
section
variable {w W W' : World} {p q r : Nat} {n1 n2 : Bool} {A B : Option Addr} {xs ys : List Nat} {l1 c l2 d : Nat} {X : Prop}
theorem Duo.on (h : Duo w W p q n1 n2 A B xs ys l1 c l2 d) (hb : Below W.heap.size W W') : Duo w W' p q n1 n2 A B xs ys l1 c l2 d :=
  ⟨h.below.trans (hb.mono h.below.size), Nat.lt_of_lt_of_le h.lp hb.size, Nat.lt_of_lt_of_le h.lq hb.size, h.sa.below (hb.mono h.below.size), h.sb.below (hb.mono h.below.size),
   (hb.cell (p := ⟨p, 0, none⟩) h.lp).trans h.a0, (hb.cell (p := ⟨p, 1, none⟩) h.lp).trans h.a1, (hb.cell (p := ⟨q, 0, none⟩) h.lq).trans h.b0, (hb.cell (p := ⟨q, 1, none⟩) h.lq).trans h.b1⟩
theorem Duo.all (h : Duo w W p q n1 n2 A B xs ys l1 c l2 d) : DuoS w W p q n1 n2 A B xs ys l1 c l2 d := ⟨h, h.a0, h.a1, h.b0, h.b1⟩
theorem Duo.keep (h : Duo w W p q n1 n2 A B xs ys l1 c l2 d ∧ X) (hb : Below W.heap.size W W') : DuoS w W' p q n1 n2 A B xs ys l1 c l2 d := (h.1.on hb).all
/-- A cell elsewhere is written. -/
theorem Duo.set (h : Duo w W p q n1 n2 A B xs ys l1 c l2 d) {a : Addr} (hw : w.heap.size ≤ a.block) (hp : p ≠ a.block) (hq : q ≠ a.block) (u : Value) : Duo w (W.setCell a u) p q n1 n2 A B xs ys l1 c l2 d :=
  ⟨h.below.setCell hw u, by simpa using h.lp, by simpa using h.lq, h.sa.setCell hw u, h.sb.setCell hw u,
   (World.cell?_setCell_other _ _ _ _ (fun e => hp (by rw [e]))).trans h.a0, (World.cell?_setCell_other _ _ _ _ (fun e => hp (by rw [e]))).trans h.a1, (World.cell?_setCell_other _ _ _ _ (fun e => hq (by rw [e]))).trans h.b0, (World.cell?_setCell_other _ _ _ _ (fun e => hq (by rw [e]))).trans h.b1⟩
theorem Duo.put (h : Duo w W p q n1 n2 A B xs ys l1 c l2 d ∧ X) (hw : w.heap.size ≤ r) (hp : p ≠ r) (hq : q ≠ r) (u v : Value) : DuoS w ((W.setCell ⟨r, 0, none⟩ u).setCell ⟨r, 1, none⟩ v) p q n1 n2 A B xs ys l1 c l2 d :=
  ((h.1.set (a := ⟨r, 0, none⟩) hw hp hq u).set (a := ⟨r, 1, none⟩) hw hp hq v).all
theorem Duo.sa' (h : Duo w W p q n1 n2 A B xs ys l1 c l2 d ∧ X) : Sl .u32 W W.heap.size A xs := h.1.sa.more h.1.below.size
theorem Duo.sb' (h : Duo w W p q n1 n2 A B xs ys l1 c l2 d ∧ X) : Sl .u32 W W.heap.size B ys := h.1.sb.more h.1.below.size
/-- Both boxed. -/
theorem Duo.boxed (hr : Sl .u32 w w.heap.size A xs) (hs : Sl .u32 w w.heap.size B ys) :
    Duo w ((w.alloc (.cells #[.bool n1, .slice A l1 c] 49)).alloc (.cells #[.bool n2, .slice B l2 d] 49)) w.heap.size (w.heap.size + 1) n1 n2 A B xs ys l1 c l2 d := by
  refine ⟨by go_grown, by go_size, by go_size, ?_, ?_, by go_cell, by go_cell, by go_cell, by go_cell⟩
  · exact (hr.alloc (Nat.le_refl _) _).alloc (by go_size) _
  · exact (hs.alloc (Nat.le_refl _) _).alloc (by go_size) _
end

/-- Room for an answer. -/
structure Rest (W : World) (r : Nat) : Prop where
  lr : r < W.heap.size
  r0 : W.cell? ⟨r, 0, none⟩ = some (.bool false)
  r1 : W.cell? ⟨r, 1, none⟩ = some (.slice none 0 0)
  f0 : W.frozen? ⟨r, 0, none⟩ = false
  f1 : W.frozen? ⟨r, 1, none⟩ = false
theorem Rest.on {W W' : World} {r : Nat} (h : Rest W r) (hb : Below W.heap.size W W') : Rest W' r :=
  ⟨Nat.lt_of_lt_of_le h.lr hb.size, (hb.cell (p := ⟨r, 0, none⟩) h.lr).trans h.r0, (hb.cell (p := ⟨r, 1, none⟩) h.lr).trans h.r1, (hb.frozen (p := ⟨r, 0, none⟩) h.lr).trans h.f0, (hb.frozen (p := ⟨r, 1, none⟩) h.lr).trans h.f1⟩
theorem Rest.drew {W : World} {r : Nat} (h : Rest W r) : Rest W.drew r := ⟨h.lr, h.r0, h.r1, h.f0, h.f1⟩
theorem Rest.new (W : World) : Rest (W.alloc (.cells #[.bool false, .slice none 0 0] 49)) W.heap.size :=
  ⟨by simp, by go_cell, by go_cell, World.frozen?_alloc_new _ _ _ _, World.frozen?_alloc_new _ _ _ _⟩
/-- The answer is laid: what is there then. -/
theorem Rest.laid {w W : World} {r : Nat} {n : Bool} {V : Option Addr} {zs : List Nat} {e C : Nat} (h : Rest W r) (hb : Below w.heap.size w W) (hw : w.heap.size ≤ r) (hz : Bg W n V zs e C) :
    Bg ((W.setCell ⟨r, 0, none⟩ (.bool n)).setCell ⟨r, 1, none⟩ (.slice V zs.length e)) n V zs e C ∧ Below w.heap.size w ((W.setCell ⟨r, 0, none⟩ (.bool n)).setCell ⟨r, 1, none⟩ (.slice V zs.length e)) := by
  refine ⟨⟨?_, hz.dig, hz.norm, hz.sign, hz.len, hz.cap⟩, (hb.setCell hw _).setCell hw _⟩
  have h1 := (hz.sl.keepAtI h.r0 (by intro _ e; cases e) (.bool n))
  have h2 : (W.setCell ⟨r, 0, none⟩ (.bool n)).cell? ⟨r, 1, none⟩ = some (.slice none 0 0) := by rw [World.cell?_setCell_other _ _ _ _ (by simp)]; exact h.r1
  have h3 := h1.keepAtI h2 (by intro _ e; cases e) (.slice V zs.length e)
  simpa using h3

theorem qu_n (w : World) (n : Nat) : Qu w (w.drewN n) := ⟨n, rfl⟩
theorem Rest.qu {W W' : World} {r : Nat} (h : Rest W r) (q : Qu W W') : Rest W' r := by
  obtain ⟨n, rfl⟩ := q
  exact ⟨h.lr, h.r0, h.r1, h.f0, h.f1⟩

set_option maxHeartbeats 400000 in
theorem rsigned_any (neg : Bool) (A : Option Addr) (ls : List Nat) (c : Nat) (w : World) (hr : Sl .u32 w w.heap.size A ls) (hl : ls.length ≤ c) (hc : c ≤ maxLen) :
    Calls Try.prog 90 #[.bool neg, .slice A ls.length c] w fun e w' => ∃ A' c', e = .returned (big (neg && decide (0 < (trimL ls).length)) A' (trimL ls).length c') ∧
      (0 < (trimL ls).length ∧ A' = A ∧ c' = c ∨ (trimL ls).length = 0 ∧ A' = none ∧ c' = 0) ∧ Below w.heap.size w w' := by
  have hx := rtrim_any A ls c (w.alloc (.cells #[.bool false, .slice none 0 0] 49)) ((hr.alloc (Nat.le_refl _) _).more (by simp)) hl hc
  have HX := Lib.hid hx; clear hx
  unfold maxLen at hc
  have hln := trimL_len ls
  rcases hn : (trimL ls).length with _ | n
  · rw [hn] at HX
    go_enter Try.func90, Try.ntmps90
    go_wp2_with (go_at_call 108; refine (HX.out).mono ?_; rintro e w' ⟨rfl, rfl⟩)
    refine bodyPost_ret (v := big false none 0 0) (by simp [results, Try.results90, go_sem]) rfl ?_
    exact ⟨none, 0, by simp, by simp, by go_grown⟩
  · rw [hn] at HX
    have hn2 : n + 1 ≤ c := by omega
    clear hn hln hl
    go_enter Try.func90, Try.ntmps90
    go_wp2_with (go_at_call 108; refine (HX.out).mono ?_; rintro e w' ⟨rfl, rfl⟩)
    refine bodyPost_ret (v := big neg A (n + 1) c) (by simp [results, Try.results90, go_sem]) rfl ?_
    exact ⟨A, c, by simp, by simp, by go_grown⟩

theorem sgd_any (neg : Bool) (A : Option Addr) (ls : List Nat) (c : Nat) (w : World) (hr : Sl .u32 w w.heap.size A ls) (hd : Dig W32 ls) (hl : ls.length ≤ c) (hc : c ≤ maxLen) :
    Calls Try.prog 90 #[.bool neg, .slice A ls.length c] w fun e w' => ∃ A' c', e = .returned (big (neg && decide (0 < (trimL ls).length)) A' (trimL ls).length c') ∧ Bg w' (neg && decide (0 < (trimL ls).length)) A' (trimL ls) c' maxLen ∧ Below w.heap.size w w' :=
  (rsigned_any neg A ls c w hr hl hc).mono fun e w' ⟨A', c', he, hc2, hb⟩ => by
    have hln := trimL_len ls
    have hs := sl_trimL ((hr.below hb).more hb.size)
    refine ⟨A', c', he, ⟨?_, dig_trimL hd, norm_trimL _, sign_made, ?_, ?_⟩, hb⟩
    · rcases hc2 with ⟨_, rfl, _⟩ | ⟨h, _, _⟩
      · exact hs
      · rw [List.eq_nil_of_length_eq_zero h]; exact Sl.none_
    · rcases hc2 with ⟨_, _, rfl⟩ | ⟨h, _, rfl⟩ <;> omega
    · rcases hc2 with ⟨_, _, rfl⟩ | ⟨h, _, rfl⟩
      · exact hc
      · exact Nat.zero_le _
theorem sv_trim {neg : Bool} {zs : List Nat} : sv (neg && decide (0 < (trimL zs).length)) (val W32 (trimL zs)) = sv neg (val W32 zs) := by rw [sv_made, val_trimL]
/-- It answers this number, in no more limbs. -/
def Givl (w : World) (Z : Int) (L : Nat) (e : Ending) (w' : World) : Prop := ∃ (neg : Bool) (A : Option Addr) (zs : List Nat) (c : Nat), e = .returned (big neg A zs.length c) ∧ Bg w' neg A zs c maxLen ∧ sv neg (val W32 zs) = Z ∧ zs.length ≤ L ∧ Below w.heap.size w w'

set_option maxHeartbeats 4000000 in
theorem rplus_same (n : Bool) (A B : Option Addr) (xs ys : List Nat) (c d : Nat) (w : World) (hx : Sl .u32 w w.heap.size A xs) (hy : Sl .u32 w w.heap.size B ys) (dx : Dig W32 xs) (dy : Dig W32 ys) (hl : (max xs.length ys.length + 1) * 4 ≤ 140737488351232) :
    Calls Try.prog 50 #[big n A xs.length c, big n B ys.length d] w (Givl w (sv n (val W32 xs) + sv n (val W32 ys)) (max xs.length ys.length + 1)) := by
  have ht := Duo.boxed (n1 := n) (n2 := n) (l1 := xs.length) (c := c) (l2 := ys.length) (d := d) hx hy
  have hr := Rest.new ((w.alloc (.cells #[.bool n, .slice A xs.length c] 49)).alloc (.cells #[.bool n, .slice B ys.length d] 49))
  have hall := Duo.keep (W' := (((w.alloc (.cells #[.bool n, .slice A xs.length c] 49)).alloc (.cells #[.bool n, .slice B ys.length d] 49)).alloc (.cells #[.bool false, .slice none 0 0] 49))) (ht.all) (by go_grown)
  rw [show ((w.alloc (.cells #[.bool n, .slice A xs.length c] 49)).alloc (.cells #[.bool n, .slice B ys.length d] 49)).heap.size = w.heap.size + 1 + 1 by go_size] at hr
  clear ht
  go_enter Try.func50, Try.ntmps50
  go_wp2_with fail
  generalize hW : (((w.alloc (.cells #[.bool n, .slice A xs.length c] 49)).alloc (.cells #[.bool n, .slice B ys.length d] 49)).alloc (.cells #[.bool false, .slice none 0 0] 49)) = W at *
  clear hW
  go_region_held3 (fun W' => Duo w W' w.heap.size (w.heap.size + 1) n n A B xs ys xs.length c ys.length d ∧ W'.cell? ⟨w.heap.size, 0, none⟩ = some (.bool n) ∧ W'.cell? ⟨w.heap.size, 1, none⟩ = some (.slice A xs.length c) ∧ W'.cell? ⟨w.heap.size + 1, 0, none⟩ = some (.bool n) ∧ W'.cell? ⟨w.heap.size + 1, 1, none⟩ = some (.slice B ys.length d))
    (first | exact hall | exact Duo.keep hall ((Below.refl _ _).drew) | exact Duo.keep (by assumption) (by assumption) | exact Duo.keep (by assumption) ((Below.refl _ _).drew) | exact Duo.put (by assumption) (by omega) (by omega) (by omega) _ _)
    (first
      | (go_at_call 91; refine (radd_any A B xs ys c d (max xs.length ys.length) _ (Duo.sa' (by assumption)) (Duo.sb' (by assumption)) dx dy (by omega) (by omega) (by omega)).mono ?_; rintro e w' ⟨v, rfl, V, zs, k, rfl, hs1, hd1, hv1, hk1, hkm, hk2, hb⟩
         have hr1 := (Rest.drew hr).on hb
         have hw1 := (hall.1.below.drew).trans (hb.mono hall.1.below.size)
         have HV := Lib.hid hv1
         clear hv1)
      | (go_at_call 90; refine (sgd_any _ V zs k _ (by assumption) hd1 hk1 hkm).mono ?_; rintro e w2 ⟨V2, k2, rfl, hB2, hb2⟩
         have hr2 := hr1.on hb2
         have hw2 := hw1.trans (hb2.mono hw1.size)
         have g0 := hr2.r0
         have g1 := hr2.r1
         have g2 := hr2.f0
         have g3 := hr2.f1))
  have hL := hr2.laid hw2 (by omega) hB2
  have hln := trimL_len zs
  go_wp2
  refine bodyPost_ret (v := big (n && decide (0 < (trimL zs).length)) V2 (trimL zs).length k2) (by simp [results, Try.results50, go_sem, g0, g1]) rfl ⟨_, V2, trimL zs, k2, rfl, hL.1, ?_, by omega, hL.2⟩
  rw [sv_trim, HV.out]
  cases n <;> simp [sv] <;> omega

set_option maxHeartbeats 4000000 in
theorem rplus_more (n : Bool) (A B : Option Addr) (xs ys : List Nat) (c d : Nat) (w : World) (hx : Sl .u32 w w.heap.size A xs) (hy : Sl .u32 w w.heap.size B ys) (dx : Dig W32 xs) (dy : Dig W32 ys) (nx : Norm xs) (ny : Norm ys) (hge : val W32 ys ≤ val W32 xs) (hl : (max xs.length ys.length + 1) * 4 ≤ 140737488351232) :
    Calls Try.prog 50 #[big n A xs.length c, big (!n) B ys.length d] w (Givl w (sv n (val W32 xs) + sv (!n) (val W32 ys)) (max xs.length ys.length + 1)) := by
  have hlen := norm_len_le (B := W32) (by decide) ny dx hge
  have hnb : (n == !n) = false := by cases n <;> rfl
  have ht := Duo.boxed (n1 := n) (n2 := (!n)) (l1 := xs.length) (c := c) (l2 := ys.length) (d := d) hx hy
  have hr := Rest.new ((w.alloc (.cells #[.bool n, .slice A xs.length c] 49)).alloc (.cells #[.bool (!n), .slice B ys.length d] 49))
  have hall := Duo.keep (W' := (((w.alloc (.cells #[.bool n, .slice A xs.length c] 49)).alloc (.cells #[.bool (!n), .slice B ys.length d] 49)).alloc (.cells #[.bool false, .slice none 0 0] 49))) (ht.all) (by go_grown)
  rw [show ((w.alloc (.cells #[.bool n, .slice A xs.length c] 49)).alloc (.cells #[.bool (!n), .slice B ys.length d] 49)).heap.size = w.heap.size + 1 + 1 by go_size] at hr
  clear ht
  go_enter Try.func50, Try.ntmps50
  go_wp2_with fail
  generalize hW : (((w.alloc (.cells #[.bool n, .slice A xs.length c] 49)).alloc (.cells #[.bool (!n), .slice B ys.length d] 49)).alloc (.cells #[.bool false, .slice none 0 0] 49)) = W at *
  clear hW
  have hcmp := rcmp_any A B xs ys c d W (Duo.sa' hall) (Duo.sb' hall) dx dy nx ny (by omega) (by omega)
  have hz := cmpI_ge (x := (val W32 xs : Nat)) (y := (val W32 ys : Nat)) (by omega)
  generalize cmpI (val W32 xs : Nat) (val W32 ys : Nat) = z at *
  have HC := Lib.hid hcmp
  clear hcmp
  refine (HC.out).mono ?_
  rintro e W1 ⟨rfl, hq⟩
  have hall1 := Duo.keep hall (hq.below _)
  have hr0 := hr.qu hq
  clear hall hr
  obtain ⟨hall, hr⟩ := And.intro hall1 hr0
  clear hall1 hr0
  go_wp2_with fail
  go_region_held3 (fun W' => Duo w W' w.heap.size (w.heap.size + 1) n (!n) A B xs ys xs.length c ys.length d ∧ W'.cell? ⟨w.heap.size, 0, none⟩ = some (.bool n) ∧ W'.cell? ⟨w.heap.size, 1, none⟩ = some (.slice A xs.length c) ∧ W'.cell? ⟨w.heap.size + 1, 0, none⟩ = some (.bool (!n)) ∧ W'.cell? ⟨w.heap.size + 1, 1, none⟩ = some (.slice B ys.length d))
    (first | exact hall | exact Duo.keep hall ((Below.refl _ _).drew) | exact Duo.keep (by assumption) (by assumption) | exact Duo.keep (by assumption) ((Below.refl _ _).drew) | exact Duo.put (by assumption) (by omega) (by omega) (by omega) _ _)
    (first
      | (go_at_call 93; refine (rsub_any A B xs ys c d _ (Duo.sa' (by assumption)) (Duo.sb' (by assumption)) dx dy hge hlen (by omega)).mono ?_; rintro e w' ⟨v, rfl, V, zs, k, rfl, hs1, hd1, _, hv1, hk1, hkm, hk2, hb⟩
         have hr1 := (Rest.drew hr).on hb
         have hw1 := (hall.1.below.drew).trans (hb.mono hall.1.below.size)
         have HV := Lib.hid hv1
         clear hv1)
      | (go_at_call 90; refine (sgd_any _ V zs k _ (by assumption) hd1 hk1 hkm).mono ?_; rintro e w2 ⟨V2, k2, rfl, hB2, hb2⟩
         have hr2 := hr1.on hb2
         have hw2 := hw1.trans (hb2.mono hw1.size)
         have g0 := hr2.r0
         have g1 := hr2.r1
         have g2 := hr2.f0
         have g3 := hr2.f1))
  have hL := hr2.laid hw2 (by omega) hB2
  have hln := trimL_len zs
  go_wp2
  refine bodyPost_ret (v := big (n && decide (0 < (trimL zs).length)) V2 (trimL zs).length k2) (by simp [results, Try.results50, go_sem, g0, g1]) rfl ⟨_, V2, trimL zs, k2, rfl, hL.1, ?_, by omega, hL.2⟩
  rw [sv_trim, HV.out]
  cases n <;> simp [sv] <;> omega

set_option maxHeartbeats 4000000 in
theorem rplus_less (n : Bool) (A B : Option Addr) (xs ys : List Nat) (c d : Nat) (w : World) (hx : Sl .u32 w w.heap.size A xs) (hy : Sl .u32 w w.heap.size B ys) (dx : Dig W32 xs) (dy : Dig W32 ys) (nx : Norm xs) (ny : Norm ys) (hlt : val W32 xs < val W32 ys) (hl : (max xs.length ys.length + 1) * 4 ≤ 140737488351232) :
    Calls Try.prog 50 #[big n A xs.length c, big (!n) B ys.length d] w (Givl w (sv n (val W32 xs) + sv (!n) (val W32 ys)) (max xs.length ys.length + 1)) := by
  have hlen := norm_len_le (B := W32) (by decide) nx dy (Nat.le_of_lt hlt)
  have hnb : (n == !n) = false := by cases n <;> rfl
  have ht := Duo.boxed (n1 := n) (n2 := (!n)) (l1 := xs.length) (c := c) (l2 := ys.length) (d := d) hx hy
  have hr := Rest.new ((w.alloc (.cells #[.bool n, .slice A xs.length c] 49)).alloc (.cells #[.bool (!n), .slice B ys.length d] 49))
  have hall := Duo.keep (W' := (((w.alloc (.cells #[.bool n, .slice A xs.length c] 49)).alloc (.cells #[.bool (!n), .slice B ys.length d] 49)).alloc (.cells #[.bool false, .slice none 0 0] 49))) (ht.all) (by go_grown)
  rw [show ((w.alloc (.cells #[.bool n, .slice A xs.length c] 49)).alloc (.cells #[.bool (!n), .slice B ys.length d] 49)).heap.size = w.heap.size + 1 + 1 by go_size] at hr
  clear ht
  go_enter Try.func50, Try.ntmps50
  go_wp2_with fail
  generalize hW : (((w.alloc (.cells #[.bool n, .slice A xs.length c] 49)).alloc (.cells #[.bool (!n), .slice B ys.length d] 49)).alloc (.cells #[.bool false, .slice none 0 0] 49)) = W at *
  clear hW
  have hcmp := rcmp_any A B xs ys c d W (Duo.sa' hall) (Duo.sb' hall) dx dy nx ny (by omega) (by omega)
  rw [cmpI_lt (by omega)] at hcmp
  have HC := Lib.hid hcmp
  clear hcmp
  refine (HC.out).mono ?_
  rintro e W1 ⟨rfl, hq⟩
  have hall1 := Duo.keep hall (hq.below _)
  have hr0 := hr.qu hq
  clear hall hr
  obtain ⟨hall, hr⟩ := And.intro hall1 hr0
  clear hall1 hr0
  go_wp2_with fail
  go_region_held3 (fun W' => Duo w W' w.heap.size (w.heap.size + 1) n (!n) A B xs ys xs.length c ys.length d ∧ W'.cell? ⟨w.heap.size, 0, none⟩ = some (.bool n) ∧ W'.cell? ⟨w.heap.size, 1, none⟩ = some (.slice A xs.length c) ∧ W'.cell? ⟨w.heap.size + 1, 0, none⟩ = some (.bool (!n)) ∧ W'.cell? ⟨w.heap.size + 1, 1, none⟩ = some (.slice B ys.length d))
    (first | exact hall | exact Duo.keep hall ((Below.refl _ _).drew) | exact Duo.keep (by assumption) (by assumption) | exact Duo.keep (by assumption) ((Below.refl _ _).drew) | exact Duo.put (by assumption) (by omega) (by omega) (by omega) _ _)
    (first
      | (go_at_call 93; refine (rsub_any B A ys xs d c _ (Duo.sb' (by assumption)) (Duo.sa' (by assumption)) dy dx (Nat.le_of_lt hlt) hlen (by omega)).mono ?_; rintro e w' ⟨v, rfl, V, zs, k, rfl, hs1, hd1, _, hv1, hk1, hkm, hk2, hb⟩
         have hr1 := (Rest.drew hr).on hb
         have hw1 := (hall.1.below.drew).trans (hb.mono hall.1.below.size)
         have HV := Lib.hid hv1
         clear hv1)
      | (go_at_call 90; refine (sgd_any _ V zs k _ (by assumption) hd1 hk1 hkm).mono ?_; rintro e w2 ⟨V2, k2, rfl, hB2, hb2⟩
         have hr2 := hr1.on hb2
         have hw2 := hw1.trans (hb2.mono hw1.size)
         have g0 := hr2.r0
         have g1 := hr2.r1
         have g2 := hr2.f0
         have g3 := hr2.f1))
  have hL := hr2.laid hw2 (by omega) hB2
  have hln := trimL_len zs
  go_wp2
  refine bodyPost_ret (v := big ((!n) && decide (0 < (trimL zs).length)) V2 (trimL zs).length k2) (by simp [results, Try.results50, go_sem, g0, g1]) rfl ⟨_, V2, trimL zs, k2, rfl, hL.1, ?_, by omega, hL.2⟩
  rw [sv_trim, HV.out]
  cases n <;> simp [sv] <;> omega

theorem rplus_any (n1 n2 : Bool) (A B : Option Addr) (xs ys : List Nat) (c d : Nat) (w : World) (hx : Sl .u32 w w.heap.size A xs) (hy : Sl .u32 w w.heap.size B ys) (dx : Dig W32 xs) (dy : Dig W32 ys) (nx : Norm xs) (ny : Norm ys) (hl : (max xs.length ys.length + 1) * 4 ≤ 140737488351232) :
    Calls Try.prog 50 #[big n1 A xs.length c, big n2 B ys.length d] w (Givl w (sv n1 (val W32 xs) + sv n2 (val W32 ys)) (max xs.length ys.length + 1)) := by
  by_cases h : n1 = n2
  · subst h
    exact rplus_same n1 A B xs ys c d w hx hy dx dy hl
  · obtain rfl : n2 = !n1 := by cases n1 <;> cases n2 <;> simp_all
    by_cases hge : val W32 ys ≤ val W32 xs
    · exact rplus_more n1 A B xs ys c d w hx hy dx dy nx ny hge hl
    · exact rplus_less n1 A B xs ys c d w hx hy dx dy nx ny (by omega) hl
end Go.Proofs.Ytffjkfjokikhnaa.Rb
