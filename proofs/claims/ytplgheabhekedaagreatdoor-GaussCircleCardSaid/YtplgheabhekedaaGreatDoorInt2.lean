/-
  What large.Int.Add, Neg and Sub return. No conditions but that the numbers are numbers, and no longer than memory.
-/
import Derived.Test.YtplgheabhekedaaGreatDoorInt
namespace Go.Proofs.YtplgheabhekedaaGreatDoor
open Go.RowKit Nb

section
variable {w W W' : World} {p q r : Nat} {n1 n2 : Bool} {A B : Option Addr} {xs ys : List Nat} {l1 c l2 d : Nat} {X : Prop}
theorem Duo.swap (h : Duo w W p q n1 n2 A B xs ys l1 c l2 d) (hp : w.heap.size ≤ p) (hq : w.heap.size ≤ q) (hne : p ≠ q) :
    Duo w ((((W.setCell ⟨p, 0, none⟩ (.bool n2)).setCell ⟨p, 1, none⟩ (.slice B l2 d)).setCell ⟨q, 0, none⟩ (.bool n1)).setCell ⟨q, 1, none⟩ (.slice A l1 c)) p q n2 n1 B A ys xs l2 d l1 c := by
  have c1 : ∀ (W : World) (a b : Addr) (u : Value), a ≠ b → (W.setCell a u).cell? b = W.cell? b := fun W a b u hab => World.cell?_setCell_other W a b u hab
  have s1 : ∀ (W : World) (a : Addr) (u v : Value), W.cell? a = some v → (W.setCell a u).cell? a = some u := fun W a u v hv => World.cell?_setCell_same W a u hv
  refine ⟨(((h.below.setCell hp _).setCell hp _).setCell hq _).setCell hq _, by simpa using h.lp, by simpa using h.lq, (((h.sb.setCell hp _).setCell hp _).setCell hq _).setCell hq _, (((h.sa.setCell hp _).setCell hp _).setCell hq _).setCell hq _, ?_, ?_, ?_, ?_⟩
  · rw [c1 _ _ _ _ (by first | (simp; done) | (simp; omega)), c1 _ _ _ _ (by first | (simp; done) | (simp; omega)), c1 _ _ _ _ (by simp)]; exact s1 _ _ _ _ h.a0
  · rw [c1 _ _ _ _ (by first | (simp; done) | (simp; omega)), c1 _ _ _ _ (by first | (simp; done) | (simp; omega))]; exact s1 _ _ _ _ ((c1 _ _ _ _ (by simp)).trans h.a1)
  · rw [c1 _ _ _ _ (by simp)]; exact s1 _ _ _ _ (((c1 _ _ _ _ (by first | (simp; done) | (simp; omega))).trans (c1 _ _ _ _ (by first | (simp; done) | (simp; omega)))).trans h.b0)
  · exact s1 _ _ _ _ ((((c1 _ _ _ _ (by simp)).trans (c1 _ _ _ _ (by first | (simp; done) | (simp; omega)))).trans (c1 _ _ _ _ (by first | (simp; done) | (simp; omega)))).trans h.b1)
end
theorem Rest.set {W : World} {r : Nat} (h : Rest W r) {a : Addr} (hne : a.block ≠ r) (u : Value) : Rest (W.setCell a u) r :=
  ⟨by simpa using h.lr, (World.cell?_setCell_other _ _ _ _ (fun e => hne (by rw [e]))).trans h.r0, (World.cell?_setCell_other _ _ _ _ (fun e => hne (by rw [e]))).trans h.r1,
   (World.frozen?_of_block (w := W) (Below.heap_setCell W a u r (Ne.symm hne))).trans h.f0, (World.frozen?_of_block (w := W) (Below.heap_setCell W a u r (Ne.symm hne))).trans h.f1⟩
theorem qu_n (w : World) (n : Nat) : Qu w (w.drewN n) := ⟨n, rfl⟩
theorem Rest.qu {W W' : World} {r : Nat} (h : Rest W r) (q : Qu W W') : Rest W' r := by
  obtain ⟨n, rfl⟩ := q
  exact ⟨h.lr, h.r0, h.r1, h.f0, h.f1⟩

set_option maxHeartbeats 4000000 in
theorem ladd_same (n : Bool) (A B : Option Addr) (xs ys : List Nat) (c d : Nat) (w : World) (hx : Sl .u64 w w.heap.size A xs) (hy : Sl .u64 w w.heap.size B ys) (dx : Dig W64 xs) (dy : Dig W64 ys) (hl : (xs.length + 1) * 8 ≤ 140737488351232) (hk : (ys.length + 1) * 8 ≤ 140737488351232) :
    Calls Tryz.prog 130 #[big n A xs.length c, big n B ys.length d] w (Gives w (sv n (val W64 xs) + sv n (val W64 ys)) (max xs.length ys.length + 1)) := by
  have ht := Duo.boxed (n1 := n) (n2 := n) (l1 := xs.length) (c := c) (l2 := ys.length) (d := d) hx hy
  have hr := Rest.new ((w.alloc (.cells #[.bool n, .slice A xs.length c] 85)).alloc (.cells #[.bool n, .slice B ys.length d] 85))
  have hall := Duo.keep (W' := (((w.alloc (.cells #[.bool n, .slice A xs.length c] 85)).alloc (.cells #[.bool n, .slice B ys.length d] 85)).alloc (.cells #[.bool false, .slice none 0 0] 85))) (ht.all) (by go_grown)
  rw [show ((w.alloc (.cells #[.bool n, .slice A xs.length c] 85)).alloc (.cells #[.bool n, .slice B ys.length d] 85)).heap.size = w.heap.size + 1 + 1 by go_size] at hr
  clear ht
  go_enter Tryz.func130, Tryz.ntmps130
  go_wp2_with fail
  generalize hW : (((w.alloc (.cells #[.bool n, .slice A xs.length c] 85)).alloc (.cells #[.bool n, .slice B ys.length d] 85)).alloc (.cells #[.bool false, .slice none 0 0] 85)) = W at *
  clear hW
  go_region_held3 (fun W' => Duo w W' w.heap.size (w.heap.size + 1) n n A B xs ys xs.length c ys.length d ∧ W'.cell? ⟨w.heap.size, 0, none⟩ = some (.bool n) ∧ W'.cell? ⟨w.heap.size, 1, none⟩ = some (.slice A xs.length c) ∧ W'.cell? ⟨w.heap.size + 1, 0, none⟩ = some (.bool n) ∧ W'.cell? ⟨w.heap.size + 1, 1, none⟩ = some (.slice B ys.length d))
    (first | exact hall | exact Duo.keep hall ((Below.refl _ _).drew) | exact Duo.keep (by assumption) (by assumption) | exact Duo.keep (by assumption) ((Below.refl _ _).drew) | exact Duo.put (by assumption) (by omega) (by omega) (by omega) _ _)
    (first
      | (go_at_call 156; refine (sum_any A B xs ys c d _ (Duo.sa' (by assumption)) (Duo.sb' (by assumption)) dx dy hl hk).mono ?_; rintro e w' ⟨V, zs, k, rfl, hs1, hd1, hn1, hv1, hk1, hk2, hb⟩
         have hr1 := (Rest.drew hr).on hb
         have hw1 := (hall.1.below.drew).trans (hb.mono hall.1.below.size))
      | (go_at_call 146; refine (made_any _ V zs.length k _ (by unfold maxLen; omega)).mono ?_; rintro e w2 ⟨rfl, hb2⟩
         have hr2 := hr1.on hb2
         have hw2 := hw1.trans (hb2.mono hw1.size)
         have g0 := hr2.r0
         have g1 := hr2.r1
         have g2 := hr2.f0
         have g3 := hr2.f1))
  have hB : Bg w2 (n && decide (0 < zs.length)) V zs k (max xs.length ys.length + 1) := ⟨(hs1.below hb2).more hb2.size, hd1, hn1, sign_made, hk1, by omega⟩
  have hL := hr2.laid hw2 (by omega) hB
  go_wp2
  refine bodyPost_ret (v := big (n && decide (0 < zs.length)) V zs.length k) (by simp [results, Tryz.results130, go_sem, g0, g1]) rfl ⟨_, V, zs, k, rfl, hL.1, ?_, hL.2⟩
  rw [sv_made, hv1]
  cases n <;> simp [sv] <;> omega

set_option maxHeartbeats 4000000 in
theorem ladd_more (n : Bool) (A B : Option Addr) (xs ys : List Nat) (c d : Nat) (w : World) (hx : Sl .u64 w w.heap.size A xs) (hy : Sl .u64 w w.heap.size B ys) (dx : Dig W64 xs) (dy : Dig W64 ys) (nx : Norm xs) (ny : Norm ys) (hl : (xs.length + 1) * 8 ≤ 140737488351232) (hk : (ys.length + 1) * 8 ≤ 140737488351232) (hge : val W64 ys ≤ val W64 xs) :
    Calls Tryz.prog 130 #[big n A xs.length c, big (!n) B ys.length d] w (Gives w (sv n (val W64 xs) + sv (!n) (val W64 ys)) (max xs.length ys.length + 1)) := by
  have hlen := norm_len_le (B := W64) (by decide) ny dx hge
  have hnb : (n == !n) = false := by cases n <;> rfl
  have ht := Duo.boxed (n1 := n) (n2 := (!n)) (l1 := xs.length) (c := c) (l2 := ys.length) (d := d) hx hy
  have hr := Rest.new ((w.alloc (.cells #[.bool n, .slice A xs.length c] 85)).alloc (.cells #[.bool (!n), .slice B ys.length d] 85))
  have hall := Duo.keep (W' := (((w.alloc (.cells #[.bool n, .slice A xs.length c] 85)).alloc (.cells #[.bool (!n), .slice B ys.length d] 85)).alloc (.cells #[.bool false, .slice none 0 0] 85))) (ht.all) (by go_grown)
  rw [show ((w.alloc (.cells #[.bool n, .slice A xs.length c] 85)).alloc (.cells #[.bool (!n), .slice B ys.length d] 85)).heap.size = w.heap.size + 1 + 1 by go_size] at hr
  clear ht
  go_enter Tryz.func130, Tryz.ntmps130
  go_wp2_with fail
  generalize hW : (((w.alloc (.cells #[.bool n, .slice A xs.length c] 85)).alloc (.cells #[.bool (!n), .slice B ys.length d] 85)).alloc (.cells #[.bool false, .slice none 0 0] 85)) = W at *
  clear hW
  have hcmp := compare_any A B xs ys c d W (Duo.sa' hall) (Duo.sb' hall) dx dy nx ny (by omega) (by omega)
  have hz := cmpI_ge (x := (val W64 xs : Nat)) (y := (val W64 ys : Nat)) (by omega)
  generalize cmpI (val W64 xs : Nat) (val W64 ys : Nat) = z at *
  have HC := Lib.hid hcmp
  clear hcmp
  refine (HC.out).mono ?_
  rintro e W1 ⟨rfl, hq⟩
  have hall1 := Duo.keep hall (hq.below _)
  have hr0 := hr.qu hq
  clear hall hr
  obtain ⟨hall, hr⟩ := And.intro hall1 hr0
  clear hall1 hr0
  go_wp2_with fail
  go_region_held3 (fun W' => Duo w W' w.heap.size (w.heap.size + 1) n (!n) A B xs ys xs.length c ys.length d ∧ W'.cell? ⟨w.heap.size, 0, none⟩ = some (.bool n) ∧ W'.cell? ⟨w.heap.size, 1, none⟩ = some (.slice A xs.length c) ∧ W'.cell? ⟨w.heap.size + 1, 0, none⟩ = some (.bool (!n)) ∧ W'.cell? ⟨w.heap.size + 1, 1, none⟩ = some (.slice B ys.length d))
    (first | exact hall | exact Duo.keep hall ((Below.refl _ _).drew) | exact Duo.keep (by assumption) (by assumption) | exact Duo.keep (by assumption) ((Below.refl _ _).drew) | exact Duo.put (by assumption) (by omega) (by omega) (by omega) _ _)
    (first
      | (go_at_call 157; refine (difference_any A B xs ys c d _ (Duo.sa' (by assumption)) (Duo.sb' (by assumption)) dx dy (by omega) hlen hge).mono ?_; rintro e w' ⟨V, zs, k, rfl, hs1, hd1, hn1, hv1, hk1, hk2, hb⟩
         have hr1 := (Rest.drew hr).on hb
         have hw1 := (hall.1.below.drew).trans (hb.mono hall.1.below.size))
      | (go_at_call 146; refine (made_any _ V zs.length k _ (by unfold maxLen; omega)).mono ?_; rintro e w2 ⟨rfl, hb2⟩
         have hr2 := hr1.on hb2
         have hw2 := hw1.trans (hb2.mono hw1.size)
         have g0 := hr2.r0
         have g1 := hr2.r1
         have g2 := hr2.f0
         have g3 := hr2.f1))
  have hB : Bg w2 (n && decide (0 < zs.length)) V zs k (max xs.length ys.length + 1) := ⟨(hs1.below hb2).more hb2.size, hd1, hn1, sign_made, hk1, by omega⟩
  have hL := hr2.laid hw2 (by omega) hB
  go_wp2
  refine bodyPost_ret (v := big (n && decide (0 < zs.length)) V zs.length k) (by simp [results, Tryz.results130, go_sem, g0, g1]) rfl ⟨_, V, zs, k, rfl, hL.1, ?_, hL.2⟩
  rw [sv_made, hv1]
  cases n <;> simp [sv] <;> omega

set_option maxHeartbeats 4000000 in
theorem ladd_less (n : Bool) (A B : Option Addr) (xs ys : List Nat) (c d : Nat) (w : World) (hx : Sl .u64 w w.heap.size A xs) (hy : Sl .u64 w w.heap.size B ys) (dx : Dig W64 xs) (dy : Dig W64 ys) (nx : Norm xs) (ny : Norm ys) (hl : (xs.length + 1) * 8 ≤ 140737488351232) (hk : (ys.length + 1) * 8 ≤ 140737488351232) (hlt : val W64 xs < val W64 ys) :
    Calls Tryz.prog 130 #[big n A xs.length c, big (!n) B ys.length d] w (Gives w (sv n (val W64 xs) + sv (!n) (val W64 ys)) (max xs.length ys.length + 1)) := by
  have hlen := norm_len_le (B := W64) (by decide) nx dy (Nat.le_of_lt hlt)
  have hnb : (n == !n) = false := by cases n <;> rfl
  have ht := Duo.boxed (n1 := n) (n2 := (!n)) (l1 := xs.length) (c := c) (l2 := ys.length) (d := d) hx hy
  have hall := Duo.keep (W' := (((w.alloc (.cells #[.bool n, .slice A xs.length c] 85)).alloc (.cells #[.bool (!n), .slice B ys.length d] 85)).alloc (.cells #[.bool false, .slice none 0 0] 85))) (ht.all) (by go_grown)
  have hcmp := compare_any A B xs ys c d (((w.alloc (.cells #[.bool n, .slice A xs.length c] 85)).alloc (.cells #[.bool (!n), .slice B ys.length d] 85)).alloc (.cells #[.bool false, .slice none 0 0] 85)) (Duo.sa' hall) (Duo.sb' hall) dx dy nx ny (by omega) (by omega)
  rw [cmpI_lt (by omega)] at hcmp
  have HC := Lib.hid hcmp
  have hr := Rest.new ((w.alloc (.cells #[.bool n, .slice A xs.length c] 85)).alloc (.cells #[.bool (!n), .slice B ys.length d] 85))
  rw [show ((w.alloc (.cells #[.bool n, .slice A xs.length c] 85)).alloc (.cells #[.bool (!n), .slice B ys.length d] 85)).heap.size = w.heap.size + 1 + 1 by go_size] at hr
  have HALL := Lib.hid hall
  have HR := Lib.hid hr
  clear hcmp hall ht hr
  go_enter Tryz.func130, Tryz.ntmps130
  go_wp2_with fail
  refine (HC.out).mono ?_
  rintro e W1 ⟨rfl, nq, rfl⟩
  have hsw := (Duo.keep HALL.out ((qu_n _ nq).below _)).1.swap (Nat.le_refl _) (by omega) (by omega)
  have hr := ((((HR.out.qu (qu_n _ nq)).set (a := ⟨w.heap.size, 0, none⟩) (by simp; omega) (.bool (!n))).set (a := ⟨w.heap.size, 1, none⟩) (by simp; omega) (.slice B ys.length d)).set (a := ⟨w.heap.size + 1, 0, none⟩) (by simp) (.bool n)).set (a := ⟨w.heap.size + 1, 1, none⟩) (by simp) (.slice A xs.length c)
  have hall := hsw.all
  have HALL2 := Lib.hid hall
  have HR2 := Lib.hid hr
  clear hsw hall hr
  go_wp2_with fail
  generalize hW : (((((((w.alloc (.cells #[.bool n, .slice A xs.length c] 85)).alloc (.cells #[.bool (!n), .slice B ys.length d] 85)).alloc (.cells #[.bool false, .slice none 0 0] 85)).drewN nq).setCell ⟨w.heap.size, 0, none⟩ (.bool (!n))).setCell ⟨w.heap.size, 1, none⟩ (.slice B ys.length d)).setCell ⟨w.heap.size + 1, 0, none⟩ (.bool n)).setCell ⟨w.heap.size + 1, 1, none⟩ (.slice A xs.length c) = W at *
  clear hW
  have hall := HALL2.out
  have hr := HR2.out
  go_region_held3 (fun W' => Duo w W' w.heap.size (w.heap.size + 1) (!n) n B A ys xs ys.length d xs.length c ∧ W'.cell? ⟨w.heap.size, 0, none⟩ = some (.bool (!n)) ∧ W'.cell? ⟨w.heap.size, 1, none⟩ = some (.slice B ys.length d) ∧ W'.cell? ⟨w.heap.size + 1, 0, none⟩ = some (.bool n) ∧ W'.cell? ⟨w.heap.size + 1, 1, none⟩ = some (.slice A xs.length c))
    (first | exact hall | exact Duo.keep hall ((Below.refl _ _).drew) | exact Duo.keep (by assumption) (by assumption) | exact Duo.keep (by assumption) ((Below.refl _ _).drew) | exact Duo.put (by assumption) (by omega) (by omega) (by omega) _ _)
    (first
      | (go_at_call 157; refine (difference_any B A ys xs d c _ (Duo.sa' (by assumption)) (Duo.sb' (by assumption)) dy dx (by omega) hlen (Nat.le_of_lt hlt)).mono ?_; rintro e w' ⟨V, zs, k, rfl, hs1, hd1, hn1, hv1, hk1, hk2, hb⟩
         have hr1 := (Rest.drew hr).on hb
         have hw1 := (hall.1.below.drew).trans (hb.mono hall.1.below.size))
      | (go_at_call 146; refine (made_any _ V zs.length k _ (by unfold maxLen; omega)).mono ?_; rintro e w2 ⟨rfl, hb2⟩
         have hr2 := hr1.on hb2
         have hw2 := hw1.trans (hb2.mono hw1.size)
         have g0 := hr2.r0
         have g1 := hr2.r1
         have g2 := hr2.f0
         have g3 := hr2.f1))
  have hB : Bg w2 ((!n) && decide (0 < zs.length)) V zs k (max xs.length ys.length + 1) := ⟨(hs1.below hb2).more hb2.size, hd1, hn1, sign_made, hk1, by omega⟩
  have hL := hr2.laid hw2 (by omega) hB
  go_wp2
  refine bodyPost_ret (v := big ((!n) && decide (0 < zs.length)) V zs.length k) (by simp [results, Tryz.results130, go_sem, g0, g1]) rfl ⟨_, V, zs, k, rfl, hL.1, ?_, hL.2⟩
  rw [sv_made, hv1]
  cases n <;> simp [sv] <;> omega

theorem ladd_any (n1 n2 : Bool) (A B : Option Addr) (xs ys : List Nat) (c d : Nat) (w : World) (hx : Sl .u64 w w.heap.size A xs) (hy : Sl .u64 w w.heap.size B ys) (dx : Dig W64 xs) (dy : Dig W64 ys) (nx : Norm xs) (ny : Norm ys) (hl : (xs.length + 1) * 8 ≤ 140737488351232) (hk : (ys.length + 1) * 8 ≤ 140737488351232) :
    Calls Tryz.prog 130 #[big n1 A xs.length c, big n2 B ys.length d] w (Gives w (sv n1 (val W64 xs) + sv n2 (val W64 ys)) (max xs.length ys.length + 1)) := by
  by_cases h : n1 = n2
  · subst h
    exact ladd_same n1 A B xs ys c d w hx hy dx dy hl hk
  · obtain rfl : n2 = !n1 := by cases n1 <;> cases n2 <;> simp_all
    by_cases hge : val W64 ys ≤ val W64 xs
    · exact ladd_more n1 A B xs ys c d w hx hy dx dy nx ny hl hk hge
    · exact ladd_less n1 A B xs ys c d w hx hy dx dy nx ny hl hk (by omega)

set_option maxHeartbeats 1000000 in
theorem lneg_any (n : Bool) (A : Option Addr) (xs : List Nat) (c C : Nat) (w : World) (hx : Bg w n A xs c C) (hl : xs.length * 8 ≤ 140737488351232) :
    Calls Tryz.prog 131 #[big n A xs.length c] w fun e w' => e = .returned (big (!n && decide (0 < xs.length)) A xs.length c) ∧ Bg w' (!n && decide (0 < xs.length)) A xs c C ∧ Below w.heap.size w w' := by
  have hm := fun W => made_any (!n) A xs.length c W (by unfold maxLen; omega)
  have hr := Rest.new (w.alloc (.cells #[.bool n, .slice A xs.length c] 85))
  rw [show (w.alloc (.cells #[.bool n, .slice A xs.length c] 85)).heap.size = w.heap.size + 1 by go_size] at hr
  have HR := Lib.hid hr
  have HM := Lib.hid hm
  clear hr hm
  go_enter Tryz.func131, Tryz.ntmps131
  go_wp2_with fail
  have hb0 : Below w.heap.size w ((w.alloc (.cells #[.bool n, .slice A xs.length c] 85)).alloc (.cells #[.bool false, .slice none 0 0] 85)) := by go_grown
  generalize hW : ((w.alloc (.cells #[.bool n, .slice A xs.length c] 85)).alloc (.cells #[.bool false, .slice none 0 0] 85)) = W at *
  clear hW
  refine (HM.out _).mono ?_
  rintro e w2 ⟨rfl, hb⟩
  have hr2 := (HR.out).on hb
  have g0 := hr2.r0
  have g1 := hr2.r1
  have g2 := hr2.f0
  have g3 := hr2.f1
  have hb2 := hb0.trans (hb.mono hb0.size)
  have hB : Bg w2 (!n && decide (0 < xs.length)) A xs c C := ⟨(hx.sl.below hb2).more hb2.size, hx.dig, hx.norm, sign_made, hx.len, hx.cap⟩
  have hL := hr2.laid hb2 (by omega) hB
  go_wp2
  exact bodyPost_ret (v := big (!n && decide (0 < xs.length)) A xs.length c) (by simp [results, Tryz.results131, go_sem, g0, g1]) rfl ⟨rfl, hL.1, hL.2⟩
end Go.Proofs.YtplgheabhekedaaGreatDoor
