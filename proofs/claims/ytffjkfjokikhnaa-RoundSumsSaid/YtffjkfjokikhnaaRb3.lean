/-
  What the document's own Turned, Size, Minus and Times return. Condition: that the numbers are numbers, and no longer than memory.
-/
import Derived.Test.YtffjkfjokikhnaaRb2
namespace Go.Proofs.Ytffjkfjokikhnaa.Rb
open Go.RowKit Nb

theorem trimL_norm {xs : List Nat} (h : Norm xs) : trimL xs = xs := by
  rcases List.eq_nil_or_concat xs with e | ⟨m, x, e⟩
  · subst e; rfl
  · subst e
    rw [List.concat_eq_append] at *
    have hx0 : x ≠ 0 := by simpa using h (by simp)
    exact trimL_snoc m hx0
set_option maxHeartbeats 1000000 in
theorem rturned_any (n : Bool) (A : Option Addr) (xs : List Nat) (c : Nat) (w : World) (hx : Bg w n A xs c maxLen) :
    Calls Try.prog 57 #[big n A xs.length c] w (Givl w (- sv n (val W32 xs)) xs.length) := by
  have hm : Hid (∀ W, Sl .u32 W W.heap.size A xs → Calls Try.prog 90 #[.bool !n, .slice A xs.length c] W fun e w' => ∃ A' c', e = .returned (big (!n && decide (0 < xs.length)) A' xs.length c') ∧ Bg w' (!n && decide (0 < xs.length)) A' xs c' maxLen ∧ Below W.heap.size W w') := Lib.hid (fun W h => by
    have := sgd_any (!n) A xs c W h hx.dig hx.len hx.cap
    rw [trimL_norm hx.norm] at this
    exact this)
  have hr := Rest.new (w.alloc (.cells #[.bool n, .slice A xs.length c] 49))
  rw [show (w.alloc (.cells #[.bool n, .slice A xs.length c] 49)).heap.size = w.heap.size + 1 by go_size] at hr
  have hb0 : Below w.heap.size w ((w.alloc (.cells #[.bool n, .slice A xs.length c] 49)).alloc (.cells #[.bool false, .slice none 0 0] 49)) := by go_grown
  have HSL := Lib.hid ((hx.sl.below hb0).more hb0.size)
  have HV : Hid (sv (!n && decide (0 < xs.length)) (val W32 xs) = - sv n (val W32 xs)) := Lib.hid (by rw [sv_made]; cases n <;> simp [sv])
  clear hx
  go_enter Try.func57, Try.ntmps57
  go_wp2_with fail
  refine (hm.out _ HSL.out).mono ?_
  rintro e w1 ⟨A', c', rfl, hB, hb1⟩
  have hr1 := hr.on hb1
  have hw1 := hb0.trans (hb1.mono hb0.size)
  have g0 := hr1.r0
  have g1 := hr1.r1
  have g2 := hr1.f0
  have g3 := hr1.f1
  have hL := hr1.laid hw1 (by omega) hB
  go_wp2
  refine bodyPost_ret (v := big (!n && decide (0 < xs.length)) A' xs.length c') (by simp [results, Try.results57, go_sem, g0, g1]) rfl ⟨_, A', xs, c', rfl, hL.1, HV.out, Nat.le_refl _, hL.2⟩

set_option maxHeartbeats 1000000 in
theorem rsize_any (n : Bool) (A : Option Addr) (xs : List Nat) (c : Nat) (w : World) (hx : Bg w n A xs c maxLen) :
    Calls Try.prog 58 #[big n A xs.length c] w fun e w' => ∃ A' c', e = .returned (big false A' xs.length c') ∧ Bg w' false A' xs c' maxLen ∧ Below w.heap.size w w' := by
  have hm : Hid (∀ W, Sl .u32 W W.heap.size A xs → Calls Try.prog 90 #[.bool false, .slice A xs.length c] W fun e w' => ∃ A' c', e = .returned (big false A' xs.length c') ∧ Bg w' false A' xs c' maxLen ∧ Below W.heap.size W w') := Lib.hid (fun W h => by
    have := sgd_any false A xs c W h hx.dig hx.len hx.cap
    rw [trimL_norm hx.norm] at this
    exact this)
  have hr := Rest.new (w.alloc (.cells #[.bool n, .slice A xs.length c] 49))
  rw [show (w.alloc (.cells #[.bool n, .slice A xs.length c] 49)).heap.size = w.heap.size + 1 by go_size] at hr
  have hb0 : Below w.heap.size w ((w.alloc (.cells #[.bool n, .slice A xs.length c] 49)).alloc (.cells #[.bool false, .slice none 0 0] 49)) := by go_grown
  have HSL := Lib.hid ((hx.sl.below hb0).more hb0.size)
  clear hx
  go_enter Try.func58, Try.ntmps58
  go_wp2_with fail
  refine (hm.out _ HSL.out).mono ?_
  rintro e w1 ⟨A', c', rfl, hB, hb1⟩
  have hr1 := hr.on hb1
  have hw1 := hb0.trans (hb1.mono hb0.size)
  have g0 := hr1.r0
  have g1 := hr1.r1
  have g2 := hr1.f0
  have g3 := hr1.f1
  have hL := hr1.laid hw1 (by omega) hB
  go_wp2
  refine bodyPost_ret (v := big false A' xs.length c') (by simp [results, Try.results58, go_sem, g0, g1]) rfl ⟨A', c', rfl, hL.1, hL.2⟩

set_option maxHeartbeats 4000000 in
theorem rminus_any (n1 n2 : Bool) (A B : Option Addr) (xs ys : List Nat) (c d : Nat) (w : World) (hx : Bg w n1 A xs c maxLen) (hy : Bg w n2 B ys d maxLen) (hl : (max xs.length ys.length + 1) * 4 ≤ 140737488351232) :
    Calls Try.prog 68 #[big n1 A xs.length c, big n2 B ys.length d] w (Givl w (sv n1 (val W32 xs) - sv n2 (val W32 ys)) (max xs.length ys.length + 1)) := by
  have ht := Duo.boxed (n1 := n1) (n2 := n2) (l1 := xs.length) (c := c) (l2 := ys.length) (d := d) hx.sl hy.sl
  have hr := Rest.new ((w.alloc (.cells #[.bool n1, .slice A xs.length c] 49)).alloc (.cells #[.bool n2, .slice B ys.length d] 49))
  have hall := Duo.keep (W' := (((w.alloc (.cells #[.bool n1, .slice A xs.length c] 49)).alloc (.cells #[.bool n2, .slice B ys.length d] 49)).alloc (.cells #[.bool false, .slice none 0 0] 49))) (ht.all) (by go_grown)
  rw [show ((w.alloc (.cells #[.bool n1, .slice A xs.length c] 49)).alloc (.cells #[.bool n2, .slice B ys.length d] 49)).heap.size = w.heap.size + 1 + 1 by go_size] at hr
  have HX := Lib.hid hx
  have HY := Lib.hid hy
  clear ht hx hy
  go_enter Try.func68, Try.ntmps68
  go_wp2_with fail
  generalize hW : (((w.alloc (.cells #[.bool n1, .slice A xs.length c] 49)).alloc (.cells #[.bool n2, .slice B ys.length d] 49)).alloc (.cells #[.bool false, .slice none 0 0] 49)) = W at *
  clear hW
  go_region_held3 (fun W' => Duo w W' w.heap.size (w.heap.size + 1) n1 n2 A B xs ys xs.length c ys.length d ∧ W'.cell? ⟨w.heap.size, 0, none⟩ = some (.bool n1) ∧ W'.cell? ⟨w.heap.size, 1, none⟩ = some (.slice A xs.length c) ∧ W'.cell? ⟨w.heap.size + 1, 0, none⟩ = some (.bool n2) ∧ W'.cell? ⟨w.heap.size + 1, 1, none⟩ = some (.slice B ys.length d))
    (first | exact hall | exact Duo.keep hall ((Below.refl _ _).drew) | exact Duo.keep (by assumption) (by assumption) | exact Duo.keep (by assumption) ((Below.refl _ _).drew) | exact Duo.put (by assumption) (by omega) (by omega) (by omega) _ _)
    (first
      | (go_at_call 57; refine (rturned_any n2 B ys d _ ⟨Duo.sb' (by assumption), HY.out.dig, HY.out.norm, HY.out.sign, HY.out.len, HY.out.cap⟩).mono ?_; rintro e w' ⟨n3, V, zs, k, rfl, hB1, hv1, hz1, hb⟩
         have hr1 := (Rest.drew hr).on hb
         have hw1 := (hall.1.below.drew).trans (hb.mono hall.1.below.size)
         have HV := Lib.hid hv1
         have HB1 := Lib.hid hB1
         clear hv1)
      | (go_at_call 50; refine (rplus_any n1 n3 A V xs zs c k _ (Duo.sa' (by assumption)) (HB1.out.sl) HX.out.dig HB1.out.dig HX.out.norm HB1.out.norm (by omega)).mono ?_; rintro e w2 ⟨n4, V2, us, k2, rfl, hB2, hv2, hz2, hb2⟩
         have HV2 := Lib.hid hv2
         clear hv2
         have hr2 := hr1.on hb2
         have hw2 := hw1.trans (hb2.mono hw1.size)
         have g0 := hr2.r0
         have g1 := hr2.r1
         have g2 := hr2.f0
         have g3 := hr2.f1))
  have hL := hr2.laid hw2 (by omega) hB2
  go_wp2
  refine bodyPost_ret (v := big n4 V2 us.length k2) (by simp [results, Try.results68, go_sem, g0, g1]) rfl ⟨n4, V2, us, k2, rfl, hL.1, ?_, by omega, hL.2⟩
  rw [HV2.out, HV.out]; omega

set_option maxHeartbeats 4000000 in
theorem rmuls_any (n1 n2 : Bool) (A B : Option Addr) (xs ys : List Nat) (c d : Nat) (w : World) (hx : Bg w n1 A xs c maxLen) (hy : Bg w n2 B ys d maxLen) (hl : (xs.length + ys.length) * 4 ≤ 140737488351232) :
    Calls Try.prog 55 #[big n1 A xs.length c, big n2 B ys.length d] w (Givl w (sv n1 (val W32 xs) * sv n2 (val W32 ys)) (xs.length + ys.length)) := by
  have ht := Duo.boxed (n1 := n1) (n2 := n2) (l1 := xs.length) (c := c) (l2 := ys.length) (d := d) hx.sl hy.sl
  have hr := Rest.new ((w.alloc (.cells #[.bool n1, .slice A xs.length c] 49)).alloc (.cells #[.bool n2, .slice B ys.length d] 49))
  have hall := Duo.keep (W' := (((w.alloc (.cells #[.bool n1, .slice A xs.length c] 49)).alloc (.cells #[.bool n2, .slice B ys.length d] 49)).alloc (.cells #[.bool false, .slice none 0 0] 49))) (ht.all) (by go_grown)
  rw [show ((w.alloc (.cells #[.bool n1, .slice A xs.length c] 49)).alloc (.cells #[.bool n2, .slice B ys.length d] 49)).heap.size = w.heap.size + 1 + 1 by go_size] at hr
  have hdx := hx.dig
  have hdy := hy.dig
  clear ht hx hy
  go_enter Try.func55, Try.ntmps55
  go_wp2_with fail
  generalize hW : (((w.alloc (.cells #[.bool n1, .slice A xs.length c] 49)).alloc (.cells #[.bool n2, .slice B ys.length d] 49)).alloc (.cells #[.bool false, .slice none 0 0] 49)) = W at *
  clear hW
  go_region_held3 (fun W' => Duo w W' w.heap.size (w.heap.size + 1) n1 n2 A B xs ys xs.length c ys.length d ∧ W'.cell? ⟨w.heap.size, 0, none⟩ = some (.bool n1) ∧ W'.cell? ⟨w.heap.size, 1, none⟩ = some (.slice A xs.length c) ∧ W'.cell? ⟨w.heap.size + 1, 0, none⟩ = some (.bool n2) ∧ W'.cell? ⟨w.heap.size + 1, 1, none⟩ = some (.slice B ys.length d))
    (first | exact hall | exact Duo.keep hall ((Below.refl _ _).drew) | exact Duo.keep (by assumption) (by assumption) | exact Duo.keep (by assumption) ((Below.refl _ _).drew) | exact Duo.put (by assumption) (by omega) (by omega) (by omega) _ _)
    (first
      | (go_at_call 96; refine (rmul_any A B xs ys c d _ (Duo.sa' (by assumption)) (Duo.sb' (by assumption)) hdx hdy hl).mono ?_; rintro e w' ⟨v, rfl, V, zs, k, rfl, hs1, hd1, hn1, hv1, hk1, hk2, hb⟩
         have hr1 := (Rest.drew hr).on hb
         have hw1 := (hall.1.below.drew).trans (hb.mono hall.1.below.size)
         have HV := Lib.hid hv1
         clear hv1)
      | (go_at_call 90; refine (sgd_any _ V zs k _ (by assumption) hd1 hk1 (by unfold maxLen; omega)).mono ?_; rintro e w2 ⟨V2, k2, rfl, hB2, hb2⟩
         have hr2 := hr1.on hb2
         have hw2 := hw1.trans (hb2.mono hw1.size)
         have g0 := hr2.r0
         have g1 := hr2.r1
         have g2 := hr2.f0
         have g3 := hr2.f1))
  have hL := hr2.laid hw2 (by omega) hB2
  have hln := trimL_len zs
  go_wp2
  refine bodyPost_ret (v := big ((!(n1 == n2)) && decide (0 < (trimL zs).length)) V2 (trimL zs).length k2) (by simp [results, Try.results55, go_sem, g0, g1]) rfl ⟨_, V2, trimL zs, k2, rfl, hL.1, ?_, by omega, hL.2⟩
  rw [sv_trim, HV.out, Nat.mul_comm]
  cases n1 <;> cases n2 <;> simp [sv, Int.neg_mul, Int.mul_neg]
end Go.Proofs.Ytffjkfjokikhnaa.Rb
