/-
  What large's shift and whole.Shift return, up and down, of any number that may be: no other conditions than that the shift's count is at most 4096.
-/
import Derived.Test.YtchfnkfdopbflaaDoorShs
import Derived.Test.YtchfnkfdopbflaaDoorInt3
import Derived.Deep.RegionHeld3
import Derived.Test.YtchfnkfdopbflaaDoorFix
namespace Go.Proofs.YtchfnkfdopbflaaDoor
open Go.RowKit Nb
set_option linter.unusedSimpArgs false

theorem sv_shl (n : Bool) (v k : Nat) : sv n (v * 2 ^ k) = sv n v * 2 ^ k := by
  have h : ((v * 2 ^ k : Nat) : Int) = (v : Int) * 2 ^ k := by rw [Int.natCast_mul, Int.natCast_pow]; rfl
  cases n
  · exact h
  · show -((v * 2 ^ k : Nat) : Int) = -(v : Int) * 2 ^ k
    rw [h, Int.neg_mul]
theorem sv_shr_pos (v k : Nat) : sv false (v / 2 ^ k) = sv false v / 2 ^ k := by
  show ((v / 2 ^ k : Nat) : Int) = (v : Int) / 2 ^ k
  rw [Int.natCast_ediv, Int.natCast_pow]; rfl
theorem sv_shr_neg {v : Nat} (k : Nat) (hv : 0 < v) : sv true ((v - 1) / 2 ^ k + 1) = sv true v / 2 ^ k := by
  obtain ⟨u, rfl⟩ : ∃ u, v = u + 1 := ⟨v - 1, by omega⟩
  show -(((u + 1 - 1) / 2 ^ k + 1 : Nat) : Int) = -((u + 1 : Nat) : Int) / 2 ^ k
  have hp : (0 : Int) < 2 ^ k := Int.pow_pos (by decide)
  have h : -((u : Int) + 1) / 2 ^ k = -((u : Int) / 2 ^ k + 1) := by
    have h1 := Int.negSucc_ediv u hp
    rw [Int.negSucc_eq] at h1
    exact h1
  have e : ((u / 2 ^ k : Nat) : Int) = (u : Int) / 2 ^ k := by rw [Int.natCast_ediv, Int.natCast_pow]; rfl
  rw [Nat.add_sub_cancel, Int.natCast_add, e, Int.natCast_add]
  exact h.symm

set_option maxHeartbeats 4000000 in
set_option maxRecDepth 20000 in
theorem lshift_up (neg : Bool) (A : Option Addr) (xs : List Nat) (c n C : Nat) (w : World) (hx : Sl .u64 w w.heap.size A xs) (dx : Dig W64 xs) (hn : n ≤ 9223372036854775807)
    (hm : 0 < xs.length → (xs.length + n / 64 + 1) * 8 ≤ 140737488351232) (hC : 0 < xs.length → xs.length + n / 64 + 1 ≤ C) (hC2 : C ≤ 17592186043904) :
    Calls Tryd.prog 59 #[big neg A xs.length c, .int .i64 n] w (Gives w (sv neg (val W64 xs) * 2 ^ n) C) := by
  have hU : ∀ W : World, Sl .u64 W W.heap.size A xs → Calls Tryd.prog 89 #[.slice A xs.length c, .int .u64 n] W (Words W (val W64 xs * 2 ^ n) C) := fun W h => by
    rcases Nat.eq_zero_or_pos xs.length with h0 | h0
    · have e : xs = [] := List.eq_nil_of_length_eq_zero h0
      subst e
      simp only [val_nil, Nat.zero_mul]
      exact (shiftUp_nil n c A W).mono fun _ _ h => h.mono (Nat.zero_le _)
    · exact (shiftUp_pos A xs c n W h dx h0 (by simp only [W64]; omega) (hm h0)).mono fun _ _ h => h.mono (hC h0)
  have HU := Lib.hid hU
  have hlen : xs.length ≤ 17592186043904 := by
    rcases Nat.eq_zero_or_pos xs.length with h0 | h0
    · omega
    · have := hm h0; omega
  have hni : (0 : Int) ≤ (n : Int) := by omega
  have hni2 : (n : Int) ≤ 9223372036854775807 := by omega
  have hwr : IntKind.u64.wrap (n : Int) = (n : Int) := by rw [IntKind.wrap_u64]; omega
  clear hU hm hC
  have hb0 : Below w.heap.size w ((w.alloc (.cells #[.bool neg, .slice A xs.length c] 58)).alloc (.cells #[.bool false, .slice none 0 0] 58)) := by go_grown
  have hre := Rest.new (w.alloc (.cells #[.bool neg, .slice A xs.length c] 58))
  rw [World.size_alloc] at hre
  have c0 : ((w.alloc (.cells #[.bool neg, .slice A xs.length c] 58)).alloc (.cells #[.bool false, .slice none 0 0] 58)).cell? ⟨w.heap.size, 0, none⟩ = some (.bool neg) := by go_cell
  have c1 : ((w.alloc (.cells #[.bool neg, .slice A xs.length c] 58)).alloc (.cells #[.bool false, .slice none 0 0] 58)).cell? ⟨w.heap.size, 1, none⟩ = some (.slice A xs.length c) := by go_cell
  have hz : ((w.alloc (.cells #[.bool neg, .slice A xs.length c] 58)).alloc (.cells #[.bool false, .slice none 0 0] 58)).heap.size = w.heap.size + 1 + 1 := by go_size
  have hs := hx.below hb0
  go_enter Tryd.func59, Tryd.ntmps59
  go_wp2_with fail
  generalize ((w.alloc (.cells #[.bool neg, .slice A xs.length c] 58)).alloc (.cells #[.bool false, .slice none 0 0] 58)) = W at *
  have HZ := Lib.hid hz
  clear hz hx
  have hlt : w.heap.size < W.heap.size := by have := HZ.out; omega
  refine wp_region_noPanic ?_
  have B0 : Below W.heap.size W W.drew := (Below.refl _ _).drew
  refine wp_region_held_drew (S := (fun wx => wx.cell? ⟨w.heap.size, 0, none⟩ = some (.bool neg) ∧ wx.cell? ⟨w.heap.size, 1, none⟩ = some (.slice A xs.length c))) (by kernel_rfl) ⟨((B0).cell (p := ⟨w.heap.size, 0, none⟩) hlt).trans c0, ((B0).cell (p := ⟨w.heap.size, 1, none⟩) hlt).trans c1⟩ (fun hHeld => ?_)
  generalize W.drew = Vd at *
  refine wpAnyH_take (i := 0) (v := ?_) (by (simp only [List.getElem?_toArray, List.getElem?_cons_succ, List.getElem?_cons_zero]; rfl)) (by kernel_rfl) (by kernel_rfl) (by kernel_rfl) (fun _ _ _ h => h) (Or.inl ⟨by rfl, ?_⟩) (by assumption) ?_
  rotate_left
  · intro wt hSw
    (try dsimp only at hSw)
    go_simp
    (try with_reducible rfl)
  (try simp only [Act.put, List.setIfInBounds_toArray, List.set_cons_zero, List.set_cons_succ])
  refine wpAnyH_take (i := 1) (v := ?_) (by (simp only [List.getElem?_toArray, List.getElem?_cons_succ, List.getElem?_cons_zero]; rfl)) (by kernel_rfl) (by kernel_rfl) (by kernel_rfl) (fun _ _ _ h => h) (Or.inl ⟨by rfl, ?_⟩) (by assumption) ?_
  rotate_left
  · intro wt hSw
    (try dsimp only at hSw)
    go_simp
    (try with_reducible rfl)
  (try simp only [Act.put, List.setIfInBounds_toArray, List.set_cons_zero, List.set_cons_succ])
  refine wpAnyH_take (i := 2) (v := ?_) (by (simp only [List.getElem?_toArray, List.getElem?_cons_succ, List.getElem?_cons_zero]; rfl)) (by kernel_rfl) (by kernel_rfl) (by kernel_rfl) (fun _ _ _ h => h) (Or.inl ⟨by rfl, ?_⟩) (by assumption) ?_
  rotate_left
  · intro wt hSw
    (try dsimp only at hSw)
    go_simp
    (try with_reducible rfl)
  (try simp only [Act.put, List.setIfInBounds_toArray, List.set_cons_zero, List.set_cons_succ])
  refine wpAnyH_take (i := 3) (v := ?_) (by (simp only [List.getElem?_toArray, List.getElem?_cons_succ, List.getElem?_cons_zero]; rfl)) (by kernel_rfl) (by kernel_rfl) (by kernel_rfl) (fun _ _ _ h => h) (Or.inl ⟨by rfl, ?_⟩) (by assumption) ?_
  rotate_left
  · intro wt hSw
    (try dsimp only at hSw)
    go_simp
    (try with_reducible rfl)
  (try simp only [Act.put, List.setIfInBounds_toArray, List.set_cons_zero, List.set_cons_succ])
  refine wpAnyH_take (i := 4) (v := ?_) (by (simp only [List.getElem?_toArray, List.getElem?_cons_succ, List.getElem?_cons_zero]; rfl)) (by kernel_rfl) (by kernel_rfl) (by kernel_rfl) (fun _ _ _ h => h) (Or.inl ⟨by rfl, ?_⟩) (by assumption) ?_
  rotate_left
  · intro wt hSw
    (try dsimp only at hSw)
    go_simp
    (try with_reducible rfl)
  (try simp only [Act.put, List.setIfInBounds_toArray, List.set_cons_zero, List.set_cons_succ])
  refine wpAnyH_take (i := 5) (v := ?_) (by (simp only [List.getElem?_toArray, List.getElem?_cons_succ, List.getElem?_cons_zero]; rfl)) (by kernel_rfl) (by kernel_rfl) (by kernel_rfl) (fun _ _ _ h => h) (Or.inl ⟨by rfl, ?_⟩) (by assumption) ?_
  rotate_left
  · intro wt hSw
    (try dsimp only at hSw)
    go_simp
    (try with_reducible rfl)
  (try simp only [Act.put, List.setIfInBounds_toArray, List.set_cons_zero, List.set_cons_succ])
  refine wpAnyH_ready (rs := [6]) (by kernel_rfl) (by simp) (AllReadyH.cons (by (simp only [List.getElem?_toArray, List.getElem?_cons_succ, List.getElem?_cons_zero]; rfl)) (fun K hK => ?_) AllReadyH.nil)
  go_simp
  (go_at_call 89; (with_reducible refine (HU.out Vd ((hs.below (B0.mono hb0.size)).more (Nat.le_trans hb0.size B0.size))).mono ?_))
  rintro e wa ⟨V, zs, k, rfl, hs1, hd1, hn1, hv1, hk1, hk2, hb⟩
  (try go_wp2_with fail)
  have B1 := B0.trans (hb.mono B0.size)
  refine hK.out _ _ ⟨((B1).cell (p := ⟨w.heap.size, 0, none⟩) hlt).trans c0, ((B1).cell (p := ⟨w.heap.size, 1, none⟩) hlt).trans c1⟩ (fun hHeld => ?_)
  clear hK
  (try simp only [Act.put, List.setIfInBounds_toArray, List.set_cons_zero, List.set_cons_succ])
  refine wpAnyH_ready (rs := [7]) (by kernel_rfl) (by simp) (AllReadyH.cons (by (simp only [List.getElem?_toArray, List.getElem?_cons_succ, List.getElem?_cons_zero]; rfl)) (fun K hK => ?_) AllReadyH.nil)
  go_simp
  (go_at_call 60; (with_reducible refine (made_any _ V zs.length k wa (by unfold maxLen; omega)).mono ?_))
  rintro e wb ⟨rfl, hb2⟩
  (try go_wp2_with fail)
  have B2 := B1.trans (hb2.mono B1.size)
  refine hK.out _ _ ⟨((B2).cell (p := ⟨w.heap.size, 0, none⟩) hlt).trans c0, ((B2).cell (p := ⟨w.heap.size, 1, none⟩) hlt).trans c1⟩ (fun hHeld => ?_)
  clear hK
  (try simp only [Act.put, List.setIfInBounds_toArray, List.set_cons_zero, List.set_cons_succ])
  have hr2 := hre.on B2
  have hw2 := hb0.trans (B2.mono hb0.size)
  have g0 := hr2.r0
  have g1 := hr2.r1
  have g2 := hr2.f0
  have g3 := hr2.f1
  have hB : Bg wb (neg && decide (0 < zs.length)) V zs k C := ⟨(hs1.below hb2).more hb2.size, hd1, hn1, sign_made, hk1, hk2⟩
  have hL := hr2.laid hw2 (by omega) hB
  refine wpAnyH_ready (rs := [8]) (by kernel_rfl) (by simp) (AllReadyH.cons (by (simp only [List.getElem?_toArray, List.getElem?_cons_succ, List.getElem?_cons_zero]; rfl)) (fun K hK => ?_) AllReadyH.nil)
  go_simp
  refine hK.out _ _ ⟨(by rw [World.cell?_setCell_other _ _ _ _ (by simp), World.cell?_setCell_other _ _ _ _ (by simp)]; exact ((B2).cell (p := ⟨w.heap.size, 0, none⟩) hlt).trans c0), (by rw [World.cell?_setCell_other _ _ _ _ (by simp), World.cell?_setCell_other _ _ _ _ (by simp)]; exact ((B2).cell (p := ⟨w.heap.size, 1, none⟩) hlt).trans c1)⟩ (fun hHeld => ?_)
  clear hK
  (try simp only [Act.put, List.setIfInBounds_toArray, List.set_cons_zero, List.set_cons_succ])
  refine wpAnyH_done (by kernel_rfl) (NoPanic.normal ?_) _
  go_wp2
  refine bodyPost_ret (v := big (neg && decide (0 < zs.length)) V zs.length k) (by simp [results, Tryd.results59, go_sem, g0, g1]) rfl ⟨_, V, zs, k, rfl, hL.1, ?_, hL.2⟩
  rw [sv_made, hv1, sv_shl]

set_option maxHeartbeats 4000000 in
set_option maxRecDepth 20000 in
theorem lshift_down (A : Option Addr) (xs : List Nat) (c f : Nat) (w : World) (hx : Sl .u64 w w.heap.size A xs) (dx : Dig W64 xs) (hf : 1 ≤ f) (hf2 : f ≤ 9223372036854775808) (hl : (xs.length + 1) * 8 ≤ 140737488351232) (hc : xs.length ≤ c) :
    Calls Tryd.prog 59 #[big false A xs.length c, .int .i64 (-(f : Int))] w (Gives w (sv false (val W64 xs) / 2 ^ f) (xs.length + 1)) := by
  have hfi : ¬ ((0 : Int) ≤ -(f : Int)) := by omega
  have hfi1 : (1 : Int) ≤ (f : Int) := by omega
  have hfi2 : (f : Int) ≤ 9223372036854775808 := by omega
  have e1 : IntKind.u64.wrap (-(f : Int)) = 18446744073709551616 - (f : Int) := by rw [IntKind.wrap_u64]; omega
  have e2 : IntKind.u64.wrap (-(18446744073709551616 - (f : Int))) = (f : Int) := by rw [IntKind.wrap_u64]; omega
  have HD := Lib.hid (fun (W : World) (h : Sl .u64 W W.heap.size A xs) => shiftDown_any A xs c f W h dx (by omega) hc (by simp only [W64]; omega))
  have hb0 : Below w.heap.size w ((w.alloc (.cells #[.bool false, .slice A xs.length c] 58)).alloc (.cells #[.bool false, .slice none 0 0] 58)) := by go_grown
  have hre := Rest.new (w.alloc (.cells #[.bool false, .slice A xs.length c] 58))
  rw [World.size_alloc] at hre
  have c0 : ((w.alloc (.cells #[.bool false, .slice A xs.length c] 58)).alloc (.cells #[.bool false, .slice none 0 0] 58)).cell? ⟨w.heap.size, 0, none⟩ = some (.bool false) := by go_cell
  have c1 : ((w.alloc (.cells #[.bool false, .slice A xs.length c] 58)).alloc (.cells #[.bool false, .slice none 0 0] 58)).cell? ⟨w.heap.size, 1, none⟩ = some (.slice A xs.length c) := by go_cell
  have hz : ((w.alloc (.cells #[.bool false, .slice A xs.length c] 58)).alloc (.cells #[.bool false, .slice none 0 0] 58)).heap.size = w.heap.size + 1 + 1 := by go_size
  have hs := hx.below hb0
  go_enter Tryd.func59, Tryd.ntmps59
  go_wp2_with fail
  generalize ((w.alloc (.cells #[.bool false, .slice A xs.length c] 58)).alloc (.cells #[.bool false, .slice none 0 0] 58)) = W at *
  have HZ := Lib.hid hz
  clear hz hx
  have hlt : w.heap.size < W.heap.size := by have := HZ.out; omega
  have HC := Lib.hid hc
  go_wp2_with fail
  refine (HD.out W (hs.more hb0.size)).mono ?_
  rintro e wa ⟨V, zs, k, rfl, hs1, hd1, hn1, hv1, hk1, hk2, hb⟩
  have hzl : zs.length ≤ 17592186043904 := by omega
  go_wp2_with fail
  refine (made_any false V zs.length k wa (by unfold maxLen; omega)).mono ?_
  rintro e wb ⟨rfl, hb2⟩
  have B2 := hb.trans (hb2.mono hb.size)
  have hr2 := hre.on B2
  have hw2 := hb0.trans (B2.mono hb0.size)
  have g0 := hr2.r0
  have g1 := hr2.r1
  have g2 := hr2.f0
  have g3 := hr2.f1
  have hB : Bg wb (false && decide (0 < zs.length)) V zs k (xs.length + 1) := ⟨(hs1.below hb2).more hb2.size, hd1, hn1, sign_made, hk1, by omega⟩
  have hL := hr2.laid hw2 (by omega) hB
  go_wp2
  refine bodyPost_ret (v := big (false && decide (0 < zs.length)) V zs.length k) (by simp [results, Tryd.results59, go_sem, g0, g1]) rfl ⟨_, V, zs, k, rfl, hL.1, ?_, hL.2⟩
  rw [sv_made, hv1, sv_shr_pos]

set_option maxHeartbeats 4000000 in
set_option maxRecDepth 20000 in
theorem lshift_floor (A : Option Addr) (xs : List Nat) (c f : Nat) (w : World) (hx : Sl .u64 w w.heap.size A xs) (dx : Dig W64 xs) (hf : 1 ≤ f) (hf2 : f ≤ 9223372036854775808) (hl : (xs.length + 1) * 8 ≤ 140737488351232) (hc : xs.length ≤ c) (hpos : 0 < xs.length) (nx : Norm xs) :
    Calls Tryd.prog 59 #[big true A xs.length c, .int .i64 (-(f : Int))] w (Gives w (sv true (val W64 xs) / 2 ^ f) (xs.length + 1)) := by
  have hfi : ¬ ((0 : Int) ≤ -(f : Int)) := by omega
  have hfi1 : (1 : Int) ≤ (f : Int) := by omega
  have hfi2 : (f : Int) ≤ 9223372036854775808 := by omega
  have e1 : IntKind.u64.wrap (-(f : Int)) = 18446744073709551616 - (f : Int) := by rw [IntKind.wrap_u64]; omega
  have e2 : IntKind.u64.wrap (-(18446744073709551616 - (f : Int))) = (f : Int) := by rw [IntKind.wrap_u64]; omega
  have HD := Lib.hid (And.intro hc hl)
  have hb0 : Below w.heap.size w ((w.alloc (.cells #[.bool true, .slice A xs.length c] 58)).alloc (.cells #[.bool false, .slice none 0 0] 58)) := by go_grown
  have hre := Rest.new (w.alloc (.cells #[.bool true, .slice A xs.length c] 58))
  rw [World.size_alloc] at hre
  have c0 : ((w.alloc (.cells #[.bool true, .slice A xs.length c] 58)).alloc (.cells #[.bool false, .slice none 0 0] 58)).cell? ⟨w.heap.size, 0, none⟩ = some (.bool true) := by go_cell
  have c1 : ((w.alloc (.cells #[.bool true, .slice A xs.length c] 58)).alloc (.cells #[.bool false, .slice none 0 0] 58)).cell? ⟨w.heap.size, 1, none⟩ = some (.slice A xs.length c) := by go_cell
  have hz : ((w.alloc (.cells #[.bool true, .slice A xs.length c] 58)).alloc (.cells #[.bool false, .slice none 0 0] 58)).heap.size = w.heap.size + 1 + 1 := by go_size
  have hs := hx.below hb0
  go_enter Tryd.func59, Tryd.ntmps59
  go_wp2_with fail
  generalize ((w.alloc (.cells #[.bool true, .slice A xs.length c] 58)).alloc (.cells #[.bool false, .slice none 0 0] 58)) = W at *
  have HZ := Lib.hid hz
  clear hz hx
  have hlt : w.heap.size < W.heap.size := by have := HZ.out; omega
  have hb1 : Below w.heap.size w (W.alloc (.cells #[.int .u64 1] 81)) := hb0.alloc hb0.size _
  have hone : Row .u64 (W.alloc (.cells #[.int .u64 (1 : Nat)] 81)) W.heap.size 81 [1] := heap_alloc_new _ _
  have hre1 := hre.on (W' := W.alloc (.cells #[.int .u64 1] 81)) ((Below.refl _ _).alloc (Nat.le_refl _) _)
  have hs0 : Sl .u64 (W.alloc (.cells #[.int .u64 1] 81)) (W.alloc (.cells #[.int .u64 1] 81)).heap.size A xs := (hs.below ((Below.refl w.heap.size W).alloc hb0.size _)).more hb1.size
  have hon : Sl .u64 (W.alloc (.cells #[.int .u64 1] 81)) (W.alloc (.cells #[.int .u64 1] 81)).heap.size (some ⟨W.heap.size, 0, none⟩) [1] := hone.sl hone.lt
  have hv0 : 1 ≤ val W64 xs := by
    have h1 := norm_ge (B := W64) nx hpos
    have h2 : 0 < W64 ^ (xs.length - 1) := Nat.pow_pos (by decide)
    omega
  have hv1' : val W64 [1] = 1 := by simp [val]
  have hDF := difference_any A (some ⟨W.heap.size, 0, none⟩) xs [1] c 1 _ hs0 hon dx (Dig.one (by decide)) (by omega) (by simp; omega) (by rw [hv1']; exact hv0)
  rw [hv1', show W.heap.size = w.heap.size + 1 + 1 from HZ.out] at hDF
  have HDF := Lib.hid hDF
  have HV0 := Lib.hid hv0
  clear hDF hv0 hv1'
  have hlI : xs.length ≤ 17592186043904 := by omega
  go_wp2_with fail
  refine (HDF.out).mono ?_
  rintro e wa ⟨V, zs, k, rfl, hsa, hda, hna, hva, hka1, hka2, hba⟩
  go_wp2_with fail
  refine (shiftDown_any V zs k f wa hsa hda (by omega) hka1 (by simp only [W64]; omega)).mono ?_
  rintro e wb ⟨V2, us, k2, rfl, hsb, hdb, hnb, hvb, hkb1, hkb2, hbb⟩
  have honb := ((hon.below hba).more hba.size).below hbb
  rw [show W.heap.size = w.heap.size + 1 + 1 from HZ.out] at honb
  have honb := honb.more hbb.size
  go_wp2_with fail
  refine (sum_any V2 (some ⟨w.heap.size + 1 + 1, 0, none⟩) us [1] k2 1 wb hsb honb hdb (Dig.one (by decide)) (by omega) (by simp)).mono ?_
  rintro e wc ⟨V3, ts, k3, rfl, hsc, hdc, hnc, hvc, hkc1, hkc2, hbc⟩
  have htl : ts.length ≤ 17592186043904 := by simp at hkc2; omega
  go_wp2_with fail
  refine (made_any true V3 ts.length k3 wc (by unfold maxLen; omega)).mono ?_
  rintro e wd ⟨rfl, hbd⟩
  have B2 := hba.trans ((hbb.trans ((hbc.trans (hbd.mono hbc.size)).mono hbb.size)).mono hba.size)
  have hr2 := hre1.on B2
  have hw2 := hb1.trans (B2.mono hb1.size)
  have g0 := hr2.r0
  have g1 := hr2.r1
  have g2 := hr2.f0
  have g3 := hr2.f1
  have hB : Bg wd (true && decide (0 < ts.length)) V3 ts k3 (xs.length + 1) := ⟨(hsc.below hbd).more hbd.size, hdc, hnc, sign_made, hkc1, by simp at hkc2; omega⟩
  have hL := hr2.laid hw2 (by omega) hB
  go_wp2
  refine bodyPost_ret (v := big (true && decide (0 < ts.length)) V3 ts.length k3) (by simp [results, Tryd.results59, go_sem, g0, g1]) rfl ⟨_, V3, ts, k3, rfl, hL.1, ?_, hL.2⟩
  rw [sv_made, hvc, hvb, hva, show val W64 [1] = 1 by simp [val], sv_shr_neg f HV0.out]
end Go.Proofs.YtchfnkfdopbflaaDoor

namespace Go.Proofs.YtchfnkfdopbflaaDoor
open Go.RowKit Nb
set_option linter.unusedSimpArgs false

theorem bits_val {n : Bool} {xs : List Nat} (h : Ok n xs) : bitsV n xs = (bitLen (val W32 xs) : Int) := by unfold bitsV; rw [if_pos h]
theorem lt_pow_more {Z : Int} {k : Nat} (h : Z.natAbs < W32 ^ k) (l : Nat) (hk : k ≤ l) : Z.natAbs < W32 ^ l := Nat.lt_of_lt_of_le h (Nat.pow_le_pow_right (by decide) hk)
theorem fits_len' {Z : Int} (k : Nat) : Z.natAbs < W32 ^ k ↔ bitLen Z.natAbs ≤ 32 * k := by
  rw [bitLen_le_iff, show (2 : Nat) ^ (32 * k) = W32 ^ k from (pow32 k).symm]
theorem fits_iff_len {Z : Int} : Fits Z ↔ bitLen Z.natAbs ≤ 32 * 2048 := fits_len' 2048
theorem len_shl {X k : Nat} (h : 0 < X) : bitLen (X * 2 ^ k) = bitLen X + k := by
  have h1 := bitLen_spec X
  apply bitLen_eq
  · rw [Nat.pow_add]; exact Nat.mul_lt_mul_of_pos_right h1.1 (Nat.pow_pos (by decide))
  · right
    have hp := bitLen_pos (x := X) (by omega)
    rw [show bitLen X + k - 1 = bitLen X - 1 + k by omega, Nat.pow_add]
    exact Nat.mul_le_mul_right _ (h1.2 (by omega))
theorem abs_shl (Z : Int) (k : Nat) : (Z * 2 ^ k).natAbs = Z.natAbs * 2 ^ k := by
  rw [Int.natAbs_mul, Int.natAbs_pow]; rfl

theorem fits_abs0 {n : Bool} {xs : List Nat} (hd : Dig W32 xs) (hl : xs.length ≤ 2048) : Fits (sv n (val W32 xs)) := by
  have h : (sv n (val W32 xs)).natAbs < W32 ^ xs.length := by rw [sv_abs]; exact val_lt hd
  exact lt_pow_more h 2048 hl

set_option maxHeartbeats 4000000 in
set_option maxRecDepth 20000 in
theorem wshift_up (n : Bool) (A : Option Addr) (xs : List Nat) (c k : Nat) (w : World) (h : Lm w n A xs c) (hk : k ≤ 4096) :
    Calls Tryd.prog 36 #[big n A xs.length c, .int .i64 k] w (Told w (sv n (val W32 xs) * 2 ^ k)) := by
  have hb0 : Below w.heap.size w ((w.alloc (.cells #[.bool n, .slice A xs.length c] 24)).alloc (.cells #[.bool false, .slice none 0 0] 24)) := by go_grown
  have KX : Held ((w.alloc (.cells #[.bool n, .slice A xs.length c] 24)).alloc (.cells #[.bool false, .slice none 0 0] 24)) w.heap.size n A xs c := ⟨by go_size, by go_cell, by go_cell, h.below hb0⟩
  have hre := Rest.newI (w.alloc (.cells #[.bool n, .slice A xs.length c] 24))
  rw [World.size_alloc] at hre
  have a0 := KX.c0
  have a1 := KX.c1
  have ho := h.ok
  have hd := h.dig
  have hbl := bits_val ho
  have hlx := ho.len
  have hpl : (pack xs).length ≤ 1024 := by rw [pack_length]; omega
  have hvp := val_pack xs
  have hfl := fits_iff_len (Z := sv n (val W32 xs) * 2 ^ k)
  rw [abs_shl, sv_abs] at hfl
  obtain ⟨b, hb⟩ : ∃ b, bitLen (val W32 xs) = b := ⟨_, rfl⟩
  have hb16 : b ≤ 65536 := by
    rw [← hb]
    have h1 := (fits_iff_len (Z := sv n (val W32 xs))).1 (fits_abs0 hd hlx)
    rwa [sv_abs] at h1
  rw [hb] at hbl
  have HB := Lib.hid hb
  clear hb
  go_enter Tryd.func36, Tryd.ntmps36
  go_wp2_with fail
  generalize ((w.alloc (.cells #[.bool n, .slice A xs.length c] 24)).alloc (.cells #[.bool false, .slice none 0 0] 24)) = W at *
  refine (check_ok n A xs c W KX.lm.sl ho).mono ?_
  rintro e w1 ⟨rfl, hb1⟩
  have KX := KX.on hb1
  have hre := hre.on hb1
  have hb1 := hb0.trans (hb1.mono hb0.size)
  have a0 := KX.c0
  have a1 := KX.c1
  have CB := wbits_u n A xs c w1 KX.lm.sl KX.lm.dig KX.lm.sz
  rw [hbl] at CB
  have CB := Lib.hid CB
  clear hbl h hb0
  go_wp2_with fail
  refine (CB.out).mono ?_
  rintro e w2 ⟨rfl, hb2⟩
  have KX := KX.on hb2
  have hre := hre.on hb2
  have hb2 := hb1.trans (hb2.mono hb1.size)
  clear hb1 CB
  have a0 := KX.c0
  have a1 := KX.c1
  have hbi : (b : Int) ≤ 65536 := by omega
  have hki0 : (k : Int) ≤ 4096 := by omega
  by_cases hc : 0 < b ∧ 65536 < b + k
  · have hbp : (0 : Int) < (b : Int) := by omega
    have hki : (65536 : Int) - (b : Int) < (k : Int) := by omega
    have hvp0 : 0 < val W32 xs := by
      rcases Nat.eq_zero_or_pos (val W32 xs) with h0 | h0
      · exfalso
        have h1 := HB.out
        rw [h0] at h1
        have h2 : bitLen 0 = 0 := by simp [bitLen]
        omega
      · exact h0
    have hnf : ¬ Fits (sv n (val W32 xs) * 2 ^ k) := fun hf => by
      have h1 := hfl.1 hf
      rw [len_shl hvp0, HB.out] at h1
      omega
    have HNF := Lib.hid hnf
    have g0 := hre.r0
    have g1 := hre.r1
    have g2 := hre.f0
    have g3 := hre.f1
    clear hfl hnf hvp0
    go_wp2
    refine bodyPost_ret (v := .tuple #[big false none ([] : List Nat).length 0, .int .i64 4]) (by simp [results, Tryd.results36, go_sem, g0, g1]) rfl ⟨false, none, [], 0, 4, rfl, ⟨fun h => absurd h (by simp), by intro x hx; simp at hx, ok_zero⟩, .inr ⟨HNF.out, rfl, rfl, rfl⟩, (hb2.setCell (by simp) _).setCell (by simp) _⟩
  · clear hfl
    rcases Nat.eq_zero_or_pos b with rfl | hbp
    · clear hc
      go_wp2_with fail
      refine (from_ok n A xs c w2 KX.lm.sl hd ho).mono ?_
      rintro e w3 ⟨g, rfl, hrow, hg, hb3⟩
      have hre3 := hre.on hb3
      have hb3 := hb2.trans (hb3.mono hb2.size)
      go_wp2_with fail
      refine (lshift_up n (some ⟨g, 0, none⟩) (pack xs) (pack xs).length k 4096 w3 (sl_row hrow) (dig_pack hd) (by omega) (fun _ => by omega) (fun _ => by omega) (by omega)).mono ?_
      rw [val_pack]
      rintro e w4 ⟨n4, V4, z4, k4, rfl, hB4, hv4, hb4⟩
      have hre4 := hre3.on hb4
      have hb4 := hb3.trans (hb4.mono hb3.size)
      go_wp2_with fail
      refine (fit_any n4 V4 z4 k4 _ w4 hB4 (by have := hB4.len; have := hB4.cap; omega)).mono ?_
      rw [hv4]
      rintro e w5 ⟨n5, V5, l5, k5, er5, rfl, hM, hSay, hb5⟩
      have hre5 := hre4.on hb5
      have hb5 := hb4.trans (hb5.mono hb4.size)
      have g0 := hre5.r0
      have g1 := hre5.r1
      have g2 := hre5.f0
      have g3 := hre5.f1
      go_wp2
      refine bodyPost_ret (v := .tuple #[big n5 V5 l5.length k5, .int .i64 er5]) (by simp [results, Tryd.results36, go_sem, g0, g1]) rfl ⟨n5, V5, l5, k5, er5, rfl, hM.laid hre5 _ _, hSay, (hb5.setCell (by simp) _).setCell (by simp) _⟩
    · have hbp2 : (0 : Int) < (b : Int) := by omega
      have hki : ¬ ((65536 : Int) - (b : Int) < (k : Int)) := by omega
      have hki2 : (k : Int) ≤ (65536 : Int) - (b : Int) := by omega
      clear hc
      go_wp2_with fail
      refine (from_ok n A xs c w2 KX.lm.sl hd ho).mono ?_
      rintro e w3 ⟨g, rfl, hrow, hg, hb3⟩
      have hre3 := hre.on hb3
      have hb3 := hb2.trans (hb3.mono hb2.size)
      go_wp2_with fail
      refine (lshift_up n (some ⟨g, 0, none⟩) (pack xs) (pack xs).length k 4096 w3 (sl_row hrow) (dig_pack hd) (by omega) (fun _ => by omega) (fun _ => by omega) (by omega)).mono ?_
      rw [val_pack]
      rintro e w4 ⟨n4, V4, z4, k4, rfl, hB4, hv4, hb4⟩
      have hre4 := hre3.on hb4
      have hb4 := hb3.trans (hb4.mono hb3.size)
      go_wp2_with fail
      refine (fit_any n4 V4 z4 k4 _ w4 hB4 (by have := hB4.len; have := hB4.cap; omega)).mono ?_
      rw [hv4]
      rintro e w5 ⟨n5, V5, l5, k5, er5, rfl, hM, hSay, hb5⟩
      have hre5 := hre4.on hb5
      have hb5 := hb4.trans (hb5.mono hb4.size)
      have g0 := hre5.r0
      have g1 := hre5.r1
      have g2 := hre5.f0
      have g3 := hre5.f1
      go_wp2
      refine bodyPost_ret (v := .tuple #[big n5 V5 l5.length k5, .int .i64 er5]) (by simp [results, Tryd.results36, go_sem, g0, g1]) rfl ⟨n5, V5, l5, k5, er5, rfl, hM.laid hre5 _ _, hSay, (hb5.setCell (by simp) _).setCell (by simp) _⟩

set_option maxHeartbeats 4000000 in
set_option maxRecDepth 20000 in
theorem wshift_down (n : Bool) (A : Option Addr) (xs : List Nat) (c k : Nat) (w : World) (h : Lm w n A xs c) (hk1 : 1 ≤ k) (hk : k ≤ 4096) :
    Calls Tryd.prog 36 #[big n A xs.length c, .int .i64 (-(k : Int))] w (Told w (sv n (val W32 xs) / 2 ^ k)) := by
  have hb0 : Below w.heap.size w ((w.alloc (.cells #[.bool n, .slice A xs.length c] 24)).alloc (.cells #[.bool false, .slice none 0 0] 24)) := by go_grown
  have KX : Held ((w.alloc (.cells #[.bool n, .slice A xs.length c] 24)).alloc (.cells #[.bool false, .slice none 0 0] 24)) w.heap.size n A xs c := ⟨by go_size, by go_cell, by go_cell, h.below hb0⟩
  have hre := Rest.newI (w.alloc (.cells #[.bool n, .slice A xs.length c] 24))
  rw [World.size_alloc] at hre
  have a0 := KX.c0
  have a1 := KX.c1
  have ho := h.ok
  have hd := h.dig
  have hbl := bits_val ho
  have hlx := ho.len
  have hpl : (pack xs).length ≤ 1024 := by rw [pack_length]; omega
  have hvp := val_pack xs
  obtain ⟨b, hb⟩ : ∃ b, bitLen (val W32 xs) = b := ⟨_, rfl⟩
  have hb16 : b ≤ 65536 := by
    rw [← hb]
    have h1 := (fits_iff_len (Z := sv n (val W32 xs))).1 (fits_abs0 hd hlx)
    rwa [sv_abs] at h1
  rw [hb] at hbl
  have HB := Lib.hid hb
  clear hb
  go_enter Tryd.func36, Tryd.ntmps36
  go_wp2_with fail
  generalize ((w.alloc (.cells #[.bool n, .slice A xs.length c] 24)).alloc (.cells #[.bool false, .slice none 0 0] 24)) = W at *
  refine (check_ok n A xs c W KX.lm.sl ho).mono ?_
  rintro e w1 ⟨rfl, hb1⟩
  have KX := KX.on hb1
  have hre := hre.on hb1
  have hb1 := hb0.trans (hb1.mono hb0.size)
  have a0 := KX.c0
  have a1 := KX.c1
  have CB := wbits_u n A xs c w1 KX.lm.sl KX.lm.dig KX.lm.sz
  rw [hbl] at CB
  have CB := Lib.hid CB
  clear hbl h hb0
  go_wp2_with fail
  refine (CB.out).mono ?_
  rintro e w2 ⟨rfl, hb2⟩
  have KX := KX.on hb2
  have hre := hre.on hb2
  have hb2 := hb1.trans (hb2.mono hb1.size)
  clear hb1 CB
  have a0 := KX.c0
  have a1 := KX.c1
  have hbi : (b : Int) ≤ 65536 := by omega
  have hki0 : (k : Int) ≤ 4096 := by omega
  have hki1 : (1 : Int) ≤ (k : Int) := by omega
  have hki : ¬ ((65536 : Int) - (b : Int) < -(k : Int)) := by omega
  have hki2 : -(k : Int) ≤ (65536 : Int) - (b : Int) := by omega
  have hpp : n = true → 0 < (pack xs).length := fun hn => by
    rw [pack_length]
    have h1 : xs ≠ [] := fun h => by have := ho.sign h; rw [hn] at this; cases this
    have := List.length_pos_iff.2 h1
    omega
  rcases Nat.eq_zero_or_pos b with rfl | hbp
  · go_wp2_with fail
    cases n
    · clear hpp
      refine (from_ok false A xs c w2 KX.lm.sl hd ho).mono ?_
      rintro e w3 ⟨g, rfl, hrow, hg, hb3⟩
      have hre3 := hre.on hb3
      have hb3 := hb2.trans (hb3.mono hb2.size)
      go_wp2_with fail
      refine (lshift_down (some ⟨g, 0, none⟩) (pack xs) (pack xs).length k w3 (sl_row hrow) (dig_pack hd) hk1 (by omega) (by omega) (Nat.le_refl _)).mono ?_
      rw [val_pack]
      rintro e w4 ⟨n4, V4, z4, k4, rfl, hB4, hv4, hb4⟩
      have hre4 := hre3.on hb4
      have hb4 := hb3.trans (hb4.mono hb3.size)
      go_wp2_with fail
      refine (fit_any n4 V4 z4 k4 _ w4 hB4 (by have := hB4.len; have := hB4.cap; omega)).mono ?_
      rw [hv4]
      rintro e w5 ⟨n5, V5, l5, k5, er5, rfl, hM, hSay, hb5⟩
      have hre5 := hre4.on hb5
      have hb5 := hb4.trans (hb5.mono hb4.size)
      have g0 := hre5.r0
      have g1 := hre5.r1
      have g2 := hre5.f0
      have g3 := hre5.f1
      go_wp2
      refine bodyPost_ret (v := .tuple #[big n5 V5 l5.length k5, .int .i64 er5]) (by simp [results, Tryd.results36, go_sem, g0, g1]) rfl ⟨n5, V5, l5, k5, er5, rfl, hM.laid hre5 _ _, hSay, (hb5.setCell (by simp) _).setCell (by simp) _⟩
    · have hpq : 0 < (pack xs).length := hpp (by first | rfl | trivial)
      clear hpp
      refine (from_ok true A xs c w2 KX.lm.sl hd ho).mono ?_
      rintro e w3 ⟨g, rfl, hrow, hg, hb3⟩
      have hre3 := hre.on hb3
      have hb3 := hb2.trans (hb3.mono hb2.size)
      go_wp2_with fail
      refine (lshift_floor (some ⟨g, 0, none⟩) (pack xs) (pack xs).length k w3 (sl_row hrow) (dig_pack hd) hk1 (by omega) (by omega) (Nat.le_refl _) hpq (norm_pack ho.norm)).mono ?_
      rw [val_pack]
      rintro e w4 ⟨n4, V4, z4, k4, rfl, hB4, hv4, hb4⟩
      have hre4 := hre3.on hb4
      have hb4 := hb3.trans (hb4.mono hb3.size)
      go_wp2_with fail
      refine (fit_any n4 V4 z4 k4 _ w4 hB4 (by have := hB4.len; have := hB4.cap; omega)).mono ?_
      rw [hv4]
      rintro e w5 ⟨n5, V5, l5, k5, er5, rfl, hM, hSay, hb5⟩
      have hre5 := hre4.on hb5
      have hb5 := hb4.trans (hb5.mono hb4.size)
      have g0 := hre5.r0
      have g1 := hre5.r1
      have g2 := hre5.f0
      have g3 := hre5.f1
      go_wp2
      refine bodyPost_ret (v := .tuple #[big n5 V5 l5.length k5, .int .i64 er5]) (by simp [results, Tryd.results36, go_sem, g0, g1]) rfl ⟨n5, V5, l5, k5, er5, rfl, hM.laid hre5 _ _, hSay, (hb5.setCell (by simp) _).setCell (by simp) _⟩
  · have hbp2 : (0 : Int) < (b : Int) := by omega
    go_wp2_with fail
    cases n
    · clear hpp
      refine (from_ok false A xs c w2 KX.lm.sl hd ho).mono ?_
      rintro e w3 ⟨g, rfl, hrow, hg, hb3⟩
      have hre3 := hre.on hb3
      have hb3 := hb2.trans (hb3.mono hb2.size)
      go_wp2_with fail
      refine (lshift_down (some ⟨g, 0, none⟩) (pack xs) (pack xs).length k w3 (sl_row hrow) (dig_pack hd) hk1 (by omega) (by omega) (Nat.le_refl _)).mono ?_
      rw [val_pack]
      rintro e w4 ⟨n4, V4, z4, k4, rfl, hB4, hv4, hb4⟩
      have hre4 := hre3.on hb4
      have hb4 := hb3.trans (hb4.mono hb3.size)
      go_wp2_with fail
      refine (fit_any n4 V4 z4 k4 _ w4 hB4 (by have := hB4.len; have := hB4.cap; omega)).mono ?_
      rw [hv4]
      rintro e w5 ⟨n5, V5, l5, k5, er5, rfl, hM, hSay, hb5⟩
      have hre5 := hre4.on hb5
      have hb5 := hb4.trans (hb5.mono hb4.size)
      have g0 := hre5.r0
      have g1 := hre5.r1
      have g2 := hre5.f0
      have g3 := hre5.f1
      go_wp2
      refine bodyPost_ret (v := .tuple #[big n5 V5 l5.length k5, .int .i64 er5]) (by simp [results, Tryd.results36, go_sem, g0, g1]) rfl ⟨n5, V5, l5, k5, er5, rfl, hM.laid hre5 _ _, hSay, (hb5.setCell (by simp) _).setCell (by simp) _⟩
    · have hpq : 0 < (pack xs).length := hpp (by first | rfl | trivial)
      clear hpp
      refine (from_ok true A xs c w2 KX.lm.sl hd ho).mono ?_
      rintro e w3 ⟨g, rfl, hrow, hg, hb3⟩
      have hre3 := hre.on hb3
      have hb3 := hb2.trans (hb3.mono hb2.size)
      go_wp2_with fail
      refine (lshift_floor (some ⟨g, 0, none⟩) (pack xs) (pack xs).length k w3 (sl_row hrow) (dig_pack hd) hk1 (by omega) (by omega) (Nat.le_refl _) hpq (norm_pack ho.norm)).mono ?_
      rw [val_pack]
      rintro e w4 ⟨n4, V4, z4, k4, rfl, hB4, hv4, hb4⟩
      have hre4 := hre3.on hb4
      have hb4 := hb3.trans (hb4.mono hb3.size)
      go_wp2_with fail
      refine (fit_any n4 V4 z4 k4 _ w4 hB4 (by have := hB4.len; have := hB4.cap; omega)).mono ?_
      rw [hv4]
      rintro e w5 ⟨n5, V5, l5, k5, er5, rfl, hM, hSay, hb5⟩
      have hre5 := hre4.on hb5
      have hb5 := hb4.trans (hb5.mono hb4.size)
      have g0 := hre5.r0
      have g1 := hre5.r1
      have g2 := hre5.f0
      have g3 := hre5.f1
      go_wp2
      refine bodyPost_ret (v := .tuple #[big n5 V5 l5.length k5, .int .i64 er5]) (by simp [results, Tryd.results36, go_sem, g0, g1]) rfl ⟨n5, V5, l5, k5, er5, rfl, hM.laid hre5 _ _, hSay, (hb5.setCell (by simp) _).setCell (by simp) _⟩
end Go.Proofs.YtchfnkfdopbflaaDoor
