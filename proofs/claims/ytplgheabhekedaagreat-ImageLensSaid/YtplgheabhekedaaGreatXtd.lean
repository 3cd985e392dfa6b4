/-
  Facts on floats and what the library answers of them, taken up again. No conditions.
-/
import Derived.Test.YtplgheabhekedaaGreatXta
import Derived.Test.YtplgheabhekedaaGreatBmy
namespace Go.Proofs.YtplgheabhekedaaGreat
open Go.RowKit Nb
theorem sgn_bg {W : World} {n : Bool} {A : Option Addr} {xs : List Nat} {c C : Nat} (h : Bg W n A xs c C) : sgn n xs = (sv n (val W64 xs)).sign := by
 have hz := norm_zero (B := W64) (by decide) h.norm
 unfold sgn
 cases n with
 | true =>
  have hx : xs ≠ [] := fun e => by have := h.sign e; cases this
  have h0 : val W64 xs ≠ 0 := fun e => hx (hz.1 e)
  rw [if_pos rfl, show sv true (val W64 xs) = -((val W64 xs : Nat) : Int) from rfl, Int.sign_eq_neg_one_of_neg (by omega)]
 | false =>
  rw [if_neg (by decide), show sv false (val W64 xs) = ((val W64 xs : Nat) : Int) from rfl]
  by_cases hl : xs.length = 0
  ·have h0 : xs = [] := List.length_eq_zero_iff.1 hl
   have := hz.2 h0
   rw [if_pos hl, this]; rfl
  ·have : val W64 xs ≠ 0 := fun e => hl (by rw [hz.1 e]; rfl)
   rw [if_neg hl, Int.sign_eq_one_of_pos (by omega)]
end Go.Proofs.YtplgheabhekedaaGreat
namespace Go.Proofs.YtplgheabhekedaaGreat
open Go.RowKit Nb
theorem sgn_ge {x : Rat} : 0 ≤ sgnQ x ↔ 0 ≤ x := by unfold sgnQ; rw [Int.sign_nonneg_iff, Rat.num_nonneg]
end Go.Proofs.YtplgheabhekedaaGreat
namespace Go.Proofs.YtplgheabhekedaaGreat
open Go.RowKit Nb
theorem sgn_zero {x : Rat} : sgnQ x = 0 ↔ x = 0 := by unfold sgnQ; rw [Int.sign_eq_zero_iff_zero, Rat.num_eq_zero]
end Go.Proofs.YtplgheabhekedaaGreat
namespace Go.Proofs.YtplgheabhekedaaGreat
open Go.RowKit Nb
theorem sgn_gt {x : Rat} : 0 < sgnQ x ↔ 0 < x := by
 constructor
 ·intro h
  have h1 := sgn_ge.1 (Int.le_of_lt h)
  have h2 : x ≠ 0 := fun e => by have := sgn_zero.2 e; omega
  grind
 ·intro h
  have h1 := sgn_ge.2 (show 0 ≤ x by grind)
  have h2 : sgnQ x ≠ 0 := fun e => by have := sgn_zero.1 e; grind
  omega
end Go.Proofs.YtplgheabhekedaaGreat
namespace Go.Proofs.YtplgheabhekedaaGreat
open Go.RowKit Nb
set_option maxHeartbeats 8000000 in
set_option maxRecDepth 20000 in
theorem b_sign {q : Rat} {f : Fv} {C : Nat} {w : World} (L : Fq w q f C) (hC : C ≤ 17592186043904) :
    Calls Tryz.prog 98 #[fv f] w (fun e w' => e = .returned (.int .i64 (sgnQ q)) ∧ Below w.heap.size w w') := by
 have BW : Below w.heap.size w w := Below.refl _ _
 obtain ⟨V1, e2, hb3, K4, -, -⟩ := alloc_new w [.bool f.n, .slice f.A f.xs.length f.c, .bool f.m, .slice f.B f.ds.length f.d] 88
 replace L := L.kp (Kept.of hb3)
 replace BW := BW.trans (hb3.mono BW.size)
 clear hb3
 go_enter Tryz.func98, Tryz.ntmps98
 go_wp2_with fail
 rw [← e2]
 clear e2
 refine (sign_any f.n f.A f.xs f.c _ (by have h1 := L.2.num.len; have h2 := L.2.num.cap; omega)).mono ?_
 rintro _ w5 ⟨rfl, hb⟩
 replace L := L.kp (Kept.of hb)
 replace BW := BW.trans (hb.mono BW.size)
 clear hb
 rw [show sgn f.n f.xs = sgnQ q by rw [sgn_bg L.2.num, L.2.vn]; rfl]
 go_wp2_with fail
 exact bodyPost_ret (v := .int .i64 (sgnQ q)) (by simp [results, Tryz.results98, go_sem]) rfl ⟨rfl, BW⟩
end Go.Proofs.YtplgheabhekedaaGreat
namespace Go.Proofs.YtplgheabhekedaaGreat
open Go.RowKit Nb
/-- It answers some number. -/
def IW (w : World) (e : Ending) (w' : World) : Prop := ∃ n : Int, e = .returned (.int .i64 n) ∧ Below w.heap.size w w'
end Go.Proofs.YtplgheabhekedaaGreat
namespace Go.Proofs.YtplgheabhekedaaGreat
open Go.RowKit Nb
theorem c_lens {f : Fv} {w : World} (X : Fx w f) : f.xs.length ≤ 35184372087808 ∧ f.ds.length ≤ 35184372087808 := ⟨by have := Rq.x X; have := this.sz; omega, by have := Rq.y X; have := this.sz; omega⟩
end Go.Proofs.YtplgheabhekedaaGreat
namespace Go.Proofs.YtplgheabhekedaaGreat
open Go.RowKit Nb
theorem c_size {f : Fv} {w : World} (X : Fx w f) : Calls Tryz.prog 90 #[fv f] w (IW w) := (f_size X).mono fun _ _ ⟨h, hb⟩ => ⟨_, h, hb⟩
end Go.Proofs.YtplgheabhekedaaGreat
namespace Go.Proofs.YtplgheabhekedaaGreat
open Go.RowKit Nb
set_option maxHeartbeats 8000000 in
set_option maxRecDepth 20000 in
theorem c_low {n m : Bool} {A B : Option Addr} {xs ds : List Nat} {c d : Nat} {w : World} (h1 : xs.length ≤ 35184372087808) (h2 : ds.length ≤ 35184372087808) :
    Calls Tryz.prog 91 #[big n A xs.length c, big m B ds.length d] w (IW w) := by
 have l1 : (xs.length : Int) ≤ 35184372087808 := by omega
 have l2 : (ds.length : Int) ≤ 35184372087808 := by omega
 have BW : Below w.heap.size w w := Below.refl _ _
 obtain ⟨V2, e3, hb4, K5, Z6, z1⟩ := alloc_new w [.bool n, .slice A xs.length c] 27
 have g7 : w.heap.size ≤ w.heap.size := BW.size
 replace BW := BW.trans (hb4.mono BW.size)
 clear hb4
 obtain ⟨V8, e9, hb10, K11, Z12, -⟩ := alloc_new V2 [.bool m, .slice B ds.length d] 27
 rw [z1] at K11 Z12
 have n13 : w.heap.size ≠ w.heap.size + 1 := Nat.ne_of_lt (z1 ▸ K5.lt)
 have g14 : w.heap.size ≤ w.heap.size + 1 := z1 ▸ BW.size
 replace K5 := K5.on hb10
 replace Z6 := Z6.on hb10
 replace BW := BW.trans (hb10.mono BW.size)
 clear hb10
 clear z1
 go_enter Tryz.func91, Tryz.ntmps91
 go_wp2_with fail
 rw [← e3, ← e9]
 clear e3 e9
 obtain ⟨c15, c16⟩ := K5.c2
 obtain ⟨c17, c18⟩ := K11.c2
 go_wp2_with fail
 all_goals (try (go_wp2_with fail))
 all_goals (first | (go_ret; exact ⟨_, rfl, BW⟩) | (go_meet; exact ⟨_, rfl, BW⟩))
end Go.Proofs.YtplgheabhekedaaGreat
namespace Go.Proofs.YtplgheabhekedaaGreat
open Go.RowKit Nb
set_option maxHeartbeats 8000000 in
set_option maxRecDepth 20000 in
theorem c_frac {f : Fv} {w : World} (X : Fx w f) :
    Calls Tryz.prog 37 #[fv f] w (IW w) := by
 have BW : Below w.heap.size w w := Below.refl _ _
 obtain ⟨V1, e2, hb3, K4, -, -⟩ := alloc_new w [.bool f.n, .slice f.A f.xs.length f.c, .bool f.m, .slice f.B f.ds.length f.d] 29
 replace X := X.kp (Kept.of hb3)
 replace BW := BW.trans (hb3.mono BW.size)
 clear hb3
 go_enter Tryz.func37, Tryz.ntmps37
 go_wp2_with fail
 rw [← e2]
 clear e2
 refine wp_region_noPanic ?_
 have hb : Below V1.heap.size V1 V1.drew := (Below.refl _ _).drew
 replace K4 := K4.on hb
 replace X := X.kp (Kept.of hb)
 replace BW := BW.trans (hb.mono BW.size)
 clear hb
 refine wp_region_held_drew (S := (fun wx => Cs wx (w.heap.size) 0 [.bool f.n, .slice f.A f.xs.length f.c, .bool f.m, .slice f.B f.ds.length f.d])) (by kernel_rfl) (by exact K4.cs) (fun hHeld => ?_)
 generalize V1.drew = Vd5 at *
 refine pT 0 ?_
 (try simp only [p0, p1, p2, p3])
 refine pT 2 ?_
 (try simp only [p0, p1, p2, p3])
 refine pT 3 ?_
 (try simp only [p0, p1, p2, p3])
 refine pT 4 ?_
 (try simp only [p0, p1, p2, p3])
 refine pT 5 ?_
 (try simp only [p0, p1, p2, p3])
 refine pR1 1 (fun K hK => ?_)
 go_simp
 (go_at_call 90; with_reducible refine (c_size X).mono ?_)
 rintro _ w6 ⟨n1, rfl, hb⟩
 (try go_wp2_with fail)
 replace K4 := K4.on hb
 replace X := X.kp (Kept.of hb)
 replace BW := BW.trans (hb.mono BW.size)
 clear hb
 clear hHeld
 refine hK.out _ _ (by exact K4.cs) (fun hHeld => ?_)
 clear hK
 (try simp only [p0, p1, p2, p3])
 refine pR1 6 (fun K hK => ?_)
 go_simp
 (go_at_call 91; with_reducible refine (c_low (c_lens X).1 (c_lens X).2).mono ?_)
 rintro _ w7 ⟨n2, rfl, hb⟩
 (try go_wp2_with fail)
 replace K4 := K4.on hb
 replace BW := BW.trans (hb.mono BW.size)
 clear hb
 clear hHeld
 refine hK.out _ _ (by exact K4.cs) (fun hHeld => ?_)
 clear hK
 (try simp only [p0, p1, p2, p3])
 refine pT 7 ?_
 (try simp only [p0, p1, p2, p3])
 refine pT 8 ?_
 (try simp only [p0, p1, p2, p3])
 refine wpAnyH_done (by kernel_rfl) (NoPanic.normal ?_) _
 go_wp2
 go_ret
 exact ⟨_, rfl, BW⟩
end Go.Proofs.YtplgheabhekedaaGreat
namespace Go.Proofs.YtplgheabhekedaaGreat
open Go.RowKit Nb
/-- Whether some costs are too much: yes or no. -/
def YN (w : World) (e : Ending) (w' : World) : Prop := ∃ r : Bool, e = .returned (.bool r) ∧ Below w.heap.size w w'
end Go.Proofs.YtplgheabhekedaaGreat
namespace Go.Proofs.YtplgheabhekedaaGreat
open Go.RowKit Nb
set_option maxHeartbeats 16000000 in
set_option maxRecDepth 100000 in
theorem c_beyond {ns : List Int} {g c : Nat} {w : World} (K : Box w g (ns.map (.int .i64))) (_hc : ns.length ≤ c) (hn : ns.length ≤ 4096) :
    Calls Tryz.prog 19 #[.slice (some ⟨g, 0, none⟩) ns.length c] w (YN w) := by
 have BW : Below w.heap.size w w := Below.refl _ _
 have hcap : (ns.length : Int) ≤ 9223372036854775807 := by omega
 go_enter Tryz.func19, Tryz.ntmps19
 go_wp2_with fail
 go_loopw [3, 4] (fun nv iv wr => ∃ (k : Nat) (n : Int), nv = .int .i64 n ∧ iv = .int .i64 (k : Nat) ∧ k ≤ ns.length ∧ Below w.heap.size w wr) (fun _ iv _ => ns.length - (intOf iv).toNat)
 case atStart => exact ⟨0, _, rfl, rfl, by omega, BW⟩
 case round =>
   obtain ⟨k, n, rfl, rfl, hk, BW⟩ := hrel
   by_cases hlt : k < ns.length
   · have h2 : (k : Int) < (ns.length : Int) := by omega
     obtain ⟨x, hx⟩ : ∃ x, ns[k]? = some x := ⟨_, List.getElem?_eq_getElem hlt⟩
     have hc : wr.cell? ⟨g, k, none⟩ = some (.int .i64 x) := (K.on BW).c k _ (by rw [List.getElem?_map, hx]; rfl)
     obtain ⟨y, hy⟩ : ∃ y, wrap64 (n + x) = y := ⟨_, rfl⟩
     clear hx
     by_cases hm : 1048576 < y
     · have hm2 : decide (1048576 < y) = true := by simp; omega
       go_wp2_with fail
       go_ret
       exact ⟨true, rfl, BW⟩
     · have hm2 : decide (1048576 < y) = false := by simp; omega
       go_wp2_with fail
       go_roundw
       case rel => exact ⟨k + 1, _, rfl, by go_num, by omega, BW⟩
       case measure => simp [intOf]; omega
   · obtain rfl : k = ns.length := by omega
     go_wp2_with fail
     go_ret
     exact ⟨_, rfl, BW⟩
end Go.Proofs.YtplgheabhekedaaGreat
namespace Go.Proofs.YtplgheabhekedaaGreat
open Go.ChangeShapes Go.WideShapes Go.RowKit Nb
set_option maxHeartbeats 8000000 in
set_option maxRecDepth 20000 in
theorem frac_sign (q : Rat) (n : Bool) (A B : Option Addr) (xs ds : List Nat) (c d : Nat) (w : World) (h : Lf w q n A xs c B ds d) :
  Calls Tryz.prog 46 #[frq n A xs.length c false B ds.length d] w (fun e w' => e = .returned (.int .i64 (sgnQ q)) ∧ Below w.heap.size w w') := by
 obtain ⟨V, hV⟩ : ∃ V, V = (w.alloc (.cells #[.bool n, .slice A xs.length c, .bool false, .slice B ds.length d] 29)) := ⟨_, rfl⟩
 have BW : Below w.heap.size w V := by rw [hV]; go_grown
 have KX : Box V w.heap.size [.bool n, .slice A xs.length c, .bool false, .slice B ds.length d] := by rw [hV]; exact Box.new w _ _
 have LX := h.on BW
 clear h
 have KX_0 := KX.c 0 _ rfl
 have KX_1 := KX.c 1 _ rfl
 have KX_2 := KX.c 2 _ rfl
 have KX_3 := KX.c 3 _ rfl
 go_enter Tryz.func46, Tryz.ntmps46
 go_wp2_with fail
 clear KX_0 KX_1 KX_2 KX_3
 rw [← hV]
 clear hV
 refine (fcheck_any n false A B xs ds c d V LX.rq).mono ?_
 rw [chkF_ok LX.okf]
 rintro _ w1 ⟨rfl, hb⟩
 replace KX := KX.on hb
 replace LX := LX.on hb
 replace BW := BW.trans (hb.mono BW.size)
 clear hb
 have KX_0 := KX.c 0 _ rfl
 have KX_1 := KX.c 1 _ rfl
 have KX_2 := KX.c 2 _ rfl
 have KX_3 := KX.c 3 _ rfl
 go_wp2_with fail
 clear KX_0 KX_1 KX_2 KX_3
 refine (wsign_u n A xs c w1 LX.rq.x.sl LX.rq.x.dig LX.rq.x.sz).mono ?_
 rw [sgnV_nl LX.num]
 rintro _ w2 ⟨rfl, hb⟩
 replace KX := KX.on hb
 replace LX := LX.on hb
 replace BW := BW.trans (hb.mono BW.size)
 clear hb
 clear LX KX
 go_wp2
 go_ret
 exact ⟨rfl, BW⟩
end Go.Proofs.YtplgheabhekedaaGreat
namespace Go.Proofs.YtplgheabhekedaaGreat
open Go.ChangeShapes Go.WideShapes Go.RowKit Nb
section
variable {W : World} {q : Rat} {f : Fv}
theorem r_sign (h : Ff W q f) : Calls Tryz.prog 46 #[fv f] W (fun e w' => e = .returned (.int .i64 (sgnQ q)) ∧ Below W.heap.size W w') := by
 obtain ⟨n, A, xs, c, m, B, ds, d⟩ := f
 obtain ⟨rfl, h⟩ := h
 exact frac_sign q n A B xs ds c d W h
end
end Go.Proofs.YtplgheabhekedaaGreat
