/-
  What the product of two fractions in words, the fraction of two numbers, and the quotient of two fractions return. Conditions: that they are fractions, and no longer than memory.
-/
import Derived.Test.YtghcoijinihlnaaGreatDoorFqe
import Derived.Deep.RegionHeld3
import Derived.Deep.DeepCutAuto
import Derived.BigRegion
import Derived.Test.YtghcoijinihlnaaGreatDoorFq5
namespace Go.Proofs.YtghcoijinihlnaaGreatDoor
open Go.RowKit Nb
end Go.Proofs.YtghcoijinihlnaaGreatDoor
namespace Go.Proofs.YtghcoijinihlnaaGreatDoor
open Go.RowKit Nb
/-- Two numbers in boxes, and room for a fraction. -/
theorem box_ints (w : World) (n : Bool) (A : Option Addr) (l c : Nat) (m : Bool) (B : Option Addr) (k d : Nat) (s s' t : TypeId) :
  ∃ V : World, V = ((w.alloc (.cells #[.bool n, .slice A l c] s)).alloc (.cells #[.bool m, .slice B k d] s')).alloc (.cells #[.bool false, .slice none 0 0, .bool false, .slice none 0 0] t) ∧ Below w.heap.size w V ∧ V.heap.size = w.heap.size + 1 + 1 + 1 ∧ RestQ V (w.heap.size + 1 + 1) ∧
   Box V w.heap.size [.bool n, .slice A l c] ∧ Box V (w.heap.size + 1) [.bool m, .slice B k d] ∧ Fz V w.heap.size ∧ Fz V (w.heap.size + 1) := by
 have h1 := Box.new w [.bool n, .slice A l c] s
 have f1 := Fz.new w #[.bool n, .slice A l c] s
 have z1 : (w.alloc (.cells #[.bool n, .slice A l c] s)).heap.size = w.heap.size + 1 := by go_size
 have b2 : Below (w.alloc (.cells #[.bool n, .slice A l c] s)).heap.size (w.alloc (.cells #[.bool n, .slice A l c] s)) ((w.alloc (.cells #[.bool n, .slice A l c] s)).alloc (.cells #[.bool m, .slice B k d] s')) := by go_grown
 have h2 := Box.new (w.alloc (.cells #[.bool n, .slice A l c] s)) [.bool m, .slice B k d] s'
 have f2 := Fz.new (w.alloc (.cells #[.bool n, .slice A l c] s)) #[.bool m, .slice B k d] s'
 have z2 : ((w.alloc (.cells #[.bool n, .slice A l c] s)).alloc (.cells #[.bool m, .slice B k d] s')).heap.size = w.heap.size + 1 + 1 := by go_size
 rw [z1] at h2 f2
 have b3 : Below ((w.alloc (.cells #[.bool n, .slice A l c] s)).alloc (.cells #[.bool m, .slice B k d] s')).heap.size ((w.alloc (.cells #[.bool n, .slice A l c] s)).alloc (.cells #[.bool m, .slice B k d] s')) (((w.alloc (.cells #[.bool n, .slice A l c] s)).alloc (.cells #[.bool m, .slice B k d] s')).alloc (.cells #[.bool false, .slice none 0 0, .bool false, .slice none 0 0] t)) := by go_grown
 have r := RestQ.new ((w.alloc (.cells #[.bool n, .slice A l c] s)).alloc (.cells #[.bool m, .slice B k d] s')) t
 rw [z2] at r
 exact ⟨_, rfl, by go_grown, by go_size, r, (h1.on b2).on b3, h2.on b3, (f1.on b2).on b3, f2.on b3⟩
set_option maxHeartbeats 8000000 in
set_option maxRecDepth 20000 in
theorem ratio_any (X Y : Int) (n m : Bool) (A B : Option Addr) (xs ds : List Nat) (c d C : Nat) (w : World) (h : Nw w X C n A xs c) (k : Nw w Y C m B ds d) (hY : Y ≠ 0) (hC : C ≤ 1759218604390) :
  Calls Tryz.prog 52 #[big n A xs.length c, big m B ds.length d] w (GivesQ w (Rat.divInt X Y) (C + 1)) := by
 obtain ⟨V, hV, BW, hz, RR, KX, KY, FX, FY⟩ := box_ints w n A xs.length c m B ds.length d 58 58 66
 have Xn := h.on BW
 have Yn := k.on BW
 have HC := Lib.hid hC
 clear h k hC hz
 cases m with
 | false =>
  have hYn : ¬ Y < 0 := by have := Yn.v; rw [← this]; show ¬ ((val W64 ds : Nat) : Int) < 0; omega
  obtain ⟨G, hG⟩ : ∃ G, Nat.gcd (X : Int).natAbs (Y : Int).natAbs = G := ⟨_, rfl⟩
  have hG1 : 0 < G := by rw [← hG]; exact Nat.gcd_pos_of_pos_right _ (by omega)
  have hG0 : (G : Int) ≠ 0 := by omega
  have hr := rat_ratio X Y hY (X) (Y) (by rw [if_neg hYn]) (by rw [if_neg hYn]) G hG.symm
  have eA := hr.1.symm
  have eB := hr.2.symm
  have HE := Lib.hid (And.intro eA eB)
  have HH := Lib.hid hG
  have HG0 := Lib.hid hG0
  clear hr eA eB hG hG0 hG1 hY hYn
  have KX_0 := KX.c 0 _ rfl
  have KX_1 := KX.c 1 _ rfl
  have KY_0 := KY.c 0 _ rfl
  have KY_1 := KY.c 1 _ rfl
  go_enter Tryz.func52, Tryz.ntmps52
  go_wp2_with fail
  clear KX_0 KX_1 KY_0 KY_1
  rw [← hV]
  clear hV FX FY
  have lu := Xn.len
  have ld := Yn.len
  refine (gcd_n (L := C) Xn Yn lu ld (by have := HC.out; omega) HH.out).mono ?_
  rintro _ w3 ⟨gn, gA, gz, gk, rfl, Ng, gl, hb⟩
  replace KX := KX.on hb
  replace KY := KY.on hb
  replace Xn := Xn.on hb
  replace Yn := Yn.on hb
  replace RR := RR.on hb
  replace BW := BW.trans (hb.mono BW.size)
  clear hb
  clear lu ld
  have hb : Below w3.heap.size w3 (w3.alloc (.cells #[.bool gn, .slice gA gz.length gk] 58)) := by go_grown
  have KG := Box.new w3 [.bool gn, .slice gA gz.length gk] 58
  have nGKX : w.heap.size ≠ w3.heap.size := Nat.ne_of_lt KX.lt
  have nGKY : w.heap.size + 1 ≠ w3.heap.size := Nat.ne_of_lt KY.lt
  have nGRR : w.heap.size + 1 + 1 ≠ w3.heap.size := Nat.ne_of_lt RR.lr
  replace KX := KX.on hb
  replace KY := KY.on hb
  replace Xn := Xn.on hb
  replace Yn := Yn.on hb
  replace Ng := Ng.on hb
  replace RR := RR.on hb
  replace BW := BW.trans (hb.mono BW.size)
  clear hb
  have KX_0 := KX.c 0 _ rfl
  have KX_1 := KX.c 1 _ rfl
  have KY_0 := KY.c 0 _ rfl
  have KY_1 := KY.c 1 _ rfl
  have KG_0 := KG.c 0 _ rfl
  have KG_1 := KG.c 1 _ rfl
  go_wp2_with fail
  clear KX_0 KX_1 KY_0 KY_1 KG_0 KG_1
  generalize (w3.alloc (.cells #[.bool gn, .slice gA gz.length gk] 58)) = VG at *
  generalize w3.heap.size = pG at *
  refine wp_region_noPanic ?_
  have hb : Below VG.heap.size VG VG.drew := (Below.refl _ _).drew
  replace KX := KX.on hb
  replace KY := KY.on hb
  replace KG := KG.on hb
  replace Xn := Xn.on hb
  replace Yn := Yn.on hb
  replace Ng := Ng.on hb
  replace RR := RR.on hb
  replace BW := BW.trans (hb.mono BW.size)
  clear hb
  refine wp_region_held_drew (S := (fun wx => wx.cell? ⟨w.heap.size, 0, none⟩ = some (.bool n) ∧ wx.cell? ⟨w.heap.size, 1, none⟩ = some (.slice A xs.length c) ∧ wx.cell? ⟨w.heap.size + 1, 0, none⟩ = some (.bool false) ∧ wx.cell? ⟨w.heap.size + 1, 1, none⟩ = some (.slice B ds.length d) ∧ wx.cell? ⟨pG, 0, none⟩ = some (.bool gn) ∧ wx.cell? ⟨pG, 1, none⟩ = some (.slice gA gz.length gk))) (by kernel_rfl) (by exact KX.a2 (KY.a2 KG.b2)) (fun hHeld => ?_)
  generalize VG.drew = Vd at *
  refine pT 0 ?_
  (try simp only [p0, p1, p2, p3])
  refine pT 1 ?_
  (try simp only [p0, p1, p2, p3])
  refine pT 3 ?_
  (try simp only [p0, p1, p2, p3])
  refine pT 4 ?_
  (try simp only [p0, p1, p2, p3])
  refine pR1 2 (fun K hK => ?_)
  go_simp
  (go_at_call 71; with_reducible refine (over_n Xn Ng HG0.out (by have := HC.out; omega) (by have := HC.out; omega)).mono ?_)
  rintro _ wc0 ⟨an, aA, az, ak, rfl, Na, hb⟩
  (try go_wp2_with fail)
  replace KX := KX.on hb
  replace KY := KY.on hb
  replace KG := KG.on hb
  replace Yn := Yn.on hb
  replace Ng := Ng.on hb
  replace RR := RR.on hb
  replace BW := BW.trans (hb.mono BW.size)
  clear hb
  refine hK.out _ _ (by exact KX.a2 (KY.a2 KG.b2)) (fun hHeld => ?_)
  clear hK
  (try simp only [p0, p1, p2, p3])
  refine pR1 5 (fun K hK => ?_)
  go_simp
  (go_at_call 71; with_reducible refine (over_n Yn Ng HG0.out (by have := HC.out; omega) (by have := HC.out; omega)).mono ?_)
  rintro _ wc1 ⟨bn, bA, bz, bk, rfl, Nb, hb⟩
  (try go_wp2_with fail)
  replace KX := KX.on hb
  replace KY := KY.on hb
  replace KG := KG.on hb
  replace Na := Na.on hb
  replace RR := RR.on hb
  replace BW := BW.trans (hb.mono BW.size)
  clear hb
  refine hK.out _ _ (by exact KX.a2 (KY.a2 KG.b2)) (fun hHeld => ?_)
  clear hK
  (try simp only [p0, p1, p2, p3])
  refine pT 6 ?_
  (try simp only [p0, p1, p2, p3])
  replace Na := Na.eq HE.out.1
  replace Nb := Nb.eq HE.out.2
  obtain ⟨rfl, HQ⟩ := Lq.mk' Na Nb
  clear HQ
  have y0 := RR.r0
  have y1 := RR.r1
  have y2 := RR.r2
  have y3 := RR.r3
  have y4 := RR.f0
  have y5 := RR.f1
  have y6 := RR.f2
  have y7 := RR.f3
  refine pR1 7 (fun K hK => ?_)
  go_simp
  replace KX := KX.far4 (g := w.heap.size + 1 + 1) (by first | omega | exact nXRR.symm) (.bool an) (.slice aA az.length ak) (.bool false) (.slice bA bz.length bk)
  replace KY := KY.far4 (g := w.heap.size + 1 + 1) (by first | omega | exact nYRR.symm) (.bool an) (.slice aA az.length ak) (.bool false) (.slice bA bz.length bk)
  replace KG := KG.far4 (g := w.heap.size + 1 + 1) (by first | omega | exact nGRR.symm) (.bool an) (.slice aA az.length ak) (.bool false) (.slice bA bz.length bk)
  replace Na := Na.put4 RR (.bool an) (.slice aA az.length ak) (.bool false) (.slice bA bz.length bk)
  replace Nb := Nb.put4 RR (.bool an) (.slice aA az.length ak) (.bool false) (.slice bA bz.length bk)
  replace BW := Below.putq BW (r := w.heap.size + 1 + 1) (by omega) (.bool an) (.slice aA az.length ak) (.bool false) (.slice bA bz.length bk)
  have KR := Box.laidQ RR (.bool an) (.slice aA az.length ak) (.bool false) (.slice bA bz.length bk)
  clear RR y0 y1 y2 y3 y4 y5 y6 y7
  generalize ((((wc1.setCell ⟨w.heap.size + 1 + 1, 0, none⟩ (.bool an)).setCell ⟨w.heap.size + 1 + 1, 1, none⟩ (.slice aA az.length ak)).setCell ⟨w.heap.size + 1 + 1, 2, none⟩ (.bool false)).setCell ⟨w.heap.size + 1 + 1, 3, none⟩ (.slice bA bz.length bk)) = wsR at *
  refine hK.out _ _ (by exact KX.a2 (KY.a2 KG.b2)) (fun hHeld => ?_)
  clear hK
  (try simp only [p0, p1, p2, p3])
  have y0 := KR.c 0 _ rfl
  have y1 := KR.c 1 _ rfl
  have y2 := KR.c 2 _ rfl
  have y3 := KR.c 3 _ rfl
  refine wpAnyH_done (by kernel_rfl) (NoPanic.normal ?_) _
  go_wp2
  exact bodyPost_ret (v := frq an aA az.length ak false bA bz.length bk) (by simp [results, Tryz.results52, go_sem, y0, y1, y2, y3]) rfl ⟨_, _, _, _, _, _, _, rfl, (Lq.mk' Na Nb).2, BW⟩
 | true =>
  have hYn : Y < 0 := by have h1 := bg_pos Yn.bg rfl; have h2 := Yn.v; rw [← h2]; show -((val W64 ds : Nat) : Int) < 0; omega
  obtain ⟨G, hG⟩ : ∃ G, Nat.gcd (-X : Int).natAbs (-Y : Int).natAbs = G := ⟨_, rfl⟩
  have hG1 : 0 < G := by rw [← hG]; exact Nat.gcd_pos_of_pos_right _ (by omega)
  have hG0 : (G : Int) ≠ 0 := by omega
  have hr := rat_ratio X Y hY (-X) (-Y) (by rw [if_pos hYn]) (by rw [if_pos hYn]) G hG.symm
  have eA := hr.1.symm
  have eB := hr.2.symm
  have HE := Lib.hid (And.intro eA eB)
  have HH := Lib.hid hG
  have HG0 := Lib.hid hG0
  clear hr eA eB hG hG0 hG1 hY hYn
  have KX_0 := KX.c 0 _ rfl
  have KX_1 := KX.c 1 _ rfl
  have KY_0 := KY.c 0 _ rfl
  have KY_1 := KY.c 1 _ rfl
  go_enter Tryz.func52, Tryz.ntmps52
  go_wp2_with fail
  clear KX_0 KX_1 KY_0 KY_1
  rw [← hV]
  clear hV
  go_cut [2] (fun s2 wx => ∃ (un : Bool) (uA : Option Addr) (uz : List Nat) (uk : Nat) (vn : Bool) (vA : Option Addr) (vz : List Nat) (vk : Nat), s2 = .pointer (some ⟨w.heap.size, 0, none⟩) ∧ Below w.heap.size w wx ∧ Box wx w.heap.size [.bool un, .slice uA uz.length uk] ∧ Box wx (w.heap.size + 1) [.bool vn, .slice vA vz.length vk] ∧ RestQ wx (w.heap.size + 1 + 1) ∧ Nw wx (-X) C un uA uz uk ∧ Nw wx (-Y) C vn vA vz vk)
  case first =>
   refine wp_region_noPanic ?_
   have hb : Below V.heap.size V V.drew := (Below.refl _ _).drew
   replace KX := KX.on hb
   replace KY := KY.on hb
   replace Xn := Xn.on hb
   replace Yn := Yn.on hb
   replace FX := FX.on hb
   replace FY := FY.on hb
   replace RR := RR.on hb
   replace BW := BW.trans (hb.mono BW.size)
   clear hb
   refine wp_region_held_drew (S := (fun _ => True)) (by kernel_rfl) trivial (fun hHeld => ?_)
   generalize V.drew = Vd at *
   refine wpAnyH_ready (rs := [0, 2]) (by kernel_rfl) (by simp) (AllReadyH.cons (by (simp only [List.getElem?_toArray, List.getElem?_cons_zero]; rfl)) (fun K hK => ?_) (AllReadyH.cons (by (simp only [List.getElem?_toArray, List.getElem?_cons_succ, List.getElem?_cons_zero]; rfl)) (fun K hK => ?_) AllReadyH.nil))
   ·have a0 := KX.c 0 _ rfl
    have a1 := KX.c 1 _ rfl
    go_simp
    refine hK.out _ _ trivial (fun hHeld => ?_)
    clear hK
    (try simp only [p0, p1, p2, p3])
    clear a0 a1
    refine pR2 1 2 (fun K hK => ?_) (fun K hK => ?_)
    ·go_simp
     (go_at_call 70; with_reducible refine (neg_n Xn (by have := HC.out; omega)).mono ?_)
     rintro _ wu ⟨un, uA, uz, uk, rfl, Nu, hb⟩
     (try go_wp2_with fail)
     replace KX := KX.on hb
     replace KY := KY.on hb
     replace Xn := Xn.on hb
     replace Yn := Yn.on hb
     replace FX := FX.on hb
     replace FY := FY.on hb
     replace RR := RR.on hb
     replace BW := BW.trans (hb.mono BW.size)
     clear hb
     refine hK.out _ _ trivial (fun hHeld => ?_)
     clear hK
     (try simp only [p0, p1, p2, p3])
     refine pR1 2 (fun K hK => ?_)
     have a0 := KY.c 0 _ rfl
     have a1 := KY.c 1 _ rfl
     go_simp
     refine hK.out _ _ trivial (fun hHeld => ?_)
     clear hK
     (try simp only [p0, p1, p2, p3])
     clear a0 a1
     refine pR1 3 (fun K hK => ?_)
     go_simp
     (go_at_call 70; with_reducible refine (neg_n Yn (by have := HC.out; omega)).mono ?_)
     rintro _ wv ⟨vn, vA, vz, vk, rfl, Nv, hb⟩
     (try go_wp2_with fail)
     replace KX := KX.on hb
     replace KY := KY.on hb
     replace Xn := Xn.on hb
     replace Yn := Yn.on hb
     replace FX := FX.on hb
     replace FY := FY.on hb
     replace Nu := Nu.on hb
     replace RR := RR.on hb
     replace BW := BW.trans (hb.mono BW.size)
     clear hb
     refine hK.out _ _ trivial (fun hHeld => ?_)
     clear hK
     (try simp only [p0, p1, p2, p3])
     have a0 := KX.c 0 _ rfl
     have a1 := KX.c 1 _ rfl
     have a2 := FX.2 0
     have a3 := FX.2 1
     refine pR1 4 (fun K hK => ?_)
     go_simp
     replace Nu := Nu.over2 KX (.bool un) (.slice uA uz.length uk)
     replace Nv := Nv.over2 KX (.bool un) (.slice uA uz.length uk)
     replace KY := KY.far2 (g := w.heap.size) (by omega) (.bool un) (.slice uA uz.length uk)
     replace RR := RR.far2 (g := w.heap.size) (by omega) (.bool un) (.slice uA uz.length uk)
     replace FY := (FY.far (g := w.heap.size) 0 (.bool un)).far (g := w.heap.size) 1 (.slice uA uz.length uk)
     replace KX := KX.over2 FX (.bool un) (.slice uA uz.length uk)
     replace BW := (BW.setCell (p := ⟨w.heap.size, 0, none⟩) (Nat.le_refl _) (.bool un)).setCell (p := ⟨w.heap.size, 1, none⟩) (Nat.le_refl _) (.slice uA uz.length uk)
     clear a0 a1 a2 a3 FX Xn Yn
     generalize ((wv.setCell ⟨w.heap.size, 0, none⟩ (.bool un)).setCell ⟨w.heap.size, 1, none⟩ (.slice uA uz.length uk)) = ws at *
     refine hK.out _ _ trivial (fun hHeld => ?_)
     clear hK
     (try simp only [p0, p1, p2, p3])
     have a0 := KY.c 0 _ rfl
     have a1 := KY.c 1 _ rfl
     have a2 := FY.2 0
     have a3 := FY.2 1
     refine pR1 5 (fun K hK => ?_)
     go_simp
     replace Nu := Nu.over2 KY (.bool vn) (.slice vA vz.length vk)
     replace Nv := Nv.over2 KY (.bool vn) (.slice vA vz.length vk)
     replace KX := KX.far2 (g := w.heap.size + 1) (by omega) (.bool vn) (.slice vA vz.length vk)
     replace RR := RR.far2 (g := w.heap.size + 1) (by omega) (.bool vn) (.slice vA vz.length vk)
     replace KY := KY.over2 FY (.bool vn) (.slice vA vz.length vk)
     replace BW := (BW.setCell (p := ⟨w.heap.size + 1, 0, none⟩) (Nat.le_succ _) (.bool vn)).setCell (p := ⟨w.heap.size + 1, 1, none⟩) (Nat.le_succ _) (.slice vA vz.length vk)
     clear a0 a1 a2 a3 FY
     generalize ((ws.setCell ⟨w.heap.size + 1, 0, none⟩ (.bool vn)).setCell ⟨w.heap.size + 1, 1, none⟩ (.slice vA vz.length vk)) = wt at *
     refine hK.out _ _ trivial (fun hHeld => ?_)
     clear hK
     (try simp only [p0, p1, p2, p3])
     refine wpAnyH_done (by kernel_rfl) (NoPanic.normal ?_) _
     go_wp2
     go_meet
     exact ⟨un, uA, uz, uk, vn, vA, vz, vk, rfl, BW, KX, KY, RR, Nu, Nv⟩
    ·have a0 := KY.c 0 _ rfl
     have a1 := KY.c 1 _ rfl
     go_simp
     refine hK.out _ _ trivial (fun hHeld => ?_)
     clear hK
     (try simp only [p0, p1, p2, p3])
     clear a0 a1
     refine pR1 1 (fun K hK => ?_)
     go_simp
     (go_at_call 70; with_reducible refine (neg_n Xn (by have := HC.out; omega)).mono ?_)
     rintro _ wu ⟨un, uA, uz, uk, rfl, Nu, hb⟩
     (try go_wp2_with fail)
     replace KX := KX.on hb
     replace KY := KY.on hb
     replace Xn := Xn.on hb
     replace Yn := Yn.on hb
     replace FX := FX.on hb
     replace FY := FY.on hb
     replace RR := RR.on hb
     replace BW := BW.trans (hb.mono BW.size)
     clear hb
     refine hK.out _ _ trivial (fun hHeld => ?_)
     clear hK
     (try simp only [p0, p1, p2, p3])
     refine pR1 3 (fun K hK => ?_)
     go_simp
     (go_at_call 70; with_reducible refine (neg_n Yn (by have := HC.out; omega)).mono ?_)
     rintro _ wv ⟨vn, vA, vz, vk, rfl, Nv, hb⟩
     (try go_wp2_with fail)
     replace KX := KX.on hb
     replace KY := KY.on hb
     replace Xn := Xn.on hb
     replace Yn := Yn.on hb
     replace FX := FX.on hb
     replace FY := FY.on hb
     replace Nu := Nu.on hb
     replace RR := RR.on hb
     replace BW := BW.trans (hb.mono BW.size)
     clear hb
     refine hK.out _ _ trivial (fun hHeld => ?_)
     clear hK
     (try simp only [p0, p1, p2, p3])
     have a0 := KX.c 0 _ rfl
     have a1 := KX.c 1 _ rfl
     have a2 := FX.2 0
     have a3 := FX.2 1
     refine pR1 4 (fun K hK => ?_)
     go_simp
     replace Nu := Nu.over2 KX (.bool un) (.slice uA uz.length uk)
     replace Nv := Nv.over2 KX (.bool un) (.slice uA uz.length uk)
     replace KY := KY.far2 (g := w.heap.size) (by omega) (.bool un) (.slice uA uz.length uk)
     replace RR := RR.far2 (g := w.heap.size) (by omega) (.bool un) (.slice uA uz.length uk)
     replace FY := (FY.far (g := w.heap.size) 0 (.bool un)).far (g := w.heap.size) 1 (.slice uA uz.length uk)
     replace KX := KX.over2 FX (.bool un) (.slice uA uz.length uk)
     replace BW := (BW.setCell (p := ⟨w.heap.size, 0, none⟩) (Nat.le_refl _) (.bool un)).setCell (p := ⟨w.heap.size, 1, none⟩) (Nat.le_refl _) (.slice uA uz.length uk)
     clear a0 a1 a2 a3 FX Xn Yn
     generalize ((wv.setCell ⟨w.heap.size, 0, none⟩ (.bool un)).setCell ⟨w.heap.size, 1, none⟩ (.slice uA uz.length uk)) = ws at *
     refine hK.out _ _ trivial (fun hHeld => ?_)
     clear hK
     (try simp only [p0, p1, p2, p3])
     have a0 := KY.c 0 _ rfl
     have a1 := KY.c 1 _ rfl
     have a2 := FY.2 0
     have a3 := FY.2 1
     refine pR1 5 (fun K hK => ?_)
     go_simp
     replace Nu := Nu.over2 KY (.bool vn) (.slice vA vz.length vk)
     replace Nv := Nv.over2 KY (.bool vn) (.slice vA vz.length vk)
     replace KX := KX.far2 (g := w.heap.size + 1) (by omega) (.bool vn) (.slice vA vz.length vk)
     replace RR := RR.far2 (g := w.heap.size + 1) (by omega) (.bool vn) (.slice vA vz.length vk)
     replace KY := KY.over2 FY (.bool vn) (.slice vA vz.length vk)
     replace BW := (BW.setCell (p := ⟨w.heap.size + 1, 0, none⟩) (Nat.le_succ _) (.bool vn)).setCell (p := ⟨w.heap.size + 1, 1, none⟩) (Nat.le_succ _) (.slice vA vz.length vk)
     clear a0 a1 a2 a3 FY
     generalize ((ws.setCell ⟨w.heap.size + 1, 0, none⟩ (.bool vn)).setCell ⟨w.heap.size + 1, 1, none⟩ (.slice vA vz.length vk)) = wt at *
     refine hK.out _ _ trivial (fun hHeld => ?_)
     clear hK
     (try simp only [p0, p1, p2, p3])
     refine wpAnyH_done (by kernel_rfl) (NoPanic.normal ?_) _
     go_wp2
     go_meet
     exact ⟨un, uA, uz, uk, vn, vA, vz, vk, rfl, BW, KX, KY, RR, Nu, Nv⟩
   ·have a0 := KY.c 0 _ rfl
    have a1 := KY.c 1 _ rfl
    go_simp
    refine hK.out _ _ trivial (fun hHeld => ?_)
    clear hK
    (try simp only [p0, p1, p2, p3])
    clear a0 a1
    refine wpAnyH_ready (rs := [0]) (by kernel_rfl) (by simp) (AllReadyH.cons (by (simp only [List.getElem?_toArray, List.getElem?_cons_zero]; rfl)) (fun K hK => ?_) AllReadyH.nil)
    have a0 := KX.c 0 _ rfl
    have a1 := KX.c 1 _ rfl
    go_simp
    refine hK.out _ _ trivial (fun hHeld => ?_)
    clear hK
    (try simp only [p0, p1, p2, p3])
    clear a0 a1
    refine pR1 1 (fun K hK => ?_)
    go_simp
    (go_at_call 70; with_reducible refine (neg_n Xn (by have := HC.out; omega)).mono ?_)
    rintro _ wu ⟨un, uA, uz, uk, rfl, Nu, hb⟩
    (try go_wp2_with fail)
    replace KX := KX.on hb
    replace KY := KY.on hb
    replace Xn := Xn.on hb
    replace Yn := Yn.on hb
    replace FX := FX.on hb
    replace FY := FY.on hb
    replace RR := RR.on hb
    replace BW := BW.trans (hb.mono BW.size)
    clear hb
    refine hK.out _ _ trivial (fun hHeld => ?_)
    clear hK
    (try simp only [p0, p1, p2, p3])
    refine pR1 3 (fun K hK => ?_)
    go_simp
    (go_at_call 70; with_reducible refine (neg_n Yn (by have := HC.out; omega)).mono ?_)
    rintro _ wv ⟨vn, vA, vz, vk, rfl, Nv, hb⟩
    (try go_wp2_with fail)
    replace KX := KX.on hb
    replace KY := KY.on hb
    replace Xn := Xn.on hb
    replace Yn := Yn.on hb
    replace FX := FX.on hb
    replace FY := FY.on hb
    replace Nu := Nu.on hb
    replace RR := RR.on hb
    replace BW := BW.trans (hb.mono BW.size)
    clear hb
    refine hK.out _ _ trivial (fun hHeld => ?_)
    clear hK
    (try simp only [p0, p1, p2, p3])
    have a0 := KX.c 0 _ rfl
    have a1 := KX.c 1 _ rfl
    have a2 := FX.2 0
    have a3 := FX.2 1
    refine pR1 4 (fun K hK => ?_)
    go_simp
    replace Nu := Nu.over2 KX (.bool un) (.slice uA uz.length uk)
    replace Nv := Nv.over2 KX (.bool un) (.slice uA uz.length uk)
    replace KY := KY.far2 (g := w.heap.size) (by omega) (.bool un) (.slice uA uz.length uk)
    replace RR := RR.far2 (g := w.heap.size) (by omega) (.bool un) (.slice uA uz.length uk)
    replace FY := (FY.far (g := w.heap.size) 0 (.bool un)).far (g := w.heap.size) 1 (.slice uA uz.length uk)
    replace KX := KX.over2 FX (.bool un) (.slice uA uz.length uk)
    replace BW := (BW.setCell (p := ⟨w.heap.size, 0, none⟩) (Nat.le_refl _) (.bool un)).setCell (p := ⟨w.heap.size, 1, none⟩) (Nat.le_refl _) (.slice uA uz.length uk)
    clear a0 a1 a2 a3 FX Xn Yn
    generalize ((wv.setCell ⟨w.heap.size, 0, none⟩ (.bool un)).setCell ⟨w.heap.size, 1, none⟩ (.slice uA uz.length uk)) = ws at *
    refine hK.out _ _ trivial (fun hHeld => ?_)
    clear hK
    (try simp only [p0, p1, p2, p3])
    have a0 := KY.c 0 _ rfl
    have a1 := KY.c 1 _ rfl
    have a2 := FY.2 0
    have a3 := FY.2 1
    refine pR1 5 (fun K hK => ?_)
    go_simp
    replace Nu := Nu.over2 KY (.bool vn) (.slice vA vz.length vk)
    replace Nv := Nv.over2 KY (.bool vn) (.slice vA vz.length vk)
    replace KX := KX.far2 (g := w.heap.size + 1) (by omega) (.bool vn) (.slice vA vz.length vk)
    replace RR := RR.far2 (g := w.heap.size + 1) (by omega) (.bool vn) (.slice vA vz.length vk)
    replace KY := KY.over2 FY (.bool vn) (.slice vA vz.length vk)
    replace BW := (BW.setCell (p := ⟨w.heap.size + 1, 0, none⟩) (Nat.le_succ _) (.bool vn)).setCell (p := ⟨w.heap.size + 1, 1, none⟩) (Nat.le_succ _) (.slice vA vz.length vk)
    clear a0 a1 a2 a3 FY
    generalize ((ws.setCell ⟨w.heap.size + 1, 0, none⟩ (.bool vn)).setCell ⟨w.heap.size + 1, 1, none⟩ (.slice vA vz.length vk)) = wt at *
    refine hK.out _ _ trivial (fun hHeld => ?_)
    clear hK
    (try simp only [p0, p1, p2, p3])
    refine wpAnyH_done (by kernel_rfl) (NoPanic.normal ?_) _
    go_wp2
    go_meet
    exact ⟨un, uA, uz, uk, vn, vA, vz, vk, rfl, BW, KX, KY, RR, Nu, Nv⟩
  case rest =>
   obtain ⟨un, uA, uz, uk, vn, vA, vz, vk, rfl, BW, KX, KY, RR, Nu, Nv⟩ := hcut
   have KX_0 := KX.c 0 _ rfl
   have KX_1 := KX.c 1 _ rfl
   have KY_0 := KY.c 0 _ rfl
   have KY_1 := KY.c 1 _ rfl
   go_wp2_with fail
   clear KX_0 KX_1 KY_0 KY_1
   have lu := Nu.len
   have ld := Nv.len
   refine (gcd_n (L := C) Nu Nv lu ld (by have := HC.out; omega) HH.out).mono ?_
   rintro _ w3 ⟨gn, gA, gz, gk, rfl, Ng, gl, hb⟩
   replace KX := KX.on hb
   replace KY := KY.on hb
   replace Nu := Nu.on hb
   replace Nv := Nv.on hb
   replace RR := RR.on hb
   replace BW := BW.trans (hb.mono BW.size)
   clear hb
   clear lu ld
   have hb : Below w3.heap.size w3 (w3.alloc (.cells #[.bool gn, .slice gA gz.length gk] 58)) := by go_grown
   have KG := Box.new w3 [.bool gn, .slice gA gz.length gk] 58
   have nGKX : w.heap.size ≠ w3.heap.size := Nat.ne_of_lt KX.lt
   have nGKY : w.heap.size + 1 ≠ w3.heap.size := Nat.ne_of_lt KY.lt
   have nGRR : w.heap.size + 1 + 1 ≠ w3.heap.size := Nat.ne_of_lt RR.lr
   replace KX := KX.on hb
   replace KY := KY.on hb
   replace Nu := Nu.on hb
   replace Nv := Nv.on hb
   replace Ng := Ng.on hb
   replace RR := RR.on hb
   replace BW := BW.trans (hb.mono BW.size)
   clear hb
   have KX_0 := KX.c 0 _ rfl
   have KX_1 := KX.c 1 _ rfl
   have KY_0 := KY.c 0 _ rfl
   have KY_1 := KY.c 1 _ rfl
   have KG_0 := KG.c 0 _ rfl
   have KG_1 := KG.c 1 _ rfl
   go_wp2_with fail
   clear KX_0 KX_1 KY_0 KY_1 KG_0 KG_1
   generalize (w3.alloc (.cells #[.bool gn, .slice gA gz.length gk] 58)) = VG at *
   generalize w3.heap.size = pG at *
   refine wp_region_noPanic ?_
   have hb : Below VG.heap.size VG VG.drew := (Below.refl _ _).drew
   replace KX := KX.on hb
   replace KY := KY.on hb
   replace KG := KG.on hb
   replace Nu := Nu.on hb
   replace Nv := Nv.on hb
   replace Ng := Ng.on hb
   replace RR := RR.on hb
   replace BW := BW.trans (hb.mono BW.size)
   clear hb
   refine wp_region_held_drew (S := (fun wx => wx.cell? ⟨w.heap.size, 0, none⟩ = some (.bool un) ∧ wx.cell? ⟨w.heap.size, 1, none⟩ = some (.slice uA uz.length uk) ∧ wx.cell? ⟨w.heap.size + 1, 0, none⟩ = some (.bool vn) ∧ wx.cell? ⟨w.heap.size + 1, 1, none⟩ = some (.slice vA vz.length vk) ∧ wx.cell? ⟨pG, 0, none⟩ = some (.bool gn) ∧ wx.cell? ⟨pG, 1, none⟩ = some (.slice gA gz.length gk))) (by kernel_rfl) (by exact KX.a2 (KY.a2 KG.b2)) (fun hHeld => ?_)
   generalize VG.drew = Vd at *
   refine pT 0 ?_
   (try simp only [p0, p1, p2, p3])
   refine pT 1 ?_
   (try simp only [p0, p1, p2, p3])
   refine pT 3 ?_
   (try simp only [p0, p1, p2, p3])
   refine pT 4 ?_
   (try simp only [p0, p1, p2, p3])
   refine pR1 2 (fun K hK => ?_)
   go_simp
   (go_at_call 71; with_reducible refine (over_n Nu Ng HG0.out (by have := HC.out; omega) (by have := HC.out; omega)).mono ?_)
   rintro _ wc0 ⟨an, aA, az, ak, rfl, Na, hb⟩
   (try go_wp2_with fail)
   replace KX := KX.on hb
   replace KY := KY.on hb
   replace KG := KG.on hb
   replace Nv := Nv.on hb
   replace Ng := Ng.on hb
   replace RR := RR.on hb
   replace BW := BW.trans (hb.mono BW.size)
   clear hb
   refine hK.out _ _ (by exact KX.a2 (KY.a2 KG.b2)) (fun hHeld => ?_)
   clear hK
   (try simp only [p0, p1, p2, p3])
   refine pR1 5 (fun K hK => ?_)
   go_simp
   (go_at_call 71; with_reducible refine (over_n Nv Ng HG0.out (by have := HC.out; omega) (by have := HC.out; omega)).mono ?_)
   rintro _ wc1 ⟨bn, bA, bz, bk, rfl, Nb, hb⟩
   (try go_wp2_with fail)
   replace KX := KX.on hb
   replace KY := KY.on hb
   replace KG := KG.on hb
   replace Na := Na.on hb
   replace RR := RR.on hb
   replace BW := BW.trans (hb.mono BW.size)
   clear hb
   refine hK.out _ _ (by exact KX.a2 (KY.a2 KG.b2)) (fun hHeld => ?_)
   clear hK
   (try simp only [p0, p1, p2, p3])
   refine pT 6 ?_
   (try simp only [p0, p1, p2, p3])
   replace Na := Na.eq HE.out.1
   replace Nb := Nb.eq HE.out.2
   obtain ⟨rfl, HQ⟩ := Lq.mk' Na Nb
   clear HQ
   have y0 := RR.r0
   have y1 := RR.r1
   have y2 := RR.r2
   have y3 := RR.r3
   have y4 := RR.f0
   have y5 := RR.f1
   have y6 := RR.f2
   have y7 := RR.f3
   refine pR1 7 (fun K hK => ?_)
   go_simp
   replace KX := KX.far4 (g := w.heap.size + 1 + 1) (by first | omega | exact nXRR.symm) (.bool an) (.slice aA az.length ak) (.bool false) (.slice bA bz.length bk)
   replace KY := KY.far4 (g := w.heap.size + 1 + 1) (by first | omega | exact nYRR.symm) (.bool an) (.slice aA az.length ak) (.bool false) (.slice bA bz.length bk)
   replace KG := KG.far4 (g := w.heap.size + 1 + 1) (by first | omega | exact nGRR.symm) (.bool an) (.slice aA az.length ak) (.bool false) (.slice bA bz.length bk)
   replace Na := Na.put4 RR (.bool an) (.slice aA az.length ak) (.bool false) (.slice bA bz.length bk)
   replace Nb := Nb.put4 RR (.bool an) (.slice aA az.length ak) (.bool false) (.slice bA bz.length bk)
   replace BW := Below.putq BW (r := w.heap.size + 1 + 1) (by omega) (.bool an) (.slice aA az.length ak) (.bool false) (.slice bA bz.length bk)
   have KR := Box.laidQ RR (.bool an) (.slice aA az.length ak) (.bool false) (.slice bA bz.length bk)
   clear RR y0 y1 y2 y3 y4 y5 y6 y7
   generalize ((((wc1.setCell ⟨w.heap.size + 1 + 1, 0, none⟩ (.bool an)).setCell ⟨w.heap.size + 1 + 1, 1, none⟩ (.slice aA az.length ak)).setCell ⟨w.heap.size + 1 + 1, 2, none⟩ (.bool false)).setCell ⟨w.heap.size + 1 + 1, 3, none⟩ (.slice bA bz.length bk)) = wsR at *
   refine hK.out _ _ (by exact KX.a2 (KY.a2 KG.b2)) (fun hHeld => ?_)
   clear hK
   (try simp only [p0, p1, p2, p3])
   have y0 := KR.c 0 _ rfl
   have y1 := KR.c 1 _ rfl
   have y2 := KR.c 2 _ rfl
   have y3 := KR.c 3 _ rfl
   refine wpAnyH_done (by kernel_rfl) (NoPanic.normal ?_) _
   go_wp2
   exact bodyPost_ret (v := frq an aA az.length ak false bA bz.length bk) (by simp [results, Tryz.results52, go_sem, y0, y1, y2, y3]) rfl ⟨_, _, _, _, _, _, _, rfl, (Lq.mk' Na Nb).2, BW⟩
end Go.Proofs.YtghcoijinihlnaaGreatDoor
/-! ### Fq8 -/
namespace Go.Proofs.YtghcoijinihlnaaGreatDoor
open Go.RowKit Nb
end Go.Proofs.YtghcoijinihlnaaGreatDoor
