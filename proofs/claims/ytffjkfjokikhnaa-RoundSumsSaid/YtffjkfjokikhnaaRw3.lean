/-
  What the document's own Divide returns where the divisor has one digit and neither is negative. Condition: that the numbers are numbers.
-/
import Derived.Test.YtffjkfjokikhnaaRw2
namespace Go.Proofs.Ytffjkfjokikhnaa.Rb
open Go.RowKit Nb Fl
theorem Bg.at {W : World} {n : Bool} {V : Option Addr} {zs : List Nat} {e C : Nat} (h : Bg W n V zs e C) {a : Addr} {v : Value} (hv : W.cell? a = some v) (hne : ∀ n, v ≠ .int .u32 n) (u : Value) : Bg (W.setCell a u) n V zs e C :=
  ⟨by simpa using h.sl.keepAtI hv hne u, h.dig, h.norm, h.sign, h.len, h.cap⟩
theorem Rest.put {W : World} {p q i : Nat} (h : Rest W q) (hne : p ≠ q) (u : Value) : Rest (W.setCell ⟨p, i, none⟩ u) q :=
  ⟨by simpa using h.lr, (World.cell?_setCell_other _ _ _ _ (fun e => hne (by injection e))).trans h.r0, (World.cell?_setCell_other _ _ _ _ (fun e => hne (by injection e))).trans h.r1, by simpa using h.f0, by simpa using h.f1⟩
theorem two_laid {w W : World} {p q : Nat} {n m : Bool} {V U : Option Addr} {us rs : List Nat} {k l C : Nat} (hp : Rest W p) (hq : Rest W q) (hpq : p ≠ q) (hb : Below w.heap.size w W) (hwp : w.heap.size ≤ p) (hwq : w.heap.size ≤ q) (h1 : Bg W n V us k C) (h2 : Bg W m U rs l C) :
    Bg ((((W.setCell ⟨p, 0, none⟩ (.bool n)).setCell ⟨p, 1, none⟩ (.slice V us.length k)).setCell ⟨q, 0, none⟩ (.bool m)).setCell ⟨q, 1, none⟩ (.slice U rs.length l)) n V us k C ∧
    Bg ((((W.setCell ⟨p, 0, none⟩ (.bool n)).setCell ⟨p, 1, none⟩ (.slice V us.length k)).setCell ⟨q, 0, none⟩ (.bool m)).setCell ⟨q, 1, none⟩ (.slice U rs.length l)) m U rs l C ∧
    Below w.heap.size w ((((W.setCell ⟨p, 0, none⟩ (.bool n)).setCell ⟨p, 1, none⟩ (.slice V us.length k)).setCell ⟨q, 0, none⟩ (.bool m)).setCell ⟨q, 1, none⟩ (.slice U rs.length l)) := by
  have e1 : (W.setCell ⟨p, 0, none⟩ (.bool n)).cell? ⟨p, 1, none⟩ = some (.slice none 0 0) := by rw [World.cell?_setCell_other _ _ _ _ (by simp)]; exact hp.r1
  have hq2 := (hq.put (i := 0) hpq (.bool n)).put (i := 1) hpq (.slice V us.length k)
  have e3 : (((W.setCell ⟨p, 0, none⟩ (.bool n)).setCell ⟨p, 1, none⟩ (.slice V us.length k)).setCell ⟨q, 0, none⟩ (.bool m)).cell? ⟨q, 1, none⟩ = some (.slice none 0 0) := by rw [World.cell?_setCell_other _ _ _ _ (by simp)]; exact hq2.r1
  refine ⟨?_, ?_, (((hb.setCell hwp _).setCell hwp _).setCell hwq _).setCell hwq _⟩
  · exact (((h1.at hp.r0 (by intro _ e; cases e) _).at e1 (by intro _ e; cases e) _).at hq2.r0 (by intro _ e; cases e) _).at e3 (by intro _ e; cases e) _
  · exact (((h2.at hp.r0 (by intro _ e; cases e) _).at e1 (by intro _ e; cases e) _).at hq2.r0 (by intro _ e; cases e) _).at e3 (by intro _ e; cases e) _
/-- Quotient and rest. -/
def Parts (w : World) (Q R L : Nat) (e : Ending) (w' : World) : Prop := ∃ (V : Option Addr) (us : List Nat) (k : Nat) (U : Option Addr) (rs : List Nat) (l : Nat), e = .returned (.tuple #[big false V us.length k, big false U rs.length l]) ∧
  Bg w' false V us k maxLen ∧ Bg w' false U rs l maxLen ∧ val W32 us = Q ∧ val W32 rs = R ∧ us.length ≤ L ∧ rs.length ≤ 1 ∧ Below w.heap.size w w'
set_option maxHeartbeats 4000000 in
theorem rdivide1_any (A B : Option Addr) (xs : List Nat) (c d y : Nat) (w : World) (hx : Bg w false A xs c maxLen) (hy : Bg w false B [y] d maxLen) (hl : xs.length * 4 ≤ 140737488351232) (Q R : Nat) (hQ : val W32 xs / y = Q) (hR : val W32 xs % y = R) :
    Calls Try.prog 99 #[big false A xs.length c, big false B [y].length d] w (Parts w Q R xs.length) := by
  have hy0 : 0 < y := by
    have := (norm_iff (xs := [y]) (by simp)).1 hy.norm
    simp at this
    omega
  have hy1 : y < 4294967296 := hy.dig y (by simp)
  obtain ⟨bd, rfl, _, _⟩ := hy.sl.at_ (i := 0) (by simp)
  have ht := Duo.boxed (n1 := false) (n2 := false) (l1 := xs.length) (c := c) (l2 := [y].length) (d := d) hx.sl hy.sl
  have hr1 := Rest.new ((w.alloc (.cells #[.bool false, .slice A xs.length c] 49)).alloc (.cells #[.bool false, .slice (some bd) [y].length d] 49))
  have hr2 := Rest.new (((w.alloc (.cells #[.bool false, .slice A xs.length c] 49)).alloc (.cells #[.bool false, .slice (some bd) [y].length d] 49)).alloc (.cells #[.bool false, .slice none 0 0] 49))
  have hall := Duo.keep (W' := ((((w.alloc (.cells #[.bool false, .slice A xs.length c] 49)).alloc (.cells #[.bool false, .slice (some bd) [y].length d] 49)).alloc (.cells #[.bool false, .slice none 0 0] 49)).alloc (.cells #[.bool false, .slice none 0 0] 49))) (ht.all) (by go_grown)
  replace hr1 := hr1.on (W' := ((((w.alloc (.cells #[.bool false, .slice A xs.length c] 49)).alloc (.cells #[.bool false, .slice (some bd) [y].length d] 49)).alloc (.cells #[.bool false, .slice none 0 0] 49)).alloc (.cells #[.bool false, .slice none 0 0] 49))) (by go_grown)
  rw [show ((w.alloc (.cells #[.bool false, .slice A xs.length c] 49)).alloc (.cells #[.bool false, .slice (some bd) [y].length d] 49)).heap.size = w.heap.size + 1 + 1 by go_size] at hr1
  rw [show (((w.alloc (.cells #[.bool false, .slice A xs.length c] 49)).alloc (.cells #[.bool false, .slice (some bd) [y].length d] 49)).alloc (.cells #[.bool false, .slice none 0 0] 49)).heap.size = w.heap.size + 1 + 1 + 1 by go_size] at hr2
  have hl1 : [y].length = 1 := rfl
  rw [hl1] at *
  have hdx := hx.dig
  have HD : Hid (∀ W, Sl .u32 W W.heap.size A xs → Sl .u32 W W.heap.size (some bd) [y] → Calls Try.prog 109 #[.slice A xs.length c, .slice (some bd) 1 d] W fun e w' => ∃ v u, e = .returned (.tuple #[v, u]) ∧ Limbs W Q xs.length v w' ∧ Limbs W R 1 u w') := Lib.hid (fun W h1 h2 => by
    have := divide1_any A bd xs c d y W h1 hdx h2 hy0 (by omega) hl
    rw [hQ, hR] at this
    exact this)
  clear ht hx hy hQ hR hdx hl1
  generalize hW : ((((w.alloc (.cells #[.bool false, .slice A xs.length c] 49)).alloc (.cells #[.bool false, .slice (some bd) 1 d] 49)).alloc (.cells #[.bool false, .slice none 0 0] 49)).alloc (.cells #[.bool false, .slice none 0 0] 49)) = W at *
  have HR1 := Lib.hid hr1
  have HR2 := Lib.hid hr2
  have HALL := Lib.hid hall
  have k0 := hall.1.a0
  have k1 := hall.1.a1
  have k2 := hall.1.b0
  have k3 := hall.1.b1
  clear hr1 hr2 hall
  subst hW
  go_enter Try.func99, Try.ntmps99
  go_wp2_with fail
  generalize ((((w.alloc (.cells #[.bool false, .slice A xs.length c] 49)).alloc (.cells #[.bool false, .slice (some bd) 1 d] 49)).alloc (.cells #[.bool false, .slice none 0 0] 49)).alloc (.cells #[.bool false, .slice none 0 0] 49)) = W at *
  refine (HD.out W (Duo.sa' HALL.out) (Duo.sb' HALL.out)).mono ?_
  rintro e w1 ⟨v, u, rfl, ⟨V, us, k, rfl, hs1, hd1, hn1, hv1, hk1, hk2, hb1⟩, ⟨U, rs, l, rfl, hs2, hd2, hn2, hv2, hl3, hl4, _⟩⟩
  have hall := Duo.keep HALL.out hb1
  have HR1' := Lib.hid (HR1.out.on hb1)
  have HR2' := Lib.hid (HR2.out.on hb1)
  have HV := Lib.hid (And.intro hv1 hv2)
  have HT1 : Hid (∀ W, Sl .u32 W W.heap.size V us → Calls Try.prog 90 #[.bool false, .slice V us.length k] W fun e w' => ∃ A' c', e = .returned (big false A' us.length c') ∧ Bg w' false A' us c' maxLen ∧ Below W.heap.size W w') := Lib.hid (fun W h => by
    have := sgd_any false V us k W h hd1 hk1 (by unfold maxLen; omega)
    rw [trimL_norm hn1] at this
    exact this)
  have HT2 : Hid (∀ W, Sl .u32 W W.heap.size U rs → Calls Try.prog 90 #[.bool false, .slice U rs.length l] W fun e w' => ∃ A' c', e = .returned (big false A' rs.length c') ∧ Bg w' false A' rs c' maxLen ∧ Below W.heap.size W w') := Lib.hid (fun W h => by
    have := sgd_any false U rs l W h hd2 hl3 (by unfold maxLen; omega)
    rw [trimL_norm hn2] at this
    exact this)
  have HLN := Lib.hid (And.intro (show us.length ≤ xs.length by omega) (show rs.length ≤ 1 by omega))
  have HS1 := Lib.hid hs1
  have HS2 : Hid (Sl .u32 w1.drew w1.drew.heap.size U rs) := Lib.hid hs2
  have HBW := Lib.hid hall.1.below
  have HC1 := Lib.hid (HT1.out w1.drew hs1)
  have k0 := hall.1.a0
  have k1 := hall.1.a1
  have k2 := hall.1.b0
  have k3 := hall.1.b1
  clear hd1 hn1 hv1 hd2 hn2 hv2 hs1 hs2 hb1 HALL HR1 HR2
  go_wp2_with fail
  go_region_held3 (fun W' => Duo w W' w.heap.size (w.heap.size + 1) false false A (some bd) xs [y] xs.length c 1 d ∧ W'.cell? ⟨w.heap.size, 0, none⟩ = some (.bool false) ∧ W'.cell? ⟨w.heap.size, 1, none⟩ = some (.slice A xs.length c) ∧ W'.cell? ⟨w.heap.size + 1, 0, none⟩ = some (.bool false) ∧ W'.cell? ⟨w.heap.size + 1, 1, none⟩ = some (.slice (some bd) 1 d))
    (first | exact hall | exact Duo.keep hall ((Below.refl _ _).drew) | exact Duo.keep (by assumption) (by assumption) | exact Duo.keep (by assumption) ((Below.refl _ _).drew) | exact Duo.put (by assumption) (by omega) (by omega) (by omega) _ _)
    (first
      | (go_at_call 90; (with_reducible refine (hc2.out).mono ?_); rintro e wj ⟨U2, l2', rfl, hBj, hbj⟩
         have hrj1 := hri1.on hbj
         have hrj2 := hri2.on hbj
         have hwj := hwi.trans (hbj.mono hwi.size)
         have hBi2 := hBi.below hbj
         have g0 := hrj1.r0
         have g1 := hrj1.r1
         have g2 := hrj1.f0
         have g3 := hrj1.f1
         have g4 := hrj2.r0
         have g5 := hrj2.r1
         have g6 := hrj2.f0
         have g7 := hrj2.f1)
      | (go_at_call 90; refine (HC1.out).mono ?_; rintro e wi ⟨V2, k2', rfl, hBi, hbi⟩
         have hri1 := Rest.on (Rest.drew HR1'.out) hbi
         have hri2 := Rest.on (Rest.drew HR2'.out) hbi
         have hc2 := Lib.hid (HT2.out wi ((HS2.out.below hbi).more hbi.size))
         have hwi := (HBW.out.drew).trans (hbi.mono HBW.out.size)))
  have hL := Lib.hid (two_laid hrj1 hrj2 (by omega) hwj (by omega) (by omega) hBi2 hBj)
  go_wp2
  refine bodyPost_ret (v := .tuple #[big false V2 us.length k2', big false U2 rs.length l2']) (by simp [results, Try.results99, go_sem, g0, g1, g4, g5]) rfl ?_
  exact ⟨V2, us, k2', U2, rs, l2', rfl, hL.out.1, hL.out.2.1, HV.out.1, HV.out.2, HLN.out.1, HLN.out.2, hL.out.2.2⟩
end Go.Proofs.Ytffjkfjokikhnaa.Rb
