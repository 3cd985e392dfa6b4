/-
  What the document's own quotient returns where the divisor is 1 and the power of two is not negative. Condition: that the answer fits.
-/
import Derived.Test.YtffjkfjokikhnaaRw3
import Derived.Deep.QuietTactic
import Derived.BigQuiet
namespace Go.Proofs.Ytffjkfjokikhnaa.Rb
open Go.RowKit Nb Fl
theorem sv_nat {n : Bool} {zs : List Nat} (hn : Norm zs) (hs : zs = [] → n = false) {Z : Nat} (h : sv n (val W32 zs) = (Z : Int)) : n = false ∧ val W32 zs = Z := by
  cases n
  · exact ⟨rfl, by simp [sv] at h; omega⟩
  · exfalso
    rcases Nat.eq_zero_or_pos zs.length with h0 | h0
    · have := hs (List.eq_nil_of_length_eq_zero h0)
      simp at this
    · have h1 := norm_ge (B := W32) hn h0
      have h2 : 0 < W32 ^ (zs.length - 1) := Nat.pow_pos (by decide)
      simp [sv] at h
      omega
theorem val_zero {zs : List Nat} (hn : Norm zs) (h : val W32 zs = 0) : zs.length = 0 := by
  rcases Nat.eq_zero_or_pos zs.length with h0 | h0
  · exact h0
  · have h1 := norm_ge (B := W32) hn h0
    have h2 : 0 < W32 ^ (zs.length - 1) := Nat.pow_pos (by decide)
    omega
/-- A number that is not negative. -/
def Givn (w : World) (Z L : Nat) (e : Ending) (w' : World) : Prop := ∃ (A : Option Addr) (zs : List Nat) (c : Nat), e = .returned (big false A zs.length c) ∧ Bg w' false A zs c maxLen ∧ val W32 zs = Z ∧ zs.length ≤ L ∧ Below w.heap.size w w'
theorem Givl.nat {w w' : World} {Z L : Nat} {e : Ending} (h : Givl w (Z : Int) L e w') : Givn w Z L e w' := by
  obtain ⟨n, A, zs, c, rfl, hb, hv, hl, hw⟩ := h
  obtain ⟨rfl, hv2⟩ := sv_nat hb.norm hb.sign hv
  exact ⟨A, zs, c, rfl, hb, hv2, hl, hw⟩
theorem Duo.below' {w W : World} {p q : Nat} {n1 n2 : Bool} {A B : Option Addr} {xs ys : List Nat} {l1 c l2 d : Nat} {X : Prop} (h : Duo w W p q n1 n2 A B xs ys l1 c l2 d ∧ X) : Below w.heap.size w W := h.1.below
theorem duo_over {w W : World} {p q : Nat} {n1 n2 n : Bool} {A B V : Option Addr} {xs ys zs : List Nat} {l1 c l2 d k : Nat} (h : Duo w W p q n1 n2 A B xs ys l1 c l2 d) (hwp : w.heap.size ≤ p) (hpq : p ≠ q) (hz : Bg W n V zs k maxLen) :
    Bg ((W.setCell ⟨p, 0, none⟩ (.bool n)).setCell ⟨p, 1, none⟩ (.slice V zs.length k)) n V zs k maxLen ∧
    Sl .u32 ((W.setCell ⟨p, 0, none⟩ (.bool n)).setCell ⟨p, 1, none⟩ (.slice V zs.length k)) W.heap.size B ys ∧
    Below w.heap.size w ((W.setCell ⟨p, 0, none⟩ (.bool n)).setCell ⟨p, 1, none⟩ (.slice V zs.length k)) ∧
    ((W.setCell ⟨p, 0, none⟩ (.bool n)).setCell ⟨p, 1, none⟩ (.slice V zs.length k)).cell? ⟨q, 0, none⟩ = some (.bool n2) ∧
    ((W.setCell ⟨p, 0, none⟩ (.bool n)).setCell ⟨p, 1, none⟩ (.slice V zs.length k)).cell? ⟨q, 1, none⟩ = some (.slice B l2 d) := by
  have e1 : (W.setCell ⟨p, 0, none⟩ (.bool n)).cell? ⟨p, 1, none⟩ = some (.slice A l1 c) := by rw [World.cell?_setCell_other _ _ _ _ (by simp)]; exact h.a1
  refine ⟨(hz.at h.a0 (by intro _ e; cases e) _).at e1 (by intro _ e; cases e) _, ?_, (h.below.setCell hwp _).setCell hwp _, ?_, ?_⟩
  · exact (((h.sb.setCell hwp _).setCell hwp _).more h.below.size)
  · rw [World.cell?_setCell_other _ _ _ _ (fun e => hpq (by injection e)), World.cell?_setCell_other _ _ _ _ (fun e => hpq (by injection e))]; exact h.b0
  · rw [World.cell?_setCell_other _ _ _ _ (fun e => hpq (by injection e)), World.cell?_setCell_other _ _ _ _ (fun e => hpq (by injection e))]; exact h.b1
set_option maxHeartbeats 4000000 in
set_option maxRecDepth 20000 in
theorem quotient_up (A B : Option Addr) (xs ys : List Nat) (hys : ys = [1]) (c d N : Nat) (w : World) (hx : Bg w false A xs c maxLen) (hy : Bg w false B ys d maxLen) (hl : xs.length ≤ 10000) (hN : N ≤ 100000) (Z : Nat) (hZ : val W32 xs * 2 ^ N = Z) (hZ2 : Z ≤ 9223372036854775807) :
    Calls Try.prog 102 #[big false A xs.length c, big false B ys.length d, .int .i64 N] w fun e w' => e = .returned (.tuple #[.int .u64 Z, .bool true]) ∧ Below w.heap.size w w' := by
  have ht := Duo.boxed (n1 := false) (n2 := false) (l1 := xs.length) (c := c) (l2 := ys.length) (d := d) hx.sl hy.sl
  have hdx := hx.dig
  have HDB : Hid (∀ W, Sl .u32 W W.heap.size A xs → Calls Try.prog 51 #[big false A xs.length c, .int .i64 N] W (Givn W Z (xs.length + N / 32 + 1))) := Lib.hid (fun W h => by
    have := rdouble_any false A xs c N W ⟨h, hx.dig, hx.norm, hx.sign, hx.len, hx.cap⟩ (by omega) (by omega)
    rw [show sv false (val W32 xs) * ((2 ^ N : Nat) : Int) = (Z : Int) by rw [← hZ]; simp [sv]] at this
    exact this.mono fun e w' h => h.nat)
  have HDV : Hid (∀ W V zs k, Bg W false V zs k maxLen → val W32 zs = Z → zs.length ≤ xs.length + N / 32 + 1 → Sl .u32 W W.heap.size B ys → Calls Try.prog 99 #[big false V zs.length k, big false B ys.length d] W (Parts W Z 0 zs.length)) := Lib.hid (fun W V zs k h1 h2 h3 h4 => by
    subst hys
    exact rdivide1_any V B zs k d 1 W h1 ⟨h4, hy.dig, hy.norm, hy.sign, hy.len, hy.cap⟩ (by omega) Z 0 (by rw [h2, Nat.div_one]) (by rw [Nat.mod_one]))
  have HT := Lib.hid ht.all
  have k0 := ht.a0
  have k1 := ht.a1
  have k2 := ht.b0
  have k3 := ht.b1
  clear ht hx hy hdx hZ hys
  have hd : decide ((N : Int) < 0) = false := by simp
  go_enter Try.func102, Try.ntmps102
  go_wp2_with fail
  have HF : Hid (((w.alloc (.cells #[.bool false, .slice A xs.length c] 49)).alloc (.cells #[.bool false, .slice B ys.length d] 49)).frozen? ⟨w.heap.size, 0, none⟩ = false ∧ ((w.alloc (.cells #[.bool false, .slice A xs.length c] 49)).alloc (.cells #[.bool false, .slice B ys.length d] 49)).frozen? ⟨w.heap.size, 1, none⟩ = false) := Lib.hid ⟨by simp, by simp⟩
  generalize ((w.alloc (.cells #[.bool false, .slice A xs.length c] 49)).alloc (.cells #[.bool false, .slice B ys.length d] 49)) = W at *
  go_quiet (fail)
  have hT1 := Duo.keep HT.out (below_dn (Below.refl _ W) nq)
  have f0 : (W.drewN nq).frozen? ⟨w.heap.size, 0, none⟩ = false := HF.out.1
  have f1 : (W.drewN nq).frozen? ⟨w.heap.size, 1, none⟩ = false := HF.out.2
  clear k0 k1 k2 k3
  generalize W.drewN nq = W1 at *
  have k0 := hT1.1.a0
  have k1 := hT1.1.a1
  have hdb := Lib.hid (HDB.out W1 (Duo.sa' hT1))
  have HT1 := Lib.hid hT1
  have HF1 := Lib.hid (And.intro f0 f1)
  clear hT1 HF HT f0 f1
  go_wp2_with fail
  refine (hdb.out).mono ?_
  rintro e w1 ⟨V, zs, k, rfl, hbg, hv, hzl, hb1⟩
  have hD1 := HT1.out.1.on hb1
  have f0 := (hb1.frozen (p := ⟨w.heap.size, 0, none⟩) HT1.out.1.lp).trans HF1.out.1
  have f1 := (hb1.frozen (p := ⟨w.heap.size, 1, none⟩) HT1.out.1.lp).trans HF1.out.2
  have hO := duo_over hD1 (Nat.le_refl _) (by omega) hbg
  have k0 := hD1.a0
  have k1 := hD1.a1
  have k2 := hD1.b0
  have k3 := hD1.b1
  have hdv := Lib.hid (HDV.out _ V zs k hO.1 hv hzl (by have := hO.2.1.more (Nat.le_refl _); simpa using (hO.2.1)))
  have hO5 := Lib.hid hO
  have HP0 := Lib.hid hD1.lp
  clear hD1 hO hbg hv hzl hb1 HT1 HF1 hdb
  go_wp2_with fail
  refine (hdv.out).mono ?_
  rintro e w3 ⟨V2, us, kc, U2, rs, l2, rfl, hBu, hBr, hvu, hvr, hlu, hlr, hb3⟩
  have hw3 := hO5.out.2.2.1.trans (hb3.mono hO5.out.2.2.1.size)
  have hDu := Lib.hid (Duo.boxed (n1 := false) (n2 := false) (l1 := us.length) (c := kc) (l2 := rs.length) (d := l2) hBu.sl hBr.sl).all
  have HW3 := Lib.hid hw3
  have HN : Hid (∀ W, Sl .u32 W W.heap.size V2 us → Calls Try.prog 112 #[big false V2 us.length kc] W fun e w' => e = .returned (.int .u64 Z) ∧ Below W.heap.size W w') := Lib.hid (fun W h => by
    have := number_any V2 us kc W ⟨h, hBu.dig, hBu.norm, hBu.sign, hBu.len, hBu.cap⟩ (by omega)
    rw [hvu] at this
    exact this)
  have HSg : Hid (∀ W, Calls Try.prog 56 #[big false U2 rs.length l2] W fun e w' => e = .returned (.int .i64 0) ∧ Below W.heap.size W w') := Lib.hid (fun W => sign_zero false U2 rs l2 W (val_zero hBr.norm hvr))
  clear k0 k1 k2 k3 f0 f1 hdv hO5 hBu hBr hvu hvr hlu hlr hb3 hw3 HDB HDV
  go_wp2_with fail
  generalize hW5 : ((w3.alloc (.cells #[.bool false, .slice V2 us.length kc] 49)).alloc (.cells #[.bool false, .slice U2 rs.length l2] 49)) = W5 at *
  clear hW5
  have hall := hDu.out
  go_region_held3 (fun W' => Duo w3 W' w3.heap.size (w3.heap.size + 1) false false V2 U2 us rs us.length kc rs.length l2 ∧ W'.cell? ⟨w3.heap.size, 0, none⟩ = some (.bool false) ∧ W'.cell? ⟨w3.heap.size, 1, none⟩ = some (.slice V2 us.length kc) ∧ W'.cell? ⟨w3.heap.size + 1, 0, none⟩ = some (.bool false) ∧ W'.cell? ⟨w3.heap.size + 1, 1, none⟩ = some (.slice U2 rs.length l2))
    (first | exact hall | exact Duo.keep hall ((Below.refl _ _).drew) | exact Duo.keep (by assumption) (by assumption) | exact Duo.keep (by assumption) ((Below.refl _ _).drew))
    (first
      | (go_at_call 112; refine (HN.out _ (Duo.sa' (by assumption))).mono ?_; rintro e wi ⟨rfl, hbi⟩)
      | (go_at_call 56; refine (HSg.out _).mono ?_; rintro e wj ⟨rfl, hbj⟩))
  go_wp2
  go_ret2
  exact ⟨rfl, HW3.out.trans ((Duo.below' (by assumption)).mono HW3.out.size)⟩
end Go.Proofs.Ytffjkfjokikhnaa.Rb
