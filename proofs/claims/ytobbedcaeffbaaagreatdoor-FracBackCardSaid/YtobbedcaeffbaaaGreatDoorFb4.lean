/-
  Are two fractions the same. No conditions.
-/
import Derived.Test.YtobbedcaeffbaaaGreatDoorFfl
namespace Go.Proofs.YtobbedcaeffbaaaGreatDoor
namespace Nb
/-! ### Two limbs a word -/
theorem val_inj {B : Nat} : ∀ {xs ys : List Nat}, Dig B xs → Dig B ys → xs.length = ys.length → val B xs = val B ys → xs = ys
  | [], [], _, _, _, _ => rfl
  | [], _ :: _, _, _, h, _ => by simp at h
  | _ :: _, [], _, _, h, _ => by simp at h
  | x :: xs, y :: ys, hx, hy, hl, hv => by
    rw [val_cons, val_cons] at hv
    have h1 := hx x (List.mem_cons_self)
    have h2 := hy y (List.mem_cons_self)
    have h3 : (x + B * val B xs) % B = (y + B * val B ys) % B := by rw [hv]
    rw [Nat.add_mul_mod_self_left, Nat.add_mul_mod_self_left, Nat.mod_eq_of_lt h1, Nat.mod_eq_of_lt h2] at h3
    subst h3
    have h4 : val B xs = val B ys := Nat.eq_of_mul_eq_mul_left (by omega) (by omega : B * val B xs = B * val B ys)
    rw [val_inj (fun z hz => hx z (List.mem_cons_of_mem _ hz)) (fun z hz => hy z (List.mem_cons_of_mem _ hz)) (by simpa using hl) h4]
end Nb
end Go.Proofs.YtobbedcaeffbaaaGreatDoor
namespace Go.Proofs.YtobbedcaeffbaaaGreatDoor
namespace Nb
/-! ### Two limbs a word -/
theorem norm_inj {B : Nat} (hB : 1 < B) {xs ys : List Nat} (hx : Dig B xs) (hy : Dig B ys) (nx : Norm xs) (ny : Norm ys) (h : val B xs = val B ys) : xs = ys :=
  val_inj hx hy (by have := norm_len_le hB nx hy (by omega); have := norm_len_le hB ny hx (by omega); omega) h
end Nb
end Go.Proofs.YtobbedcaeffbaaaGreatDoor
namespace Go.Proofs.YtobbedcaeffbaaaGreatDoor
open Go.RowKit Nb
theorem take_same {xs ys : List Nat} {k : Nat} (h : xs.take k = ys.take k) (hk : k < xs.length) (hl : xs.length = ys.length) (he : xs[k] = ys[k]'(hl ▸ hk)) : xs.take (k + 1) = ys.take (k + 1) := by
  rw [List.take_succ_eq_append_getElem hk, List.take_succ_eq_append_getElem (hl ▸ hk), h, he]
end Go.Proofs.YtobbedcaeffbaaaGreatDoor
namespace Go.Proofs.YtobbedcaeffbaaaGreatDoor
open Go.RowKit Nb
theorem same_all {xs ys : List Nat} {k : Nat} (h : xs.take k = ys.take k) (hk : xs.length ≤ k) (hl : xs.length = ys.length) : xs = ys := by
  rwa [List.take_of_length_le hk, List.take_of_length_le (hl ▸ hk)] at h
end Go.Proofs.YtobbedcaeffbaaaGreatDoor
namespace Go.Proofs.YtobbedcaeffbaaaGreatDoor
open Go.RowKit Nb
set_option maxHeartbeats 1000000 in
theorem same_any (n1 n2 : Bool) (A B : Option Addr) (xs ys : List Nat) (c d : Nat) (w : World) (hr : Sl .u32 w w.heap.size A xs) (hs : Sl .u32 w w.heap.size B ys) (hl : xs.length * 4 ≤ 140737488351232) (hk : ys.length * 4 ≤ 140737488351232) :
    Calls Tryz.prog 70 #[big n1 A xs.length c, big n2 B ys.length d] w fun e w' => e = .returned (.bool (decide (n1 = n2 ∧ xs = ys))) ∧ Below w.heap.size w w' := by
  by_cases hn : n1 = n2
  · subst hn
    by_cases hlen : xs.length = ys.length
    · have hyes : ∀ k, xs.take k = ys.take k → xs.length ≤ k → decide (n1 = n1 ∧ xs = ys) = true := fun k h h2 => by simp [same_all h h2 hlen]
      have hno : ∀ k (hk : k < xs.length) (hk2 : k < ys.length), xs[k] ≠ ys[k] → decide (n1 = n1 ∧ xs = ys) = false := fun k hk hk2 h => by
        rw [decide_eq_false_iff_not]; rintro ⟨_, rfl⟩; exact h rfl
      generalize decide (n1 = n1 ∧ xs = ys) = r at *
      have HY := Lib.hid hyes
      have HN := Lib.hid hno
      clear hyes hno
      rw [← hlen]
      have HL := Lib.hid hlen
      clear hlen hk
      go_enter Tryz.func70, Tryz.ntmps70
      go_wp2
      have hW : ∃ W : World, W = ((w.alloc (Obj.cells #[Value.bool n1, Value.slice A xs.length c] 25)).alloc (Obj.cells #[Value.bool n1, Value.slice B xs.length d] 25)) ∧ Below w.heap.size w W ∧
          W.cell? ⟨w.heap.size, 1, none⟩ = some (.slice A xs.length c) ∧ W.cell? ⟨w.heap.size + 1, 1, none⟩ = some (.slice B xs.length d) := by
        refine ⟨_, rfl, by go_grown, ?_, ?_⟩ <;> go_cell
      obtain ⟨W, hW, hb, c1, c2⟩ := hW
      rw [← hW]
      clear hW
      go_loopw [5] (fun iv wr => ∃ k : Nat, k ≤ xs.length ∧ iv = .int .i64 k ∧ Qu W wr ∧ xs.take k = ys.take k) (fun iv _ => xs.length - (intOf iv).toNat)
      case atStart => exact ⟨0, Nat.zero_le _, rfl, Qu.refl _, rfl⟩
      case round =>
        obtain ⟨k, hk2, rfl, hqu, htk⟩ := hrel
        have HT := Lib.hid htk
        clear htk
        rw [← hqu.cell] at c1 c2
        by_cases hlt : k < xs.length
        · have hlt2 : k < ys.length := HL.out ▸ hlt
          obtain ⟨ad, rfl, hb1, h1⟩ := (hr.below hb).at_ hlt
          obtain ⟨bd, rfl, hb2, h2⟩ := (hs.below hb).at_ hlt2
          rw [← hqu.cell] at h1 h2
          have hji : (k : Int) < (xs.length : Int) := by omega
          by_cases he : xs[k] = ys[k]
          · have HE := Lib.hid (take_same HT.out hlt HL.out he)
            rw [← he] at h2
            clear he
            go_wp2
            go_quiet (fail)
            go_wp2
            go_roundw
            case rel => exact ⟨k + 1, by omega, by go_num, hqu.drew _, HE.out⟩
            case measure => simp [intOf]; omega
          · have HE := Lib.hid (HN.out k hlt hlt2 he)
            obtain ⟨x, hx⟩ : ∃ x : Nat, xs[k] = x := ⟨_, rfl⟩
            obtain ⟨y, hy⟩ : ∃ y : Nat, ys[k] = y := ⟨_, rfl⟩
            rw [hx] at h1 he
            rw [hy] at h2 he
            clear hx hy
            have hxy : ¬ (x : Int) = (y : Int) := by omega
            go_wp2
            go_quiet (fail)
            go_wp2
            go_ret
            exact ⟨by rw [HE.out]; rfl, hb.trans ((hqu.drew _).below _)⟩
        · have HE := Lib.hid (HY.out k HT.out (by omega))
          go_wp2
          go_ret
          exact ⟨by rw [HE.out]; rfl, hb.trans (hqu.below _)⟩
    · have hv : decide (n1 = n1 ∧ xs = ys) = false := by rw [decide_eq_false_iff_not]; rintro ⟨_, rfl⟩; exact hlen rfl
      rw [hv]
      have hle : ¬ (xs.length : Int) = (ys.length : Int) := by omega
      clear hv
      go_enter Tryz.func70, Tryz.ntmps70
      go_wp2
      go_ret
      exact ⟨rfl, by go_grown⟩
  · have hv : decide (n1 = n2 ∧ xs = ys) = false := by rw [decide_eq_false_iff_not]; rintro ⟨h, _⟩; exact hn h
    rw [hv]
    clear hv
    go_enter Tryz.func70, Tryz.ntmps70
    go_wp2
    go_ret
    exact ⟨rfl, by go_grown⟩
end Go.Proofs.YtobbedcaeffbaaaGreatDoor
namespace Go.Proofs.YtobbedcaeffbaaaGreatDoor
open Go.RowKit Nb
theorem sv_inj' {n1 n2 : Bool} {xs ys : List Nat} (o1 : Ok n1 xs) (o2 : Ok n2 ys) (d1 : Dig W32 xs) (d2 : Dig W32 ys) (h : sv n1 (val W32 xs) = sv n2 (val W32 ys)) : n1 = n2 ∧ xs = ys := by
 have hz1 := ok_vpos o1
 have hz2 := ok_vpos o2
 have hn : n1 = n2 := by
  unfold sv at h
  cases n1 <;> cases n2 <;> simp_all <;> omega
 subst hn
 refine ⟨rfl, norm_inj (by decide) d1 d2 o1.norm o2.norm ?_⟩
 unfold sv at h
 cases n1 <;> simp_all <;> omega
end Go.Proofs.YtobbedcaeffbaaaGreatDoor
namespace Go.Proofs.YtobbedcaeffbaaaGreatDoor
open Go.RowKit Nb
theorem same_val {n1 n2 : Bool} {xs ys : List Nat} (o1 : Ok n1 xs) (o2 : Ok n2 ys) (d1 : Dig W32 xs) (d2 : Dig W32 ys) : decide (n1 = n2 ∧ xs = ys) = decide (sv n1 (val W32 xs) = sv n2 (val W32 ys)) := by
 refine decide_eq_decide.2 ⟨?_, sv_inj' o1 o2 d1 d2⟩
 rintro ⟨rfl, rfl⟩; rfl
end Go.Proofs.YtobbedcaeffbaaaGreatDoor
namespace Go.Proofs.YtobbedcaeffbaaaGreatDoor
open Go.RowKit Nb
theorem same_nl {n m : Bool} {A B : Option Addr} {xs ys : List Nat} {c d : Nat} {X Y : Int} {w : World} (h : Nl w X n A xs c) (k : Nl w Y m B ys d) (b : Bool) (hb : decide (X = Y) = b) :
  Calls Tryz.prog 70 #[big n A xs.length c, big m B ys.length d] w fun e w' => e = .returned (.bool b) ∧ Below w.heap.size w w' := by
 have := same_any n m A B xs ys c d w h.lm.sl k.lm.sl h.lm.sz k.lm.sz
 rwa [same_val h.lm.ok k.lm.ok h.lm.dig k.lm.dig, h.v, k.v, hb] at this
end Go.Proofs.YtobbedcaeffbaaaGreatDoor
namespace Go.Proofs.YtobbedcaeffbaaaGreatDoor
open Go.RowKit Nb
theorem rat_same (q p : Rat) : decide (q = p) = (decide (q.num = p.num) && decide ((q.den : Int) = (p.den : Int))) := by
 by_cases h1 : q.num = p.num
 ·by_cases h2 : (q.den : Int) = (p.den : Int)
  ·have : q = p := Rat.ext h1 (by omega)
   simp [this]
  ·have : q ≠ p := fun e => h2 (by rw [e])
   simp [h1, h2, this]
 ·have : q ≠ p := fun e => h1 (by rw [e])
  simp [h1, this]
end Go.Proofs.YtobbedcaeffbaaaGreatDoor
namespace Go.Proofs.YtobbedcaeffbaaaGreatDoor
open Go.RowKit Nb
set_option maxHeartbeats 8000000 in
set_option maxRecDepth 20000 in
theorem same_frac (q p : Rat) (n n' : Bool) (A B A' B' : Option Addr) (xs ds ys es : List Nat) (c d c' d' : Nat) (w : World) (h : Lf w q n A xs c B ds d) (k : Lf w p n' A' ys c' B' es d') :
  Calls Tryz.prog 16 #[frq n A xs.length c false B ds.length d, frq n' A' ys.length c' false B' es.length d'] w (fun e w' => e = .returned (.bool (decide (q = p))) ∧ Below w.heap.size w w') := by
 obtain ⟨V, hV, BW, hz, KX, KY⟩ := box_pair w [.bool n, .slice A xs.length c, .bool false, .slice B ds.length d] [.bool n', .slice A' ys.length c', .bool false, .slice B' es.length d'] 27 27
 have LX := h.on BW
 have LY := k.on BW
 clear h k hz
 rw [rat_same]
 obtain ⟨b1, hb1⟩ : ∃ b, decide (q.num = p.num) = b := ⟨_, rfl⟩
 obtain ⟨b2, hb2⟩ : ∃ b, decide ((q.den : Int) = (p.den : Int)) = b := ⟨_, rfl⟩
 rw [hb1, hb2]
 have KX_0 := KX.c 0 _ rfl
 have KX_1 := KX.c 1 _ rfl
 have KX_2 := KX.c 2 _ rfl
 have KX_3 := KX.c 3 _ rfl
 have KY_0 := KY.c 0 _ rfl
 have KY_1 := KY.c 1 _ rfl
 have KY_2 := KY.c 2 _ rfl
 have KY_3 := KY.c 3 _ rfl
 go_enter Tryz.func16, Tryz.ntmps16
 go_wp2_with fail
 clear KX_0 KX_1 KX_2 KX_3 KY_0 KY_1 KY_2 KY_3
 rw [← hV]
 clear hV
 refine (same_nl LX.num LY.num b1 hb1).mono ?_
 rintro _ w1 ⟨rfl, hb⟩
 replace KX := KX.on hb
 replace KY := KY.on hb
 replace LX := LX.on hb
 replace LY := LY.on hb
 replace BW := BW.trans (hb.mono BW.size)
 clear hb
 cases b1 with
 | false =>
  clear hb1 hb2 LX LY KX KY
  go_wp2
  go_ret
  exact ⟨rfl, BW⟩
 | true =>
  have KX_0 := KX.c 0 _ rfl
  have KX_1 := KX.c 1 _ rfl
  have KX_2 := KX.c 2 _ rfl
  have KX_3 := KX.c 3 _ rfl
  have KY_0 := KY.c 0 _ rfl
  have KY_1 := KY.c 1 _ rfl
  have KY_2 := KY.c 2 _ rfl
  have KY_3 := KY.c 3 _ rfl
  go_wp2_with fail
  clear KX_0 KX_1 KX_2 KX_3 KY_0 KY_1 KY_2 KY_3
  refine (same_nl LX.den LY.den b2 hb2).mono ?_
  rintro _ w2 ⟨rfl, hb⟩
  replace KX := KX.on hb
  replace KY := KY.on hb
  replace LX := LX.on hb
  replace LY := LY.on hb
  replace BW := BW.trans (hb.mono BW.size)
  clear hb
  clear hb1 hb2 LX LY KX KY
  go_wp2
  go_ret
  exact ⟨by simp, BW⟩
end Go.Proofs.YtobbedcaeffbaaaGreatDoor
namespace Go.Proofs.YtobbedcaeffbaaaGreatDoor
open Go.RowKit Nb
section
variable {W W' : World} {q p z : Rat} {f g : Fv} {C C' : Nat} {er : Int} {bad : Prop}
theorem r_same (h : Ff W q f) (k : Ff W p g) : Calls Tryz.prog 16 #[fv f, fv g] W (fun e w' => e = .returned (.bool (decide (q = p))) ∧ Below W.heap.size W w') := by
 obtain ⟨n, A, xs, c, m, B, ds, d⟩ := f
 obtain ⟨n', A', ys, c', m', B', es, d'⟩ := g
 obtain ⟨rfl, h⟩ := h
 obtain ⟨rfl, k⟩ := k
 exact same_frac q p n n' A B A' B' xs ds ys es c d c' d' W h k
end
end Go.Proofs.YtobbedcaeffbaaaGreatDoor
