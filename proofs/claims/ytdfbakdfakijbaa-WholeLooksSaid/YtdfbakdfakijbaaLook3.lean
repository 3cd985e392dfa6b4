/-
  What whole.Cmp returns. No conditions but that the lists are lists of limbs.
-/
import Derived.Test.YtdfbakdfakijbaaLook2
namespace Go.Proofs.Ytdfbakdfakijbaa
open Go.RowKit Nb

theorem sl_row {k : IntKind} {w : World} {g : Nat} {e : TypeId} {xs : List Nat} (h : Row k w g e xs) : Sl k w w.heap.size (some ⟨g, 0, none⟩) xs := h.sl h.lt
theorem sl_row_then {k : IntKind} {w w' : World} {g : Nat} {e : TypeId} {xs : List Nat} (h : Row k w g e xs) (hb : Below w.heap.size w w') : Sl k w' w'.heap.size (some ⟨g, 0, none⟩) xs :=
  (h.below hb h.lt).sl (Nat.lt_of_lt_of_le h.lt hb.size)

/-- What Cmp says. -/
noncomputable def cmpV (n1 : Bool) (xs : List Nat) (n2 : Bool) (ys : List Nat) : Int := open Classical in if Ok n1 xs ∧ Ok n2 ys then cmpI (sv n1 (val W32 xs)) (sv n2 (val W32 ys)) else 0

theorem cmpof_u (n1 n2 : Bool) (A B : Option Addr) (xs ys : List Nat) (c d : Nat) (w : World) (hr : Sl .u32 w w.heap.size A xs) (hs : Sl .u32 w w.heap.size B ys) (hx : Dig W32 xs) (hy : Dig W32 ys) (hl : xs.length * 4 ≤ 140737488351232) (hk : ys.length * 4 ≤ 140737488351232) :
    Calls Try.prog 22 #[big n1 A xs.length c, big n2 B ys.length d] w fun e w' => e = .returned (.int .i64 (cmpV n1 xs n2 ys)) ∧ Below w.heap.size w w' := by
  unfold cmpV
  by_cases h : Ok n1 xs ∧ Ok n2 ys
  · rw [if_pos h]; exact cmpof_ok n1 n2 A B xs ys c d w hr hs hx hy h.1 h.2
  · rw [if_neg h]; exact cmpof_bad n1 n2 A B xs ys c d w hr hs hl hk h

theorem from_ok (neg : Bool) (A : Option Addr) (ls : List Nat) (c : Nat) (w : World) (hr : Sl .u32 w w.heap.size A ls) (hd : Dig W32 ls) (ho : Ok neg ls) :
    Calls Try.prog 27 #[big neg A ls.length c] w fun e w' => ∃ g, e = .returned (big neg (some ⟨g, 0, none⟩) (pack ls).length (pack ls).length) ∧
      Row .u64 w' g 41 (pack ls) ∧ w.heap.size ≤ g ∧ Below w.heap.size w w' := by
  have h := from_any neg A ls c w hr hd (by have := ho.len; omega)
  rw [ok_neg ho] at h
  exact h

set_option maxHeartbeats 4000000 in
theorem wcmp_u (n1 n2 : Bool) (A B : Option Addr) (xs ys : List Nat) (c d : Nat) (w : World) (hr : Sl .u32 w w.heap.size A xs) (hs : Sl .u32 w w.heap.size B ys) (hx : Dig W32 xs) (hy : Dig W32 ys) (hl : xs.length * 4 ≤ 140737488351232) (hk : ys.length * 4 ≤ 140737488351232) :
    Calls Try.prog 21 #[big n1 A xs.length c, big n2 B ys.length d] w fun e w' => e = .returned (.int .i64 (cmpV n1 xs n2 ys)) ∧ Below w.heap.size w w' := by
  have ht := Two.boxed (n1 := n1) (n2 := n2) (l1 := xs.length) (c := c) (l2 := ys.length) (d := d) hr hs
  have hrow : ∀ (W : World) (g : Nat), g = W.heap.size → ∀ (i : Nat) (u : Value), (#[.bool n1, .slice A xs.length c, .bool n2, .slice B ys.length d] : Array Value)[i]? = some u → (W.alloc (.cells #[.bool n1, .slice A xs.length c, .bool n2, .slice B ys.length d] 24)).cell? ⟨g, i, none⟩ = some u := by
    intro W g hg i u hu
    subst hg
    rw [World.cell?_alloc_new]; exact hu
  have ha0 := ht.a0
  have ha1 := ht.a1
  have hb0 := ht.b0
  have hb1 := ht.b1
  go_enter Try.func21, Try.ntmps21
  go_wp2_with fail
  have hz : ((w.alloc (.cells #[.bool n1, .slice A xs.length c] 24)).alloc (.cells #[.bool n2, .slice B ys.length d] 24)).heap.size = w.heap.size + 1 + 1 := by simp
  generalize (w.alloc (.cells #[.bool n1, .slice A xs.length c] 24)).alloc (.cells #[.bool n2, .slice B ys.length d] 24) = W at *
  have tW := ht.on (W' := W.alloc (.cells #[.bool n1, .slice A xs.length c, .bool n2, .slice B ys.length d] 24)) ((Below.refl _ _).alloc (Nat.le_refl _) _)
  refine (check_two (w.heap.size + 1 + 1) n1 n2 A B xs ys 2 c d _ tW.sa tW.sb (by simp; omega) hl hk (hrow _ _ hz.symm 0 _ rfl) (hrow _ _ hz.symm 1 _ rfl) (hrow _ _ hz.symm 2 _ rfl) (hrow _ _ hz.symm 3 _ rfl)).mono ?_
  rintro e w1 ⟨rfl, hq1⟩
  have t1 := tW.on hq1
  clear tW ht ha0 ha1 hb0 hb1 hrow
  by_cases ho : Ok n1 xs ∧ Ok n2 ys
  · obtain ⟨o1, o2⟩ := ho
    have hv : cmpV n1 xs n2 ys = cmpI (sv n1 (val W64 (pack xs))) (sv n2 (val W64 (pack ys))) := by
      unfold cmpV; rw [if_pos ⟨o1, o2⟩, val_pack, val_pack]
    have hp1 : n1 = true → 0 < val W64 (pack xs) := by rw [val_pack]; exact ok_vpos o1
    have hp2 : n2 = true → 0 < val W64 (pack ys) := by rw [val_pack]; exact ok_vpos o2
    have hn1 := norm_pack o1.norm
    have hn2 := norm_pack o2.norm
    have hd1 := dig_pack hx
    have hd2 := dig_pack hy
    have hg1 : (pack xs).length * 8 ≤ 140737488351232 := by rw [pack_length]; have := o1.len; omega
    have hg2 : (pack ys).length * 8 ≤ 140737488351232 := by rw [pack_length]; have := o2.len; omega
    have L := Lib.hid (fun g1 g2 W h k => lcmp_any n1 n2 (some ⟨g1, 0, none⟩) (some ⟨g2, 0, none⟩) (pack xs) (pack ys) (pack xs).length (pack ys).length W h k hd1 hd2 hn1 hn2 hg1 hg2 hp1 hp2)
    rw [chkV_ok o1, chkV_ok o2]
    have HV := Lib.hid hv; clear hv
    have HT := Lib.hid t1.all
    have hall := HT.out
    go_wp2_with fail
    go_region_held3 (fun w' => Two w w' w.heap.size (w.heap.size + 1) n1 n2 A B xs ys xs.length c ys.length d ∧ w'.cell? ⟨w.heap.size, 0, none⟩ = some (.bool n1) ∧ w'.cell? ⟨w.heap.size, 1, none⟩ = some (.slice A xs.length c) ∧ w'.cell? ⟨w.heap.size + 1, 0, none⟩ = some (.bool n2) ∧ w'.cell? ⟨w.heap.size + 1, 1, none⟩ = some (.slice B ys.length d))
      (first | exact HT.out | exact Two.keep HT.out ((Below.refl _ _).drew) | exact Two.keep (by assumption) (by assumption) | exact Two.keep (by assumption) ((Below.refl _ _).drew))
      (first
        | (go_at_call 27; refine (from_ok _ _ _ _ _ (by first | exact Two.sa' (by assumption) | exact Two.sb' (by assumption)) (by first | exact hx | exact hy) (by first | exact o1 | exact o2)).mono ?_; rintro e w' ⟨g, rfl, hrow, hg, hb⟩)
        | (go_at_call 33; refine (L.out _ _ _ (by first | exact sl_row (by assumption) | exact sl_row_then (by assumption) (by assumption)) (by first | exact sl_row (by assumption) | exact sl_row_then (by assumption) (by assumption))).mono ?_; rintro e w' ⟨rfl, hb⟩))
    all_goals
      go_wp2
      go_ret
      exact ⟨by rw [HV.out]; rfl, Two.below' (by assumption)⟩
  · have hv : cmpV n1 xs n2 ys = 0 := by unfold cmpV; rw [if_neg ho]
    have hk2 : (if chkV n1 xs = 0 then chkV n2 ys else 1) = 1 := by
      by_cases h : Ok n1 xs
      · rw [if_pos (chkV_ok h), chkV_bad (fun h2 => ho ⟨h, h2⟩)]
      · rw [if_neg (by rw [chkV_bad h]; decide)]
    rw [hk2]
    have HV := Lib.hid hv; clear hv hk2
    go_wp2
    go_ret
    exact ⟨by rw [HV.out]; rfl, t1.below⟩
end Go.Proofs.Ytdfbakdfakijbaa
