/-
  Plain facts and contracts that hold in this seat: joined by program. Conditions: as each theorem states.
-/
import Derived.Test.YtplgheabhekedaaGreatDoorFit
/-! ### Reck -/
namespace Go.Proofs.YtplgheabhekedaaGreatDoor
open Go.RowKit Nb
theorem Two.put {w W : World} {p q r : Nat} {n1 n2 : Bool} {A B : Option Addr} {xs ys : List Nat} {l1 c l2 d : Nat} {X : Prop} (h : Two w W p q n1 n2 A B xs ys l1 c l2 d ∧ X) (hr : Rest W r) (hw : w.heap.size ≤ r) (hp : p ≠ r) (hq : q ≠ r) (u v : Value) :
    Two w ((W.setCell ⟨r, 0, none⟩ u).setCell ⟨r, 1, none⟩ v) p q n1 n2 A B xs ys l1 c l2 d ∧ ((W.setCell ⟨r, 0, none⟩ u).setCell ⟨r, 1, none⟩ v).cell? ⟨p, 0, none⟩ = some (.bool n1) ∧ ((W.setCell ⟨r, 0, none⟩ u).setCell ⟨r, 1, none⟩ v).cell? ⟨p, 1, none⟩ = some (.slice A l1 c) ∧ ((W.setCell ⟨r, 0, none⟩ u).setCell ⟨r, 1, none⟩ v).cell? ⟨q, 0, none⟩ = some (.bool n2) ∧ ((W.setCell ⟨r, 0, none⟩ u).setCell ⟨r, 1, none⟩ v).cell? ⟨q, 1, none⟩ = some (.slice B l2 d) := by
  have hk : ∀ (x : Nat) (j : Nat), x ≠ r → ((W.setCell ⟨r, 0, none⟩ u).setCell ⟨r, 1, none⟩ v).cell? ⟨x, j, none⟩ = W.cell? ⟨x, j, none⟩ := fun x j hx => by
    rw [World.cell?_setCell_other _ _ _ _ (fun e => hx (by injection e with a; exact a.symm)), World.cell?_setCell_other _ _ _ _ (fun e => hx (by injection e with a; exact a.symm))]
  have h2 : Two w ((W.setCell ⟨r, 0, none⟩ u).setCell ⟨r, 1, none⟩ v) p q n1 n2 A B xs ys l1 c l2 d :=
    ⟨(h.1.below.setCell hw _).setCell hw _, by simpa using h.1.lp, by simpa using h.1.lq, by simpa using h.1.sa.put hr u v, by simpa using h.1.sb.put hr u v, (hk _ _ hp).trans h.1.a0, (hk _ _ hp).trans h.1.a1, (hk _ _ hq).trans h.1.b0, (hk _ _ hq).trans h.1.b1⟩
  exact h2.all
/-- What is answered of two numbers: where both may be, what comes of them; else the refusal. -/
def Reck (w : World) (p : Prop) (Z : Int) (e : Ending) (w' : World) : Prop := ∃ (n : Bool) (V : Option Addr) (ls : List Nat) (k : Nat) (er : Int), e = .returned (.tuple #[big n V ls.length k, .int .i64 er]) ∧
  Lm w' n V ls k ∧ ((p ∧ Says Z n ls er) ∨ (¬ p ∧ er = 1 ∧ ls = [] ∧ n = false)) ∧ Below w.heap.size w w'
theorem Lm.laid {W : World} {r : Nat} {n : Bool} {V : Option Addr} {ls : List Nat} {k : Nat} (h : Lm W n V ls k) (hr : Rest W r) (u v : Value) : Lm ((W.setCell ⟨r, 0, none⟩ u).setCell ⟨r, 1, none⟩ v) n V ls k :=
  ⟨by simpa using h.sl.put hr u v, h.dig, h.ok⟩
theorem Rest.newI (W : World) : Rest (W.alloc (.cells #[.bool false, .slice none 0 0] 24)) W.heap.size :=
  ⟨by simp, by go_cell, by go_cell, World.frozen?_alloc_new _ _ _ _, World.frozen?_alloc_new _ _ _ _⟩
set_option maxHeartbeats 4000000 in
theorem reckon_mul (n1 n2 : Bool) (A B : Option Addr) (xs ys : List Nat) (c d : Nat) (w : World) (hr : Sl .u32 w w.heap.size A xs) (hs : Sl .u32 w w.heap.size B ys) (hx : Dig W32 xs) (hy : Dig W32 ys) (hl : xs.length * 4 ≤ 140737488351232) (hk : ys.length * 4 ≤ 140737488351232) :
    Calls Tryz.prog 107 #[big n1 A xs.length c, big n2 B ys.length d, .func (.func 129) #[] #[]] w (Reck w (Ok n1 xs ∧ Ok n2 ys) (sv n1 (val W32 xs) * sv n2 (val W32 ys))) := by
  have ht := Two.boxed (n1 := n1) (n2 := n2) (l1 := xs.length) (c := c) (l2 := ys.length) (d := d) hr hs
  have hrow : ∀ (W : World) (g : Nat), g = W.heap.size → ∀ (i : Nat) (u : Value), (#[.bool n1, .slice A xs.length c, .bool n2, .slice B ys.length d] : Array Value)[i]? = some u → (W.alloc (.cells #[.bool n1, .slice A xs.length c, .bool n2, .slice B ys.length d] 24)).cell? ⟨g, i, none⟩ = some u := by
    intro W g hg i u hu
    subst hg
    rw [World.cell?_alloc_new]; exact hu
  have hre := Rest.newI ((w.alloc (.cells #[.bool n1, .slice A xs.length c] 24)).alloc (.cells #[.bool n2, .slice B ys.length d] 24))
  have ht := ht.on (W' := ((w.alloc (.cells #[.bool n1, .slice A xs.length c] 24)).alloc (.cells #[.bool n2, .slice B ys.length d] 24)).alloc (.cells #[.bool false, .slice none 0 0] 24)) (by go_grown)
  rw [show ((w.alloc (.cells #[.bool n1, .slice A xs.length c] 24)).alloc (.cells #[.bool n2, .slice B ys.length d] 24)).heap.size = w.heap.size + 1 + 1 by go_size] at hre
  have ha0 := ht.a0
  have ha1 := ht.a1
  have hb0 := ht.b0
  have hb1 := ht.b1
  go_enter Tryz.func107, Tryz.ntmps107
  go_wp2_with fail
  have hz : (((w.alloc (.cells #[.bool n1, .slice A xs.length c] 24)).alloc (.cells #[.bool n2, .slice B ys.length d] 24)).alloc (.cells #[.bool false, .slice none 0 0] 24)).heap.size = w.heap.size + 1 + 1 + 1 := by go_size
  generalize hW : (((w.alloc (.cells #[.bool n1, .slice A xs.length c] 24)).alloc (.cells #[.bool n2, .slice B ys.length d] 24)).alloc (.cells #[.bool false, .slice none 0 0] 24)) = W at *
  clear hW
  have tW := ht.on (W' := W.alloc (.cells #[.bool n1, .slice A xs.length c, .bool n2, .slice B ys.length d] 24)) ((Below.refl _ _).alloc (Nat.le_refl _) _)
  have rW := hre.on (W' := W.alloc (.cells #[.bool n1, .slice A xs.length c, .bool n2, .slice B ys.length d] 24)) ((Below.refl _ _).alloc (Nat.le_refl _) _)
  refine (check_two (w.heap.size + 1 + 1 + 1) n1 n2 A B xs ys 2 c d _ tW.sa tW.sb (by simp; omega) hl hk (hrow _ _ hz.symm 0 _ rfl) (hrow _ _ hz.symm 1 _ rfl) (hrow _ _ hz.symm 2 _ rfl) (hrow _ _ hz.symm 3 _ rfl)).mono ?_
  rintro e w1 ⟨rfl, hq1⟩
  have t1 := tW.on hq1
  have r1 := rW.on hq1
  clear tW rW ht hre ha0 ha1 hb0 hb1 hrow hq1 hz
  by_cases ho : Ok n1 xs ∧ Ok n2 ys
  · obtain ⟨o1, o2⟩ := ho
    have hn1 := norm_pack o1.norm
    have hn2 := norm_pack o2.norm
    have hd1 := dig_pack hx
    have hd2 := dig_pack hy
    have hg1 : (pack xs).length ≤ 1024 := by rw [pack_length]; have := o1.len; omega
    have hg2 : (pack ys).length ≤ 1024 := by rw [pack_length]; have := o2.len; omega
    have L : ∀ (g1 g2 : Nat) (W : World), Sl .u64 W W.heap.size (some ⟨g1, 0, none⟩) (pack xs) → Sl .u64 W W.heap.size (some ⟨g2, 0, none⟩) (pack ys) → Calls Tryz.prog 129 #[big n1 (some ⟨g1, 0, none⟩) (pack xs).length (pack xs).length, big n2 (some ⟨g2, 0, none⟩) (pack ys).length (pack ys).length] W (Gives W (sv n1 (val W32 xs) * sv n2 (val W32 ys)) 4096) := by
      intro g1 g2 W h1 h2
      rw [← val_pack xs, ← val_pack ys]
      refine ((lmul_any n1 n2 _ _ _ _ _ _ W h1 h2 hd1 hd2 (by omega)).mono ?_)
      intro e w' h; exact h.mono (by omega)
    have HL := Lib.hid L; clear L
    rw [chkV_ok o1, chkV_ok o2]
    have HT := Lib.hid t1.all
    have hall := HT.out
    have ra0 := r1.r0
    have ra1 := r1.r1
    go_wp2_with fail
    go_region_held3 (fun w' => Two w w' w.heap.size (w.heap.size + 1) n1 n2 A B xs ys xs.length c ys.length d ∧ w'.cell? ⟨w.heap.size, 0, none⟩ = some (.bool n1) ∧ w'.cell? ⟨w.heap.size, 1, none⟩ = some (.slice A xs.length c) ∧ w'.cell? ⟨w.heap.size + 1, 0, none⟩ = some (.bool n2) ∧ w'.cell? ⟨w.heap.size + 1, 1, none⟩ = some (.slice B ys.length d))
      (first | exact HT.out | exact Two.keep HT.out ((Below.refl _ _).drew) | exact Two.keep (by assumption) (by assumption) | exact Two.keep (by assumption) ((Below.refl _ _).drew) | exact Two.put (by assumption) (by assumption) (by omega) (by omega) (by omega) _ _)
      (first
        | (go_at_call 105; refine (from_ok _ _ _ _ _ (by first | exact Two.sa' (by assumption) | exact Two.sb' (by assumption)) (by first | exact hx | exact hy) (by first | exact o1 | exact o2)).mono ?_; rintro e w' ⟨g, rfl, hrow, hg, hb⟩
           have hre := Rest.on (by first | assumption | exact Rest.drew (by assumption)) hb)
        | (go_at_call 129; refine (HL.out _ _ _ (by first | exact sl_row (by assumption) | exact sl_row_then (by assumption) (by assumption)) (by first | exact sl_row (by assumption) | exact sl_row_then (by assumption) (by assumption))).mono ?_; rintro e w' ⟨n, V, zs, k, rfl, hB, hv, hb⟩
           have hre := Rest.on (by first | assumption | exact Rest.drew (by assumption)) hb)
        | (go_at_call 147; refine (fit_any _ _ _ _ _ _ hB (by have h1 := hB.len; have h2 := hB.cap; omega)).mono ?_; rintro e w9 ⟨n', V', ls, k', er, rfl, hM, hSay, hb9⟩
           rw [hv] at hSay
           have hre := Rest.on (by first | assumption | exact Rest.drew (by assumption)) hb9
           have g0 := hre.r0
           have g1 := hre.r1
           have g2 := hre.f0
           have g3 := hre.f1))
    all_goals
      go_wp2
      refine bodyPost_ret (v := .tuple #[big n' V' ls.length k', .int .i64 er]) (by simp [results, Tryz.results107, go_sem, g0, g1]) rfl ⟨n', V', ls, k', er, rfl, hM.laid hre _ _, .inl ⟨⟨o1, o2⟩, hSay⟩, ?_⟩
      exact Two.below' (by assumption)
  · have hk2 : (if chkV n1 xs = 0 then chkV n2 ys else 1) = 1 := by
      by_cases h : Ok n1 xs
      · rw [if_pos (chkV_ok h), chkV_bad (fun h2 => ho ⟨h, h2⟩)]
      · rw [if_neg (by rw [chkV_bad h]; decide)]
    rw [hk2]
    have ra0 := r1.r0
    have ra1 := r1.r1
    have ra2 := r1.f0
    have ra3 := r1.f1
    go_wp2
    refine bodyPost_ret (v := .tuple #[big false none ([] : List Nat).length 0, .int .i64 1]) (by simp [results, Tryz.results107, go_sem, ra0, ra1]) rfl ?_
    exact ⟨false, none, [], 0, 1, rfl, ⟨fun h => absurd h (by simp), by intro x hx; simp at hx, ok_zero⟩, .inr ⟨ho, rfl, rfl, rfl⟩, (t1.below.setCell (by simp; omega) _).setCell (by simp; omega) _⟩
set_option maxHeartbeats 4000000 in
theorem reckon_add (n1 n2 : Bool) (A B : Option Addr) (xs ys : List Nat) (c d : Nat) (w : World) (hr : Sl .u32 w w.heap.size A xs) (hs : Sl .u32 w w.heap.size B ys) (hx : Dig W32 xs) (hy : Dig W32 ys) (hl : xs.length * 4 ≤ 140737488351232) (hk : ys.length * 4 ≤ 140737488351232) :
    Calls Tryz.prog 107 #[big n1 A xs.length c, big n2 B ys.length d, .func (.func 130) #[] #[]] w (Reck w (Ok n1 xs ∧ Ok n2 ys) (sv n1 (val W32 xs) + sv n2 (val W32 ys))) := by
  have ht := Two.boxed (n1 := n1) (n2 := n2) (l1 := xs.length) (c := c) (l2 := ys.length) (d := d) hr hs
  have hrow : ∀ (W : World) (g : Nat), g = W.heap.size → ∀ (i : Nat) (u : Value), (#[.bool n1, .slice A xs.length c, .bool n2, .slice B ys.length d] : Array Value)[i]? = some u → (W.alloc (.cells #[.bool n1, .slice A xs.length c, .bool n2, .slice B ys.length d] 24)).cell? ⟨g, i, none⟩ = some u := by
    intro W g hg i u hu
    subst hg
    rw [World.cell?_alloc_new]; exact hu
  have hre := Rest.newI ((w.alloc (.cells #[.bool n1, .slice A xs.length c] 24)).alloc (.cells #[.bool n2, .slice B ys.length d] 24))
  have ht := ht.on (W' := ((w.alloc (.cells #[.bool n1, .slice A xs.length c] 24)).alloc (.cells #[.bool n2, .slice B ys.length d] 24)).alloc (.cells #[.bool false, .slice none 0 0] 24)) (by go_grown)
  rw [show ((w.alloc (.cells #[.bool n1, .slice A xs.length c] 24)).alloc (.cells #[.bool n2, .slice B ys.length d] 24)).heap.size = w.heap.size + 1 + 1 by go_size] at hre
  have ha0 := ht.a0
  have ha1 := ht.a1
  have hb0 := ht.b0
  have hb1 := ht.b1
  go_enter Tryz.func107, Tryz.ntmps107
  go_wp2_with fail
  have hz : (((w.alloc (.cells #[.bool n1, .slice A xs.length c] 24)).alloc (.cells #[.bool n2, .slice B ys.length d] 24)).alloc (.cells #[.bool false, .slice none 0 0] 24)).heap.size = w.heap.size + 1 + 1 + 1 := by go_size
  generalize hW : (((w.alloc (.cells #[.bool n1, .slice A xs.length c] 24)).alloc (.cells #[.bool n2, .slice B ys.length d] 24)).alloc (.cells #[.bool false, .slice none 0 0] 24)) = W at *
  clear hW
  have tW := ht.on (W' := W.alloc (.cells #[.bool n1, .slice A xs.length c, .bool n2, .slice B ys.length d] 24)) ((Below.refl _ _).alloc (Nat.le_refl _) _)
  have rW := hre.on (W' := W.alloc (.cells #[.bool n1, .slice A xs.length c, .bool n2, .slice B ys.length d] 24)) ((Below.refl _ _).alloc (Nat.le_refl _) _)
  refine (check_two (w.heap.size + 1 + 1 + 1) n1 n2 A B xs ys 2 c d _ tW.sa tW.sb (by simp; omega) hl hk (hrow _ _ hz.symm 0 _ rfl) (hrow _ _ hz.symm 1 _ rfl) (hrow _ _ hz.symm 2 _ rfl) (hrow _ _ hz.symm 3 _ rfl)).mono ?_
  rintro e w1 ⟨rfl, hq1⟩
  have t1 := tW.on hq1
  have r1 := rW.on hq1
  clear tW rW ht hre ha0 ha1 hb0 hb1 hrow hq1 hz
  by_cases ho : Ok n1 xs ∧ Ok n2 ys
  · obtain ⟨o1, o2⟩ := ho
    have hn1 := norm_pack o1.norm
    have hn2 := norm_pack o2.norm
    have hd1 := dig_pack hx
    have hd2 := dig_pack hy
    have hg1 : (pack xs).length ≤ 1024 := by rw [pack_length]; have := o1.len; omega
    have hg2 : (pack ys).length ≤ 1024 := by rw [pack_length]; have := o2.len; omega
    have L : ∀ (g1 g2 : Nat) (W : World), Sl .u64 W W.heap.size (some ⟨g1, 0, none⟩) (pack xs) → Sl .u64 W W.heap.size (some ⟨g2, 0, none⟩) (pack ys) → Calls Tryz.prog 130 #[big n1 (some ⟨g1, 0, none⟩) (pack xs).length (pack xs).length, big n2 (some ⟨g2, 0, none⟩) (pack ys).length (pack ys).length] W (Gives W (sv n1 (val W32 xs) + sv n2 (val W32 ys)) 4096) := by
      intro g1 g2 W h1 h2
      rw [← val_pack xs, ← val_pack ys]
      refine ((ladd_any n1 n2 _ _ _ _ _ _ W h1 h2 hd1 hd2 hn1 hn2 (by omega) (by omega)).mono ?_)
      intro e w' h; exact h.mono (by omega)
    have HL := Lib.hid L; clear L
    rw [chkV_ok o1, chkV_ok o2]
    have HT := Lib.hid t1.all
    have hall := HT.out
    have ra0 := r1.r0
    have ra1 := r1.r1
    go_wp2_with fail
    go_region_held3 (fun w' => Two w w' w.heap.size (w.heap.size + 1) n1 n2 A B xs ys xs.length c ys.length d ∧ w'.cell? ⟨w.heap.size, 0, none⟩ = some (.bool n1) ∧ w'.cell? ⟨w.heap.size, 1, none⟩ = some (.slice A xs.length c) ∧ w'.cell? ⟨w.heap.size + 1, 0, none⟩ = some (.bool n2) ∧ w'.cell? ⟨w.heap.size + 1, 1, none⟩ = some (.slice B ys.length d))
      (first | exact HT.out | exact Two.keep HT.out ((Below.refl _ _).drew) | exact Two.keep (by assumption) (by assumption) | exact Two.keep (by assumption) ((Below.refl _ _).drew) | exact Two.put (by assumption) (by assumption) (by omega) (by omega) (by omega) _ _)
      (first
        | (go_at_call 105; refine (from_ok _ _ _ _ _ (by first | exact Two.sa' (by assumption) | exact Two.sb' (by assumption)) (by first | exact hx | exact hy) (by first | exact o1 | exact o2)).mono ?_; rintro e w' ⟨g, rfl, hrow, hg, hb⟩
           have hre := Rest.on (by first | assumption | exact Rest.drew (by assumption)) hb)
        | (go_at_call 130; refine (HL.out _ _ _ (by first | exact sl_row (by assumption) | exact sl_row_then (by assumption) (by assumption)) (by first | exact sl_row (by assumption) | exact sl_row_then (by assumption) (by assumption))).mono ?_; rintro e w' ⟨n, V, zs, k, rfl, hB, hv, hb⟩
           have hre := Rest.on (by first | assumption | exact Rest.drew (by assumption)) hb)
        | (go_at_call 147; refine (fit_any _ _ _ _ _ _ hB (by have h1 := hB.len; have h2 := hB.cap; omega)).mono ?_; rintro e w9 ⟨n', V', ls, k', er, rfl, hM, hSay, hb9⟩
           rw [hv] at hSay
           have hre := Rest.on (by first | assumption | exact Rest.drew (by assumption)) hb9
           have g0 := hre.r0
           have g1 := hre.r1
           have g2 := hre.f0
           have g3 := hre.f1))
    all_goals
      go_wp2
      refine bodyPost_ret (v := .tuple #[big n' V' ls.length k', .int .i64 er]) (by simp [results, Tryz.results107, go_sem, g0, g1]) rfl ⟨n', V', ls, k', er, rfl, hM.laid hre _ _, .inl ⟨⟨o1, o2⟩, hSay⟩, ?_⟩
      exact Two.below' (by assumption)
  · have hk2 : (if chkV n1 xs = 0 then chkV n2 ys else 1) = 1 := by
      by_cases h : Ok n1 xs
      · rw [if_pos (chkV_ok h), chkV_bad (fun h2 => ho ⟨h, h2⟩)]
      · rw [if_neg (by rw [chkV_bad h]; decide)]
    rw [hk2]
    have ra0 := r1.r0
    have ra1 := r1.r1
    have ra2 := r1.f0
    have ra3 := r1.f1
    go_wp2
    refine bodyPost_ret (v := .tuple #[big false none ([] : List Nat).length 0, .int .i64 1]) (by simp [results, Tryz.results107, go_sem, ra0, ra1]) rfl ?_
    exact ⟨false, none, [], 0, 1, rfl, ⟨fun h => absurd h (by simp), by intro x hx; simp at hx, ok_zero⟩, .inr ⟨ho, rfl, rfl, rfl⟩, (t1.below.setCell (by simp; omega) _).setCell (by simp; omega) _⟩
end Go.Proofs.YtplgheabhekedaaGreatDoor
