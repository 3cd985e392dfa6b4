/-
  Texts of fractions: what is one, which fraction it tells, the text of each; strings.Cut at a stroke, in plain words. No condition.
-/
import Derived.Test.YtobbedcaeffbaaaGreatDoorBk0
import Derived.Lib.IndexMore
namespace Go.Proofs.YtobbedcaeffbaaaGreatDoor
open Go.RowKit Nb
/-- No stroke in it. -/
def NoS (l : List UInt8) : Prop := ∀ x ∈ l, x ≠ 47
theorem index_no : ∀ {l : List UInt8}, NoS l → Lib.index l [47] = -1
  | [], _ => rfl
  | b :: l, h => by
    have ih := index_no (l := l) fun x hx => h x (List.mem_cons_of_mem _ hx)
    have hb := h b List.mem_cons_self
    have hp : ([47] : List UInt8).isPrefixOf (b :: l) = false := by
      show ((47 == b) && _) = false
      rw [beq_false_of_ne fun e => hb e.symm]; rfl
    unfold Lib.index
    rw [hp, ih]; rfl
theorem index_yes : ∀ {a b : List UInt8}, NoS a → Lib.index (a ++ 47 :: b) [47] = a.length
  | [], b, _ => by
    show Lib.index (47 :: b) [47] = 0
    unfold Lib.index
    rw [if_pos]
    show ((47 == 47) && _) = true
    simp
  | x :: a, b, h => by
    have ih := index_yes (a := a) (b := b) fun y hy => h y (List.mem_cons_of_mem _ hy)
    have hb := h x List.mem_cons_self
    have hp : ([47] : List UInt8).isPrefixOf (x :: (a ++ 47 :: b)) = false := by
      show ((47 == x) && _) = false
      rw [beq_false_of_ne fun e => hb e.symm]; rfl
    show Lib.index (x :: (a ++ 47 :: b)) [47] = _
    unfold Lib.index
    have hq : (((a.length : Nat) : Int) == -1) = false := by rw [beq_eq_false_iff_ne]; omega
    rw [hp, ih, hq]
    simp
theorem cut_no {l : List UInt8} (h : NoS l) : Lib.cut l [47] = (l, [], false) := by
  unfold Lib.cut
  rw [index_no h]; rfl
theorem cut_yes {a b : List UInt8} (h : NoS a) : Lib.cut (a ++ 47 :: b) [47] = (a, b, true) := by
  unfold Lib.cut
  rw [index_yes h, if_pos (by omega)]
  simp
theorem cut_cases : ∀ l : List UInt8, (∃ a b, NoS a ∧ l = a ++ 47 :: b) ∨ NoS l
  | [] => .inr fun x hx => absurd hx (by simp)
  | x :: l => by
    by_cases hx : x = 47
    · subst hx
      exact .inl ⟨[], l, fun y hy => absurd hy (by simp), rfl⟩
    · rcases cut_cases l with ⟨a, b, h, e⟩ | h
      · refine .inl ⟨x :: a, b, fun y hy => ?_, by rw [e]; rfl⟩
        rcases List.mem_cons.1 hy with rfl | hy
        · exact hx
        · exact h y hy
      · refine .inr fun y hy => ?_
        rcases List.mem_cons.1 hy with rfl | hy
        · exact hx
        · exact h y hy
/-- Is it a fraction's text? Which fraction's? -/
def IsFr (l : List UInt8) : Prop :=
  if (Lib.cut l [47]).2.2 then IsNum (Lib.cut l [47]).1 ∧ IsNum (Lib.cut l [47]).2.1 ∧ 1 < numV (Lib.cut l [47]).2.1 ∧ Nat.gcd (numV (Lib.cut l [47]).1).natAbs (numV (Lib.cut l [47]).2.1).natAbs = 1
  else IsNum (Lib.cut l [47]).1
def frV (l : List UInt8) : Rat :=
  if (Lib.cut l [47]).2.2 then Rat.divInt (numV (Lib.cut l [47]).1) (numV (Lib.cut l [47]).2.1) else Rat.divInt (numV (Lib.cut l [47]).1) 1
/-- A fraction's text. -/
def ftxt (q : Rat) : List UInt8 := txt (decide (q.num < 0)) q.num.natAbs ++ (if q.den = 1 then [] else 47 :: Lib.decDigits q.den)
theorem rat_partsF {a b : Int} (hb : 0 < b) (hg : Nat.gcd a.natAbs b.natAbs = 1) : (Rat.divInt a b).num = a ∧ (Rat.divInt a b).den = b.natAbs := by
  have h1 : Int.gcd b a = 1 := by
    show Nat.gcd b.natAbs a.natAbs = 1
    rw [Nat.gcd_comm]; exact hg
  refine ⟨?_, ?_⟩
  · rw [Rat.num_divInt, h1, Int.sign_eq_one_of_pos hb]; simp
  · rw [Rat.den_divInt, h1, if_neg (by omega)]; simp
theorem txt_noS (n : Bool) (v : Nat) : NoS (txt n v) := by
  intro x hx
  unfold txt at hx
  rcases List.mem_append.1 hx with h | h
  · cases n
    · exact absurd h (by simp)
    · rw [List.mem_singleton.1 h]; decide
  · rintro rfl
    have := dec_digit v 47 h
    unfold IsD at this
    have h47 : (47 : UInt8).toNat = 47 := rfl
    omega
theorem sv_ofAbs (z : Int) : sv (decide (z < 0)) z.natAbs = z := by
  unfold sv
  by_cases h : z < 0
  · rw [decide_eq_true h, if_pos rfl]; omega
  · rw [decide_eq_false h, if_neg (by simp)]; omega
theorem ofAbs_pos {z : Int} : decide (z < 0) = true → 0 < z.natAbs := fun h => by
  have := of_decide_eq_true h
  omega
theorem dec_txt (v : Nat) : Lib.decDigits v = txt false v := rfl
theorem ftxt_fr (q : Rat) : IsFr (ftxt q) ∧ frV (ftxt q) = q := by
  have h1 := txt_num (n := decide (q.num < 0)) (v := q.num.natAbs) ofAbs_pos
  have h2 := txt_num (n := false) (v := q.den) (fun h => absurd h (by decide))
  rw [sv_ofAbs] at h1
  have hs := txt_noS (decide (q.num < 0)) q.num.natAbs
  have hp := q.den_pos
  unfold ftxt IsFr frV
  by_cases hd : q.den = 1
  · rw [if_pos hd, List.append_nil, cut_no hs]
    simp only [Bool.false_eq_true, if_false]
    refine ⟨h1.1, ?_⟩
    rw [h1.2]
    have := Rat.num_divInt_den q
    rw [hd] at this
    exact this
  · rw [if_neg hd, cut_yes hs]
    simp only [if_true]
    rw [dec_txt, h1.2, h2.2]
    have e : sv false q.den = (q.den : Int) := rfl
    rw [e]
    exact ⟨⟨h1.1, h2.1, by omega, q.reduced⟩, Rat.num_divInt_den q⟩
theorem ftxt_back {l : List UInt8} (h : IsFr l) : ftxt (frV l) = l := by
  rcases cut_cases l with ⟨a, b, hs, rfl⟩ | hs
  · unfold IsFr at h
    unfold frV ftxt
    rw [cut_yes hs] at h ⊢
    simp only [if_true] at h ⊢
    obtain ⟨ha, hb, h1, hg⟩ := h
    obtain ⟨e1, e2⟩ := rat_partsF (by omega) hg
    rw [e1, e2, if_neg (by omega), dec_txt, txt_back ha (sv_ofAbs _) ofAbs_pos, txt_back hb (by unfold sv; rw [if_neg (by simp)]; omega) (fun h => absurd h (by decide))]
  · unfold IsFr at h
    unfold frV ftxt
    rw [cut_no hs] at h ⊢
    simp only [Bool.false_eq_true, if_false] at h ⊢
    obtain ⟨e1, e2⟩ := rat_partsF (a := numV l) (b := 1) (by omega) (by simp)
    rw [e1, e2, if_pos (show Int.natAbs 1 = 1 from rfl), List.append_nil, txt_back h (sv_ofAbs _) ofAbs_pos]
end Go.Proofs.YtobbedcaeffbaaaGreatDoor
