/-
  The text of a fraction that may be, or the refusal: it would be too long. Conditions: the table of digits.
-/
import Derived.Test.YtobbedcaeffbaaaGreatDoorFp2
import Derived.Test.YtobbedcaeffbaaaGreatDoorFfl
import Derived.Test.YtobbedcaeffbaaaGreatDoorBk0
import Derived.Deep.RegionHeld3
import Derived.Deep.DeepCutAuto
import Derived.BigRegion
import Derived.Lib.SmallJoins
namespace Go.Proofs.YtobbedcaeffbaaaGreatDoor
open Go.RowKit Nb
theorem nl_text {W : World} {Z : Int} {n : Bool} {A : Option Addr} {ls : List Nat} {c : Nat} (h : Nl W Z n A ls c) (T : Tab W) :
    Calls Tryz.prog 68 #[big n A ls.length c] W (fun e w' => ∃ s : ByteArray, e = .returned (.tuple #[.string s, .int .i64 0]) ∧ s.data.toList = txt (decide (Z < 0)) Z.natAbs ∧ s.size ≤ 65536 ∧ Below W.heap.size W w') := by
  refine (wtext_any n A ls c W h.lm T).mono ?_
  rintro e w' ⟨rfl, hb⟩
  exact ⟨_, rfl, by rw [← nl_txt h], by show ((txt n (val W32 ls)).toArray).size ≤ 65536; rw [List.size_toArray]; exact txt_len h.lm.dig h.lm.ok.len, hb⟩
theorem dec_one {v : Nat} : Lib.decDigits v = [49] ↔ v = 1 := by
  constructor
  · intro h
    have := dnum_dec v
    rw [h] at this
    rw [← this]; rfl
  · rintro rfl; rw [dec_small (by decide)]; rfl
/-- What Text answers of q. -/
def FText (q : Rat) (e : Ending) : Prop := ∃ (s : ByteArray) (er : Int), e = .returned (.tuple #[.string s, .int .i64 er]) ∧ ((er = 0 ∧ s.data.toList = ftxt q ∧ (ftxt q).length ≤ 65536) ∨ (er = 4 ∧ 65536 < (ftxt q).length))
set_option maxHeartbeats 4000000 in
set_option maxRecDepth 20000 in
theorem r_text {q : Rat} {f : Fv} {w : World} (L : Ff w q f) (htab : Tab w) :
    Calls Tryz.prog 14 #[fv f] w (fun e w' => FText q e ∧ Below w.heap.size w w') := by
  have HT := Lib.hid htab
  clear htab
  have BW : Below w.heap.size w w := Below.refl _ _
  obtain ⟨V1, e2, hb3, K4, -, -⟩ := alloc_new w [.bool f.n, .slice f.A f.xs.length f.c, .bool f.m, .slice f.B f.ds.length f.d] 27
  replace L := L.kp (Kept.of hb3)
  replace BW := BW.trans (hb3.mono BW.size)
  clear hb3
  go_enter Tryz.func14, Tryz.ntmps14
  go_wp2_with fail
  rw [← e2]
  clear e2
  refine (r_check L.fx).mono ?_
  rintro _ w5 ⟨rfl, hb⟩
  replace K4 := K4.on hb
  replace L := L.kp (Kept.of hb)
  replace BW := BW.trans (hb.mono BW.size)
  clear hb
  rw [chkv_ok L.okv]
  obtain ⟨c6, c7, c8, c9⟩ := K4.c4
  go_wp2_with fail
  clear c6 c7 c8 c9
  refine (nl_text L.2.num (tab_below HT.out BW)).mono ?_
  rintro _ w10 ⟨s, rfl, hs, zs, hb⟩
  replace K4 := K4.on hb
  replace L := L.kp (Kept.of hb)
  replace BW := BW.trans (hb.mono BW.size)
  clear hb
  have HS := Lib.hid hs
  clear hs
  obtain ⟨c11, c12, c13, c14⟩ := K4.c4
  go_wp2_with fail
  clear c11 c12 c13 c14
  have hden := L.2.den
  rw [← L.1] at hden
  refine (nl_text hden (tab_below HT.out BW)).mono ?_
  clear hden
  rintro _ w15 ⟨t, rfl, ht, zt, hb⟩
  replace K4 := K4.on hb
  replace L := L.kp (Kept.of hb)
  replace BW := BW.trans (hb.mono BW.size)
  clear hb
  have e0 : decide (((q.den : Nat) : Int) < 0) = false := by simp <;> omega
  rw [e0, Int.natAbs_natCast] at ht
  clear e0
  have h49 := ByteArray.toList_eq t
  have ht2 : t.data.toList = Lib.decDigits q.den := ht
  by_cases hd : q.den = 1
  · by_cases hl : 65536 < (ftxt q).length
    · have k1 : (t.toList == [49]) = true := by rw [h49, ht2, dec_one.2 hd]; rfl
      have hf : s.data.toList = ftxt q := by rw [HS.out]; unfold ftxt; rw [if_pos hd, List.append_nil]
      have hz : (ftxt q).length = s.size := by rw [← hf, Array.length_toList]; rfl
      have HF := Lib.hid (And.intro hf hz)
      clear hf
      have hlen : (65536 : Int) < (s.size : Int) := by omega
      clear ht ht2 h49 hd hz hl L
      go_wp2
      go_ret2
      exact ⟨⟨_, 4, rfl, .inr ⟨rfl, by rw [HF.out.2]; omega⟩⟩, BW⟩
    · have k1 : (t.toList == [49]) = true := by rw [h49, ht2, dec_one.2 hd]; rfl
      have hf : s.data.toList = ftxt q := by rw [HS.out]; unfold ftxt; rw [if_pos hd, List.append_nil]
      have hz : (ftxt q).length = s.size := by rw [← hf, Array.length_toList]; rfl
      have HF := Lib.hid (And.intro hf hz)
      clear hf
      have hlen : ¬ (65536 : Int) < (s.size : Int) := by omega
      clear ht ht2 h49 hd hz hl L
      go_wp2
      go_ret2
      exact ⟨⟨_, 0, rfl, .inl ⟨rfl, HF.out.1, by rw [HF.out.2]; omega⟩⟩, BW⟩
  · by_cases hl : 65536 < (ftxt q).length
    · have k1 : (t.toList == [49]) = false := beq_false_of_ne (by rw [h49, ht2]; exact fun h => hd (dec_one.1 h))
      have hf : (s ++ ((⟨#[47]⟩ : ByteArray) ++ t)).data.toList = ftxt q := by unfold ftxt; rw [if_neg hd, ← HS.out, ← ht2, Joins.data_append, Joins.data_append]; rfl
      have hz : (ftxt q).length = (s ++ ((⟨#[47]⟩ : ByteArray) ++ t)).size := by rw [← hf, Array.length_toList]; rfl
      have HF := Lib.hid (And.intro hf hz)
      clear hf
      have hsz : (s ++ ((⟨#[47]⟩ : ByteArray) ++ t)).size = s.size + (1 + t.size) := by rw [ByteArray.size_append, ByteArray.size_append]; rfl
      have hlen : (65536 : Int) < (s.size : Int) + (1 + (t.size : Int)) := by omega
      have g1 : ¬ (9223372036854775807 < 1 + t.size) := by omega
      have g2 : ¬ (9223372036854775807 < s.size + (1 + t.size)) := by omega
      have HZ := Lib.hid hsz
      clear hsz
      clear ht ht2 h49 hd hz hl L
      go_wp2
      go_ret2
      exact ⟨⟨_, 4, rfl, .inr ⟨rfl, by rw [HF.out.2, HZ.out]; omega⟩⟩, BW⟩
    · have k1 : (t.toList == [49]) = false := beq_false_of_ne (by rw [h49, ht2]; exact fun h => hd (dec_one.1 h))
      have hf : (s ++ ((⟨#[47]⟩ : ByteArray) ++ t)).data.toList = ftxt q := by unfold ftxt; rw [if_neg hd, ← HS.out, ← ht2, Joins.data_append, Joins.data_append]; rfl
      have hz : (ftxt q).length = (s ++ ((⟨#[47]⟩ : ByteArray) ++ t)).size := by rw [← hf, Array.length_toList]; rfl
      have HF := Lib.hid (And.intro hf hz)
      clear hf
      have hsz : (s ++ ((⟨#[47]⟩ : ByteArray) ++ t)).size = s.size + (1 + t.size) := by rw [ByteArray.size_append, ByteArray.size_append]; rfl
      have hlen : (s.size : Int) + (1 + (t.size : Int)) ≤ 65536 := by omega
      have g1 : ¬ (9223372036854775807 < 1 + t.size) := by omega
      have g2 : ¬ (9223372036854775807 < s.size + (1 + t.size)) := by omega
      have HZ := Lib.hid hsz
      clear hsz
      clear ht ht2 h49 hd hz hl L
      go_wp2
      go_ret2
      exact ⟨⟨_, 0, rfl, .inl ⟨rfl, HF.out.1, by rw [HF.out.2, HZ.out]; omega⟩⟩, BW⟩
end Go.Proofs.YtobbedcaeffbaaaGreatDoor
