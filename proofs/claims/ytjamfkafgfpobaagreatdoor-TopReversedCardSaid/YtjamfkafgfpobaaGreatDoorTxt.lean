/-
  The text of a whole number and of a fraction. Conditions: the table of digits.
-/
import Derived.Test.YtjamfkafgfpobaaGreatDoorFrn
import Derived.Test.YtjamfkafgfpobaaGreatDoorRm0
import Derived.Test.YtjamfkafgfpobaaGreatDoorText3
import Derived.Test.YtjamfkafgfpobaaGreatDoorNum2
import Derived.Deep.RegionHeld3
import Derived.Deep.DeepCutAuto
import Derived.BigRegion
import Derived.Lib.SmallJoins
namespace Go.Proofs.YtjamfkafgfpobaaGreatDoor
open Go.RowKit Nb
set_option maxHeartbeats 1000000 in
theorem wtext_pos (neg : Bool) (A : Option Addr) (ls : List Nat) (c : Nat) (w : World) (hr : Sl .u32 w w.heap.size A ls) (hd : Dig W32 ls) (ho : Ok neg ls) (hpos : 0 < ls.length) (htab : Tab w) :
    Calls Tryz.prog 93 #[big neg A ls.length c] w fun e w' => e = .returned (.tuple #[.string ⟨((if neg then [45] else []) ++ Lib.decDigits (val W32 ls)).toArray⟩, .int .i64 0]) ∧ Below w.heap.size w w' := by
  obtain ⟨z, hz⟩ : ∃ z : ByteArray, ⟨((if neg then [45] else []) ++ Lib.decDigits (val W32 ls)).toArray⟩ = z := ⟨_, rfl⟩
  rw [hz]
  have HZ := Lib.hid hz
  clear hz
  have hlen := ho.len
  have hpl : (pack ls).length ≤ 1024 := by rw [pack_length]; omega
  have hpp : 0 < (pack ls).length := by rw [pack_length]; omega
  have HB := Lib.hid (And.intro (norm_pack ho.norm) (val_pack ls))
  have HT := Lib.hid htab
  clear htab
  go_enter Tryz.func93, Tryz.ntmps93
  go_wp2_with fail
  refine (check_ok neg A ls c _ (by exact ((hr.alloc (Nat.le_refl _) _).more (by go_size))) ho).mono ?_
  rintro e w1 ⟨rfl, hb1⟩
  obtain ⟨a0, a1, hbw, hs1, hz1⟩ := head_facts hr hb1
  go_wp2_with fail
  refine (from_any neg A ls c _ hs1 hd (by omega)).mono ?_
  rw [ok_neg ho]
  rintro e w2 ⟨g, rfl, hrow, hg, hb2⟩
  have hb12 := hbw.trans (hb2.mono hbw.size)
  have tb := tab_below HT.out hb12
  go_wp2_with fail
  refine (ltext_pos neg _ (pack ls) _ _ (sl_row hrow) (dig_pack hd) HB.out.1 (by omega) hpp tb).mono ?_
  rw [HB.out.2]
  rw [HZ.out]
  rintro e w3 ⟨rfl, hb3⟩
  go_wp2
  go_ret2
  exact ⟨rfl, hb12.trans (hb3.mono hb12.size)⟩
end Go.Proofs.YtjamfkafgfpobaaGreatDoor
namespace Go.Proofs.YtjamfkafgfpobaaGreatDoor
namespace Nb
open Lib
/-- What digits tell. -/
def dnum (l : List UInt8) : Nat := l.foldl (fun a c => 10 * a + (c.toNat - 48)) 0
end Nb
end Go.Proofs.YtjamfkafgfpobaaGreatDoor
namespace Go.Proofs.YtjamfkafgfpobaaGreatDoor
namespace Nb
open Lib
theorem dnum_snoc (l : List UInt8) (c : UInt8) : dnum (l ++ [c]) = 10 * dnum l + (c.toNat - 48) := by
  unfold dnum; rw [List.foldl_append]; rfl
end Nb
end Go.Proofs.YtjamfkafgfpobaaGreatDoor
namespace Go.Proofs.YtjamfkafgfpobaaGreatDoor
namespace Nb
open Lib
theorem digit_of {n : Nat} (h : n < 10) : (UInt8.ofNat (48 + n)).toNat = 48 + n := by
  rw [UInt8.toNat_ofNat']; omega
end Nb
end Go.Proofs.YtjamfkafgfpobaaGreatDoor
namespace Go.Proofs.YtjamfkafgfpobaaGreatDoor
namespace Nb
open Lib
theorem dnum_dec (n : Nat) : dnum (decDigits n) = n := by
  induction n using Nat.strongRecOn with
  | ind n ih =>
    by_cases h : n < 10
    · rw [dec_small h]
      show 10 * 0 + ((UInt8.ofNat (48 + n)).toNat - 48) = n
      rw [digit_of h]; omega
    · rw [dec_big h, dnum_snoc, ih (n / 10) (by omega), digit_of (Nat.mod_lt _ (by decide))]
      omega
end Nb
end Go.Proofs.YtjamfkafgfpobaaGreatDoor
namespace Go.Proofs.YtjamfkafgfpobaaGreatDoor
open Go.RowKit Nb
/-- A number's text. -/
def txt (n : Bool) (v : Nat) : List UInt8 := (if n then [45] else []) ++ Lib.decDigits v
end Go.Proofs.YtjamfkafgfpobaaGreatDoor
namespace Go.Proofs.YtjamfkafgfpobaaGreatDoor
open Go.RowKit Nb
set_option maxHeartbeats 1000000 in
set_option maxRecDepth 20000 in
theorem ltext_nil (neg : Bool) (A : Option Addr) (c : Nat) (w : World) :
    Calls Tryz.prog 112 #[big neg A 0 c] w fun e w' => e = .returned (.string ⟨#[48]⟩) ∧ Below w.heap.size w w' := by
  have hb0 : Below w.heap.size w (w.alloc (.cells #[.bool neg, .slice A 0 c] 72)) := by go_grown
  have c1 : (w.alloc (.cells #[.bool neg, .slice A 0 c] 72)).cell? ⟨w.heap.size, 1, none⟩ = some (.slice A 0 c) := by go_cell
  have HC : Hid (∀ W, Calls Tryz.prog 123 #[.slice A 0 c] W fun e w' => ∃ A' c', e = .returned (.slice A' 0 c') ∧ Below W.heap.size W w') := Lib.hid (fun W =>
    (clone_all A [] c W Sl.none_ (by simp)).mono fun e w' ⟨A', c', h1, _, _, h2⟩ => ⟨A', c', h1, h2⟩)
  go_enter Tryz.func112, Tryz.ntmps112
  go_wp2_with fail
  refine (HC.out _).mono ?_
  rintro e w1 ⟨A', c', rfl, hb⟩
  have hb1 := hb0.trans (hb.mono hb0.size)
  clear hb hb0 c1
  go_wp2_with fail
  go_loopw [3, 4] (fun gv rv wr => gv = .slice none 0 0 ∧ rv = .slice A' 0 c' ∧ wr = w1) (fun _ _ _ => 0)
  case atStart => exact ⟨rfl, rfl, rfl⟩
  case round =>
    obtain ⟨rfl, rfl, rfl⟩ := hrel
    go_wp2
    go_ret
    exact ⟨rfl, hb1⟩
end Go.Proofs.YtjamfkafgfpobaaGreatDoor
namespace Go.Proofs.YtjamfkafgfpobaaGreatDoor
open Go.RowKit Nb
set_option maxHeartbeats 1000000 in
theorem wtext_nil (A : Option Addr) (c : Nat) (w : World) :
    Calls Tryz.prog 93 #[big false A 0 c] w fun e w' => e = .returned (.tuple #[.string ⟨#[48]⟩, .int .i64 0]) ∧ Below w.heap.size w w' := by
  have hs : Sl .u32 w w.heap.size A ([] : List Nat) := Sl.none_
  have HF : Hid (∀ W, Calls Tryz.prog 76 #[big false A 0 c] W fun e w' => ∃ g, e = .returned (big false (some ⟨g, 0, none⟩) 0 0) ∧ Below W.heap.size W w') := Lib.hid (fun W =>
    (from_ok false A [] c W Sl.none_ (Dig.nil _) ok_zero).mono fun e w' ⟨g, h1, _, _, h2⟩ => ⟨g, h1, h2⟩)
  go_enter Tryz.func93, Tryz.ntmps93
  go_wp2_with fail
  refine (check_ok false A [] c _ Sl.none_ ok_zero).mono ?_
  rintro e w1 ⟨rfl, hb1⟩
  obtain ⟨a0, a1, hbw, hs1, hz1⟩ := head_facts hs hb1
  simp only [List.length_nil] at a0 a1
  go_wp2_with fail
  refine (HF.out _).mono ?_
  rintro e w2 ⟨g, rfl, hb2⟩
  have hb12 := hbw.trans (hb2.mono hbw.size)
  go_wp2_with fail
  refine (ltext_nil false _ 0 _).mono ?_
  rintro e w3 ⟨rfl, hb3⟩
  go_wp2
  go_ret2
  exact ⟨rfl, hb12.trans (hb3.mono hb12.size)⟩
end Go.Proofs.YtjamfkafgfpobaaGreatDoor
namespace Go.Proofs.YtjamfkafgfpobaaGreatDoor
open Go.RowKit Nb
theorem wtext_any (neg : Bool) (A : Option Addr) (ls : List Nat) (c : Nat) (w : World) (h : Lm w neg A ls c) (htab : Tab w) :
    Calls Tryz.prog 93 #[big neg A ls.length c] w fun e w' => e = .returned (.tuple #[.string ⟨(txt neg (val W32 ls)).toArray⟩, .int .i64 0]) ∧ Below w.heap.size w w' := by
  rcases Nat.eq_zero_or_pos ls.length with h0 | h0
  · obtain rfl : ls = [] := List.eq_nil_of_length_eq_zero h0
    obtain rfl : neg = false := h.ok.sign rfl
    have e0 : txt false (val W32 []) = [48] := by
      show [] ++ Lib.decDigits 0 = [48]
      rw [List.nil_append, dec_small (by decide)]; rfl
    rw [e0]
    exact wtext_nil A c w
  · exact wtext_pos neg A ls c w h.sl h.dig h.ok h0 htab
end Go.Proofs.YtjamfkafgfpobaaGreatDoor
namespace Go.Proofs.YtjamfkafgfpobaaGreatDoor
open Go.RowKit Nb
theorem txt_len {n : Bool} {xs : List Nat} (hd : Dig W32 xs) (hl : xs.length ≤ 2048) : (txt n (val W32 xs)).length ≤ 65536 := by
  have h1 : Lib.nDigits (val W32 xs) ≤ 16 * xs.length + 1 := by
    refine nDigits_le (by omega) ?_
    have h2 := val_lt hd
    have h3 : W32 ^ xs.length ≤ 10 ^ (16 * xs.length) := by
      rw [Nat.pow_mul]
      exact Nat.pow_le_pow_left (by decide) _
    have h4 : 10 ^ (16 * xs.length) ≤ 10 ^ (16 * xs.length + 1) := Nat.pow_le_pow_right (by decide) (by omega)
    omega
  unfold txt
  rw [List.length_append, Lib.decDigits_length]
  cases n <;> simp <;> omega
end Go.Proofs.YtjamfkafgfpobaaGreatDoor
namespace Go.Proofs.YtjamfkafgfpobaaGreatDoor
open Go.RowKit Nb
/-- A fraction's text. -/
def ftxt (q : Rat) : List UInt8 := txt (decide (q.num < 0)) q.num.natAbs ++ (if q.den = 1 then [] else 47 :: Lib.decDigits q.den)
end Go.Proofs.YtjamfkafgfpobaaGreatDoor
namespace Go.Proofs.YtjamfkafgfpobaaGreatDoor
open Go.RowKit Nb
theorem nl_txt {W : World} {Z : Int} {n : Bool} {A : Option Addr} {ls : List Nat} {c : Nat} (h : Nl W Z n A ls c) : txt n (val W32 ls) = txt (decide (Z < 0)) Z.natAbs := by
  have hp : n = true → 0 < val W32 ls := fun hn => by
    rcases Nat.eq_zero_or_pos (val W32 ls) with h0 | h0
    · have := h.lm.ok.sign ((norm_zero (B := W32) (by decide) h.lm.ok.norm).1 h0)
      rw [hn] at this; cases this
    · exact h0
  have hv := h.v
  have h1 : Z.natAbs = val W32 ls := by
    rw [← hv]; unfold sv; split <;> simp
  have h2 : decide (Z < 0) = n := by
    rw [← hv]; unfold sv
    cases n
    · simp <;> omega
    · have := hp rfl
      simp <;> omega
  rw [h1, h2]
end Go.Proofs.YtjamfkafgfpobaaGreatDoor
namespace Go.Proofs.YtjamfkafgfpobaaGreatDoor
open Go.RowKit Nb
theorem nl_text {W : World} {Z : Int} {n : Bool} {A : Option Addr} {ls : List Nat} {c : Nat} (h : Nl W Z n A ls c) (T : Tab W) :
    Calls Tryz.prog 93 #[big n A ls.length c] W (fun e w' => ∃ s : ByteArray, e = .returned (.tuple #[.string s, .int .i64 0]) ∧ s.data.toList = txt (decide (Z < 0)) Z.natAbs ∧ s.size ≤ 65536 ∧ Below W.heap.size W w') := by
  refine (wtext_any n A ls c W h.lm T).mono ?_
  rintro e w' ⟨rfl, hb⟩
  exact ⟨_, rfl, by rw [← nl_txt h], by show ((txt n (val W32 ls)).toArray).size ≤ 65536; rw [List.size_toArray]; exact txt_len h.lm.dig h.lm.ok.len, hb⟩
end Go.Proofs.YtjamfkafgfpobaaGreatDoor
namespace Go.Proofs.YtjamfkafgfpobaaGreatDoor
open Go.RowKit Nb
theorem dec_one {v : Nat} : Lib.decDigits v = [49] ↔ v = 1 := by
  constructor
  · intro h
    have := dnum_dec v
    rw [h] at this
    rw [← this]; rfl
  · rintro rfl; rw [dec_small (by decide)]; rfl
end Go.Proofs.YtjamfkafgfpobaaGreatDoor
namespace Go.Proofs.YtjamfkafgfpobaaGreatDoor
open Go.RowKit Nb
/-- What Text answers of q. -/
def FText (q : Rat) (e : Ending) : Prop := ∃ (s : ByteArray) (er : Int), e = .returned (.tuple #[.string s, .int .i64 er]) ∧ ((er = 0 ∧ s.data.toList = ftxt q ∧ (ftxt q).length ≤ 65536) ∨ (er = 4 ∧ 65536 < (ftxt q).length))
end Go.Proofs.YtjamfkafgfpobaaGreatDoor
namespace Go.Proofs.YtjamfkafgfpobaaGreatDoor
open Go.RowKit Nb
set_option maxHeartbeats 4000000 in
set_option maxRecDepth 20000 in
theorem r_text {q : Rat} {f : Fv} {w : World} (L : Ff w q f) (htab : Tab w) :
    Calls Tryz.prog 59 #[fv f] w (fun e w' => FText q e ∧ Below w.heap.size w w') := by
 have HT := Lib.hid htab
 clear htab
 have BW : Below w.heap.size w w := Below.refl _ _
 obtain ⟨V1, e2, hb3, K4, -, -⟩ := alloc_new w [.bool f.n, .slice f.A f.xs.length f.c, .bool f.m, .slice f.B f.ds.length f.d] 27
 replace L := L.kp (Kept.of hb3)
 replace BW := BW.trans (hb3.mono BW.size)
 clear hb3
 go_enter Tryz.func59, Tryz.ntmps59
 go_wp2_with fail
 rw [← e2]
 clear e2
 refine (r_check L.fx).mono ?_
 rintro _ w5 ⟨rfl, hb⟩
 replace K4 := K4.on hb
 replace L := L.kp (Kept.of hb)
 replace BW := BW.trans (hb.mono BW.size)
 clear hb
 rw [chkv_ok L.okv]
 obtain ⟨c6, c7, c8, c9⟩ := K4.c4
 go_wp2_with fail
 clear c6 c7 c8 c9
 refine (nl_text L.2.num (tab_below HT.out BW)).mono ?_
 rintro _ w10 ⟨s, rfl, hs, zs, hb⟩
 replace K4 := K4.on hb
 replace L := L.kp (Kept.of hb)
 replace BW := BW.trans (hb.mono BW.size)
 clear hb
 have HS := Lib.hid hs
 clear hs
 obtain ⟨c11, c12, c13, c14⟩ := K4.c4
 go_wp2_with fail
 clear c11 c12 c13 c14
 have hden := L.2.den
 rw [← L.1] at hden
 refine (nl_text hden (tab_below HT.out BW)).mono ?_
 clear hden
 rintro _ w15 ⟨t, rfl, ht, zt, hb⟩
 replace K4 := K4.on hb
 replace L := L.kp (Kept.of hb)
 replace BW := BW.trans (hb.mono BW.size)
 clear hb
 have e0 : decide (((q.den : Nat) : Int) < 0) = false := by simp <;> omega
 rw [e0, Int.natAbs_natCast] at ht
 clear e0
 have h49 := ByteArray.toList_eq t
 have ht2 : t.data.toList = Lib.decDigits q.den := ht
 by_cases hd : q.den = 1
 ·by_cases hl : 65536 < (ftxt q).length
  ·have k1 : (t.toList == [49]) = true := by rw [h49, ht2, dec_one.2 hd]; rfl
   have hf : s.data.toList = ftxt q := by rw [HS.out]; unfold ftxt; rw [if_pos hd, List.append_nil]
   have hz : (ftxt q).length = s.size := by rw [← hf, Array.length_toList]; rfl
   have HF := Lib.hid (And.intro hf hz)
   clear hf
   have hlen : (65536 : Int) < (s.size : Int) := by omega
   clear ht ht2 h49 hd hz hl L
   go_wp2
   go_ret2
   exact ⟨⟨_, 4, rfl, .inr ⟨rfl, by rw [HF.out.2]; omega⟩⟩, BW⟩
  ·have k1 : (t.toList == [49]) = true := by rw [h49, ht2, dec_one.2 hd]; rfl
   have hf : s.data.toList = ftxt q := by rw [HS.out]; unfold ftxt; rw [if_pos hd, List.append_nil]
   have hz : (ftxt q).length = s.size := by rw [← hf, Array.length_toList]; rfl
   have HF := Lib.hid (And.intro hf hz)
   clear hf
   have hlen : ¬ (65536 : Int) < (s.size : Int) := by omega
   clear ht ht2 h49 hd hz hl L
   go_wp2
   go_ret2
   exact ⟨⟨_, 0, rfl, .inl ⟨rfl, HF.out.1, by rw [HF.out.2]; omega⟩⟩, BW⟩
 ·by_cases hl : 65536 < (ftxt q).length
  ·have k1 : (t.toList == [49]) = false := beq_false_of_ne (by rw [h49, ht2]; exact fun h => hd (dec_one.1 h))
   have hf : (s ++ ((⟨#[47]⟩ : ByteArray) ++ t)).data.toList = ftxt q := by unfold ftxt; rw [if_neg hd, ← HS.out, ← ht2, Joins.data_append, Joins.data_append]; rfl
   have hz : (ftxt q).length = (s ++ ((⟨#[47]⟩ : ByteArray) ++ t)).size := by rw [← hf, Array.length_toList]; rfl
   have HF := Lib.hid (And.intro hf hz)
   clear hf
   have hsz : (s ++ ((⟨#[47]⟩ : ByteArray) ++ t)).size = s.size + (1 + t.size) := by rw [ByteArray.size_append, ByteArray.size_append]; rfl
   have hlen : (65536 : Int) < (s.size : Int) + (1 + (t.size : Int)) := by omega
   have g1 : ¬ (9223372036854775807 < 1 + t.size) := by omega
   have g2 : ¬ (9223372036854775807 < s.size + (1 + t.size)) := by omega
   have HZ := Lib.hid hsz
   clear hsz
   clear ht ht2 h49 hd hz hl L
   go_wp2
   go_ret2
   exact ⟨⟨_, 4, rfl, .inr ⟨rfl, by rw [HF.out.2, HZ.out]; omega⟩⟩, BW⟩
  ·have k1 : (t.toList == [49]) = false := beq_false_of_ne (by rw [h49, ht2]; exact fun h => hd (dec_one.1 h))
   have hf : (s ++ ((⟨#[47]⟩ : ByteArray) ++ t)).data.toList = ftxt q := by unfold ftxt; rw [if_neg hd, ← HS.out, ← ht2, Joins.data_append, Joins.data_append]; rfl
   have hz : (ftxt q).length = (s ++ ((⟨#[47]⟩ : ByteArray) ++ t)).size := by rw [← hf, Array.length_toList]; rfl
   have HF := Lib.hid (And.intro hf hz)
   clear hf
   have hsz : (s ++ ((⟨#[47]⟩ : ByteArray) ++ t)).size = s.size + (1 + t.size) := by rw [ByteArray.size_append, ByteArray.size_append]; rfl
   have hlen : (s.size : Int) + (1 + (t.size : Int)) ≤ 65536 := by omega
   have g1 : ¬ (9223372036854775807 < 1 + t.size) := by omega
   have g2 : ¬ (9223372036854775807 < s.size + (1 + t.size)) := by omega
   have HZ := Lib.hid hsz
   clear hsz
   clear ht ht2 h49 hd hz hl L
   go_wp2
   go_ret2
   exact ⟨⟨_, 0, rfl, .inl ⟨rfl, HF.out.1, by rw [HF.out.2, HZ.out]; omega⟩⟩, BW⟩
end Go.Proofs.YtjamfkafgfpobaaGreatDoor
