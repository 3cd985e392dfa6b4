/-
  What large.timesAnd, sizeOf, isSize and Parse, strings.CutPrefix of a minus, whole.Text and whole.Parse return; plain facts on texts of digits. Conditions: as each theorem states.
-/
import Derived.Test.YtobbedcaeffbaaaGreatDoorGcd
import Derived.Laws.Strings
import Derived.Test.YtobbedcaeffbaaaGreatDoorCom0
import Derived.Test.YtobbedcaeffbaaaGreatDoorSame
/-! ### Dnum -/
namespace Go.Proofs.YtobbedcaeffbaaaGreatDoor
namespace Nb
open Lib
theorem is_bool (p : Prop) : ∃ b : Bool, b = true ↔ p := by
  by_cases h : p
  · exact ⟨true, by simp [h]⟩
  · exact ⟨false, by simp [h]⟩
/-- What digits tell. -/
def dnum (l : List UInt8) : Nat := l.foldl (fun a c => 10 * a + (c.toNat - 48)) 0
/-- A digit. -/
def IsD (c : UInt8) : Prop := 48 ≤ c.toNat ∧ c.toNat ≤ 57
/-- A numeral: digits alone, without a nought ahead. -/
structure Sz (l : List UInt8) : Prop where
  ne : l ≠ []
  dig : ∀ c ∈ l, IsD c
  head : l.head? = some 48 → l = [48]
theorem snoc_ind {P : List UInt8 → Prop} (h0 : P []) (h1 : ∀ l c, P l → P (l ++ [c])) (l : List UInt8) : P l := by
  rw [← List.reverse_reverse l]
  induction l.reverse with
  | nil => exact h0
  | cons c m ih => rw [List.reverse_cons]; exact h1 _ _ ih
theorem dnum_nil : dnum [] = 0 := rfl
theorem dnum_snoc (l : List UInt8) (c : UInt8) : dnum (l ++ [c]) = 10 * dnum l + (c.toNat - 48) := by
  unfold dnum; rw [List.foldl_append]; rfl
theorem dnum_append (a b : List UInt8) : dnum (a ++ b) = dnum a * 10 ^ b.length + dnum b := by
  refine snoc_ind (P := fun b => dnum (a ++ b) = dnum a * 10 ^ b.length + dnum b) ?_ (fun b c ih => ?_) b
  · simp [dnum]
  · rw [← List.append_assoc, dnum_snoc, dnum_snoc, ih, List.length_append, List.length_singleton, Nat.pow_succ, Nat.mul_add]
    have : dnum a * (10 ^ b.length * 10) = 10 * (dnum a * 10 ^ b.length) := by grind
    omega
theorem dnum_lt {l : List UInt8} (h : ∀ c ∈ l, IsD c) : dnum l < 10 ^ l.length := by
  revert h
  refine snoc_ind (P := fun l => (∀ c ∈ l, IsD c) → dnum l < 10 ^ l.length) (fun _ => by decide) (fun l c ih h => ?_) l
  · have h1 := ih fun x hx => h x (List.mem_append_left _ hx)
    have h2 := h c (by simp)
    unfold IsD at h2
    rw [dnum_snoc, List.length_append, List.length_singleton, Nat.pow_succ]
    omega
theorem digit_of {n : Nat} (h : n < 10) : (UInt8.ofNat (48 + n)).toNat = 48 + n := by
  rw [UInt8.toNat_ofNat']; omega
theorem dnum_dec (n : Nat) : dnum (decDigits n) = n := by
  induction n using Nat.strongRecOn with
  | ind n ih =>
    by_cases h : n < 10
    · rw [dec_small h]
      show 10 * 0 + ((UInt8.ofNat (48 + n)).toNat - 48) = n
      rw [digit_of h]; omega
    · rw [dec_big h, dnum_snoc, ih (n / 10) (by omega), digit_of (Nat.mod_lt _ (by decide))]
      omega
theorem dec_ne (n : Nat) : decDigits n ≠ [] := by
  by_cases h : n < 10
  · rw [dec_small h]; simp
  · rw [dec_big h]; simp
theorem dec_digit (n : Nat) : ∀ c ∈ decDigits n, IsD c := by
  induction n using Nat.strongRecOn with
  | ind n ih =>
    intro c hc
    by_cases h : n < 10
    · rw [dec_small h] at hc
      rw [List.mem_singleton.1 hc]
      unfold IsD; rw [digit_of h]; omega
    · rw [dec_big h] at hc
      rcases List.mem_append.1 hc with hc | hc
      · exact ih (n / 10) (by omega) c hc
      · rw [List.mem_singleton.1 hc]
        have := Nat.mod_lt n (show 0 < 10 by decide)
        unfold IsD; rw [digit_of this]; omega
theorem head_append {a b : List UInt8} (h : a ≠ []) : (a ++ b).head? = a.head? := by
  cases a with
  | nil => exact absurd rfl h
  | cons x a => rfl
theorem dec_head {n : Nat} (hn : 0 < n) : (decDigits n).head? ≠ some 48 := by
  induction n using Nat.strongRecOn with
  | ind n ih =>
    by_cases h : n < 10
    · rw [dec_small h]
      intro e
      simp only [List.head?_cons, Option.some.injEq] at e
      have := congrArg UInt8.toNat e
      rw [digit_of h] at this
      have h48 : (48 : UInt8).toNat = 48 := rfl
      omega
    · rw [dec_big h, head_append (dec_ne _)]
      exact ih (n / 10) (by omega) (by omega)
theorem sz_dec (n : Nat) : Sz (decDigits n) := by
  refine ⟨dec_ne n, dec_digit n, fun h => ?_⟩
  rcases Nat.eq_zero_or_pos n with rfl | hn
  · rw [dec_small (by decide)]; rfl
  · exact absurd h (dec_head hn)
theorem dec_dnum : ∀ (k : Nat) (l : List UInt8), l.length = k → Sz l → decDigits (dnum l) = l := by
  intro k
  induction k with
  | zero => intro l hl h; exact absurd (List.eq_nil_of_length_eq_zero hl) h.ne
  | succ k ih =>
    intro l hl h
    obtain ⟨m, c, rfl⟩ : ∃ m c, l = m ++ [c] := by
      rcases List.eq_nil_or_concat l with e | ⟨m, c, e⟩
      · exact absurd e h.ne
      · exact ⟨m, c, by rw [e, List.concat_eq_append]⟩
    have hc := h.dig c (by simp)
    unfold IsD at hc
    have hcc : UInt8.ofNat (48 + (c.toNat - 48)) = c := by rw [show 48 + (c.toNat - 48) = c.toNat by omega]; simp
    rw [dnum_snoc]
    rcases List.eq_nil_or_concat m with e | ⟨m', c', e⟩
    · subst e
      rw [dnum_nil, dec_small (by omega), Nat.mul_zero, Nat.zero_add, hcc]; rfl
    · have hm : m ≠ [] := by rw [e]; simp
      have hh : m.head? ≠ some 48 := fun e2 => by
        have := h.head (by rw [head_append hm]; exact e2)
        have := congrArg List.length this
        rw [List.length_append] at this
        simp at this
        exact hm this
      have hs : Sz m := ⟨hm, fun x hx => h.dig x (List.mem_append_left _ hx), fun e2 => absurd e2 hh⟩
      have h1 := ih m (by simp at hl; exact hl) hs
      have h2 : dnum m ≠ 0 := fun e2 => by
        rw [e2, dec_small (by decide)] at h1
        exact hh (by rw [← h1]; rfl)
      rw [dec_big (by omega), show (10 * dnum m + (c.toNat - 48)) / 10 = dnum m by omega, show (10 * dnum m + (c.toNat - 48)) % 10 = c.toNat - 48 by omega, h1, hcc]
end Nb
end Go.Proofs.YtobbedcaeffbaaaGreatDoor
/-! ### Prs -/
namespace Go.Proofs.YtobbedcaeffbaaaGreatDoor
open Go.RowKit Nb
theorem ob_own {w : World} {B g c : Nat} {zs : List Nat} (h : Ob w B g zs c) : w.ownsRow B 49 1 (.slice (some ⟨g, 0, none⟩) zs.length c) zs.length (zs.map fun n : Nat => Value.int .u64 n) := by
  obtain ⟨rest, hr, hl⟩ := h.row
  refine ⟨by simp, .inr ⟨g, c, _, rfl, h.base, hr, by omega, h.cap, by simp; omega, ?_⟩⟩
  rw [Nat.mul_one]
  show ((zs.map fun n : Nat => Value.int .u64 n) ++ rest).take zs.length = _
  rw [List.take_append_of_le_length (by simp)]
  exact List.take_of_length_le (by simp)
/-- A list of words in memory of its own, or none. -/
def Ours (w : World) (B : Nat) (V : Value) (zs : List Nat) : Prop := (V = .slice none 0 0 ∧ zs = []) ∨ ∃ g c, V = .slice (some ⟨g, 0, none⟩) zs.length c ∧ Ob w B g zs c ∧ 0 < zs.length
theorem Ours.own {w : World} {B : Nat} {V : Value} {zs : List Nat} (h : Ours w B V zs) : w.ownsRow B 49 1 V zs.length (zs.map fun n : Nat => Value.int .u64 n) := by
  rcases h with ⟨rfl, rfl⟩ | ⟨g, c, rfl, ho, _⟩
  · exact World.ownsRow_nil _ _ _ _
  · exact ob_own ho
theorem Ours.of {w : World} {B : Nat} {V : Value} {zs : List Nat} (h : w.ownsRow B 49 1 V zs.length (zs.map fun n : Nat => Value.int .u64 n)) (hp : 0 < zs.length) : Ours w B V zs := by
  obtain ⟨g, c, rfl, ho⟩ := ob_addr h hp rfl
  exact .inr ⟨g, c, rfl, ho, hp⟩
/-- What timesAnd and sizeOf answer: a list in memory of its own. -/
def Telling (w : World) (B N L : Nat) (e : Ending) (w' : World) : Prop := ∃ (V : Value) (zs : List Nat), e = .returned V ∧ Ours w' B V zs ∧ Dig W64 zs ∧ val W64 zs = N ∧ zs.length ≤ L ∧ Below B w w'
set_option maxHeartbeats 1000000 in
set_option maxRecDepth 20000 in
theorem timesAnd_nil (B q v : Nat) (w : World) (hv : v < W64) (hB : B ≤ w.heap.size) :
    Calls Tryz.prog 306 #[.slice none 0 0, .int .u64 q, .int .u64 v] w (Telling w B v 1) := by
  obtain ⟨i0, hi, hz0, hz1, hz2⟩ := info_u64p
  rcases Nat.eq_zero_or_pos v with h0 | h0
  · have hz : ((v : Int) == 0) = true := by simp [h0]
    have H0 := Lib.hid h0
    clear h0
    go_enter Tryz.func306, Tryz.ntmps306
    go_wp2
    go_loopw [2, 13] (fun vv iv wr => vv = .int .u64 v ∧ iv = .int .i64 0 ∧ wr = w) (fun _ _ _ => 0)
    case atStart => exact ⟨rfl, rfl, rfl⟩
    case round =>
      obtain ⟨rfl, rfl, rfl⟩ := hrel
      go_wp2
      go_ret
      exact ⟨_, [], rfl, .inl ⟨rfl, rfl⟩, Dig.nil _, by rw [H0.out]; rfl, Nat.zero_le _, Below.refl _ _⟩
  · have hz : ((v : Int) == 0) = false := beq_false_of_ne (by omega)
    go_enter Tryz.func306, Tryz.ntmps306
    go_wp2
    go_loopw [2, 13] (fun vv iv wr => vv = .int .u64 v ∧ iv = .int .i64 0 ∧ wr = w) (fun _ _ _ => 0)
    case atStart => exact ⟨rfl, rfl, rfl⟩
    case round =>
      obtain ⟨rfl, rfl, rfl⟩ := hrel
      go_wp2_with (at_builtin; refine wpList_append_own _ rfl (.tmp 41) (.tmp 43) 96 rfl B 49 i0 (.int .u64 0) 1 8 Tryz.underlying96 hi hz0 hz1 hz2 rfl (by decide) _ 0 [] rfl (World.ownsRow_nil _ _ _ _) ⟨wr.heap.size, 0, none⟩ 1 1 [.int .u64 (v : Nat)] rfl rfl (by intro j u hj; match j, hj with | 0, hj => simp at hj; subst hj; simp [Addr.add]) (by intro u hu; simp at hu; subst hu; rfl) (by unfold maxLen; omega) (by omega) (by simp; omega) ?_
                   intro v' w3 hown hgr _)
      have hb : Below B wr w3 := ((Below.refl B wr).alloc (by omega) _ : Below B wr (wr.alloc _)).grown hgr (by simp; omega) (fun q hq => by cases hq)
      go_ret
      exact ⟨v', [v], rfl, Ours.of hown (by simp), Dig.one hv, by simp [val], by simp, hb⟩
theorem times_step {k o oo q x lo V v : Nat} {ds : List Nat} (h : val W64 ds + W64 ^ k * o = V * q + v) (hl : ds.length = k) (h1 : lo + W64 * oo = x * q + o) : val W64 (ds ++ [lo]) + W64 ^ (k + 1) * oo = (V + W64 ^ k * x) * q + v := by
  rw [val_snoc, hl, Nat.pow_succ, Nat.add_mul, Nat.mul_assoc (W64 ^ k) x]
  generalize W64 ^ k = P at *
  have g : P * lo + P * W64 * oo = P * (x * q) + P * o := by rw [Nat.mul_assoc, ← Nat.mul_add, ← Nat.mul_add, h1]
  omega
set_option maxHeartbeats 2000000 in
set_option maxRecDepth 20000 in
theorem timesAnd_pos (B g c q v : Nat) (xs : List Nat) (w : World) (h : Ob w B g xs c) (hp : 0 < xs.length) (dx : Dig W64 xs) (hq : q < W64) (hv : v < W64) (hl : (xs.length + 1) * 8 ≤ 140737488351232) :
    Calls Tryz.prog 306 #[.slice (some ⟨g, 0, none⟩) xs.length c, .int .u64 q, .int .u64 v] w (Telling w B (val W64 xs * q + v) (xs.length + 1)) := by
  obtain ⟨i0, hi, hz0, hz1, hz2⟩ := info_u64p
  go_enter Tryz.func306, Tryz.ntmps306
  go_wp2
  go_loopw [2, 13] (fun vv iv wr => ∃ (k o : Nat) (ds : List Nat), k ≤ xs.length ∧ vv = .int .u64 o ∧ iv = .int .i64 k ∧ o < W64 ∧ ds.length = k ∧ Dig W64 ds ∧ val W64 ds + W64 ^ k * o = val W64 (xs.take k) * q + v ∧ Ob wr B g (ds ++ xs.drop k) c ∧ Below B w wr) (fun _ iv _ => xs.length - (intOf iv).toNat)
  case atStart => exact ⟨0, v, [], Nat.zero_le _, rfl, rfl, hv, rfl, Dig.nil _, by simp [val], by simpa using h, Below.refl _ _⟩
  case round =>
    clear h
    obtain ⟨k, o, ds, hk, rfl, rfl, ho, hdl, hdd, he, hob, hbw⟩ := hrel
    have HD := Lib.hid hdl; clear hdl
    have HE := Lib.hid he; clear he
    by_cases hlt : k < xs.length
    · have hil : k < (ds ++ xs.drop k).length := by rw [fill_length ds xs HD.out (by omega)]; exact hlt
      have gc := hob.cell hil
      rw [fill_get ds xs HD.out hlt] at gc
      have gf := hob.frozen k
      have hxx := dx.get hlt
      have hty := val_take_succ W64 hlt
      have hst := fun (lo oo : Nat) => times_step (lo := lo) (oo := oo) (x := xs[k]) HE.out HD.out
      rw [← hty] at hst
      have pu := fun z => hob.set_ z hil
      generalize xs[k] = x at *
      obtain ⟨hh, ll, hmul, hll, hlo, hh2⟩ := mul64_ex x q hxx hq
      obtain ⟨z, o1, hadd, hz, ho1, hvo⟩ := add64_ex ll o 0 hll ho (by omega)
      have e1 := comb_word hlo hvo rfl
      have s1 := comb_small hxx hq ho e1
      have hst' := hst z (hh + o1) e1
      have pz := pu z
      rw [fill_put ds xs z HD.out hlt] at pz
      have HS := Lib.hid (And.intro hst' s1)
      have HP := Lib.hid pz
      have hc1 : (hh : Int) + o1 ≤ 18446744073709551615 := by simp only [W64] at *; omega
      have hki : (k : Int) < (xs.length : Int) := by omega
      have hadd' : ∀ w, (callFunc 319 #[.int .u64 ll, .int .u64 o, .int .u64 0]).run Tryz.prog w = .ok (.value (.tuple #[.int .u64 z, .int .u64 o1])) w := hadd
      clear hadd hst hst' pu pz hty e1 s1 hvo hlo hll hxx
      go_wp2_with (go_at_call 329; refine (hmul _).mono ?_; rintro e w' ⟨rfl, rfl⟩)
      go_roundw
      case rel => exact ⟨k + 1, hh + o1, ds ++ [z], by omega, by go_num, by go_num, HS.out.2, by simp; exact HD.out, dig_snoc hdd hz, HS.out.1, HP.out, hbw.setCell (p := ⟨g, k, none⟩) hob.base _⟩
      case measure => simp [intOf]; omega
    · obtain rfl : k = xs.length := by omega
      have h1 := HE.out
      rw [List.take_length] at h1
      rw [List.drop_length, List.append_nil] at hob
      have HV := Lib.hid h1
      clear h1
      have hdp : 0 < ds.length := by rw [HD.out]; exact hp
      rcases Nat.eq_zero_or_pos o with h0 | h0
      · have hz : ((o : Int) == 0) = true := by simp [h0]
        have H0 := Lib.hid h0
        clear h0
        go_wp2
        go_ret
        refine ⟨_, ds, rfl, .inr ⟨g, c, by rw [HD.out]; rfl, hob, hdp⟩, hdd, ?_, by rw [HD.out]; omega, hbw⟩
        have := HV.out
        rw [H0.out] at this
        omega
      · have hz : ((o : Int) == 0) = false := beq_false_of_ne (by omega)
        have hown : wr.ownsRow B 49 1 (.slice (some ⟨g, 0, none⟩) xs.length c) xs.length (ds.map fun n : Nat => Value.int .u64 n) := by
          have := ob_own hob
          rwa [HD.out] at this
        have hbs := hbw.size
        have hgl := hob.lt
        have hgb := hob.base
        go_wp2_with (at_builtin; refine wpList_append_own _ rfl (.tmp 41) (.tmp 43) 96 rfl B 49 i0 (.int .u64 0) 1 8 Tryz.underlying96 hi hz0 hz1 hz2 rfl (by decide) _ xs.length (ds.map fun n : Nat => Value.int .u64 n) rfl (hown.alloc _) ⟨wr.heap.size, 0, none⟩ 1 1 [.int .u64 (o : Nat)] rfl rfl (by intro j u hj; match j, hj with | 0, hj => simp at hj; subst hj; simp [Addr.add]) (by intro u hu; simp at hu; subst hu; rfl) (by unfold maxLen; omega) (by omega) (by simp; omega) ?_
                     intro v' w3 hown3 hgr _)
        have hb : Below B wr w3 := ((Below.refl B wr).alloc (by omega) _ : Below B wr (wr.alloc _)).grown hgr (by simp; omega) (fun q2 hq2 => by have h2 : some g = some q2 := hq2; injection h2 with h2; omega)
        go_ret
        have hlen : (ds ++ [o]).length = xs.length + 1 := by simp; exact HD.out
        refine ⟨v', ds ++ [o], rfl, Ours.of (by rw [hlen, List.map_append]; exact hown3) (by simp), dig_snoc hdd ho, ?_, by rw [hlen]; exact Nat.le_refl _, hbw.trans hb⟩
        rw [val_snoc, HD.out]
        exact HV.out
theorem timesAnd_any (B : Nat) (V : Value) (q v : Nat) (xs : List Nat) (w : World) (h : Ours w B V xs) (dx : Dig W64 xs) (hq : q < W64) (hv : v < W64) (hl : (xs.length + 1) * 8 ≤ 140737488351232) (hB : B ≤ w.heap.size) :
    Calls Tryz.prog 306 #[V, .int .u64 q, .int .u64 v] w (Telling w B (val W64 xs * q + v) (xs.length + 1)) := by
  rcases h with ⟨rfl, rfl⟩ | ⟨g, c, rfl, ho, hp⟩
  · simp only [val_nil, Nat.zero_mul, Nat.zero_add]
    exact timesAnd_nil B q v w hv hB
  · exact timesAnd_pos B g c q v xs w ho hp dx hq hv hl
end Go.Proofs.YtobbedcaeffbaaaGreatDoor
/-! ### Szo -/
namespace Go.Proofs.YtobbedcaeffbaaaGreatDoor
open Go.RowKit Nb
theorem take_snoc (s : ByteArray) (k : Nat) (h : k < s.size) : s.data.toList.take (k + 1) = s.data.toList.take k ++ [s[k]] := by
  rw [List.take_succ_eq_append_getElem (by simpa using h)]; rfl
theorem ext_list (t : ByteArray) (k : Nat) (_h : k ≤ t.size) : (t.extract k t.size).data.toList = t.data.toList.drop k := by
  rw [ByteArray.data_extract, Array.toList_extract]
  have : t.data.toList.length = t.size := by simp
  simp [List.extract, List.take_of_length_le]
set_option maxHeartbeats 2000000 in
set_option maxRecDepth 20000 in
theorem sizeOf_any (s : ByteArray) (w : World) (hd : ∀ c ∈ s.data.toList, IsD c) (hs : s.size ≤ 1000000) :
    Calls Tryz.prog 266 #[.string s] w (WordsL w (dnum s.data.toList) s.size) := by
  go_enter Tryz.func266, Tryz.ntmps266
  go_wp2
  go_loopw [0, 3] (fun sv xv wr => ∃ (t : ByteArray) (zs : List Nat) (pre : List UInt8), sv = .string t ∧ Hid (pre ++ t.data.toList = s.data.toList ∧ val W64 zs = dnum pre ∧ zs.length ≤ pre.length) ∧ Ours wr w.heap.size xv zs ∧ Dig W64 zs ∧ t.size ≤ 1000000 ∧ Below w.heap.size w wr) (fun sv _ _ => match sv with | .string b => b.size | _ => 0)
  case atStart => exact ⟨s, [], [], rfl, Lib.hid ⟨rfl, rfl, Nat.le_refl _⟩, .inl ⟨rfl, rfl⟩, Dig.nil _, hs, Below.refl _ _⟩
  case round =>
    obtain ⟨t, zs, pre, rfl, H, ho, dz, ht, hb⟩ := hrel
    rcases Nat.eq_zero_or_pos t.size with h0 | h0
    · have hti : ¬ (0 : Int) < (t.size : Int) := by omega
      have htl : t.data.toList = [] := List.eq_nil_of_length_eq_zero (by simpa using h0)
      have hp := H.out.1
      rw [htl, List.append_nil] at hp
      have hpl : pre.length = s.size := by rw [hp]; simp
      have hv := H.out.2.1
      rw [hp] at hv
      have hzl : zs.length ≤ s.size := by have := H.out.2.2; omega
      have HV := Lib.hid (And.intro hv hzl)
      clear hp hpl hv hzl htl h0 H
      rcases ho with ⟨rfl, rfl⟩ | ⟨g, c, rfl, ho, hzp⟩
      · have hT := trim_any none [] 0 wr Sl.none_ (Nat.le_refl _) (Nat.zero_le _)
        have HT := Lib.hid hT
        clear hT
        go_wp2_with fail
        refine (HT.out).mono ?_
        rintro e w5 ⟨rfl, rfl⟩
        go_wp2_with fail
        go_ret
        exact ⟨none, [], 0, rfl, Sl.none_, Dig.nil _, Norm.nil, HV.out.1, Nat.le_refl _, Nat.zero_le _, Nat.zero_le _, hb⟩
      · have hcl := ho.len
        have hcm := ho.cap
        have HT := Lib.hid (trim_any (some ⟨g, 0, none⟩) zs c wr (ho.sl ho.lt) hcl hcm)
        go_wp2_with fail
        refine (HT.out).mono ?_
        rintro e w5 ⟨rfl, rfl⟩
        go_wp2_with fail
        go_ret
        have n1 := trimL_len zs
        exact ⟨_, trimL zs, c, rfl, sl_trimL (ho.sl ho.lt), dig_trimL dz, norm_trimL _, by rw [val_trimL]; exact HV.out.1, by omega, hcm, by have := HV.out.2; omega, hb⟩
    · obtain ⟨n, hn⟩ : ∃ n, (t.size - 1) % 19 + 1 = n := ⟨_, rfl⟩
      have hni : ((t.size : Int) - 1) % 19 + 1 = (n : Int) := by omega
      have hn1 : 1 ≤ n ∧ n ≤ 19 ∧ n ≤ t.size := by omega
      have hti : (0 : Int) < (t.size : Int) := by omega
      have HN := Lib.hid hn
      clear hn
      have hdt : ∀ (k : Nat) (h : k < t.size), IsD t[k] := fun k h => hd _ (by rw [← H.out.1]; exact List.mem_append_right _ (by
        show t.data[k] ∈ t.data.toList
        exact Array.getElem_mem_toList _))
      have HDT := Lib.hid hdt
      clear hdt
      go_wp2
      go_loop [5, 6, 17] (fun gv tv iv => ∃ k : Nat, k ≤ n ∧ iv = .int .i64 k ∧ gv = .int .u64 (dnum (t.data.toList.take k) : Nat) ∧ tv = .int .u64 (10 ^ k : Nat)) (fun _ _ iv => n - (intOf iv).toNat)
      case atStart => exact ⟨0, Nat.zero_le _, rfl, rfl, rfl⟩
      case round =>
        obtain ⟨k, hk, rfl, rfl, rfl⟩ := hrel
        by_cases hlt : k < n
        · have hkt : k < t.size := by omega
          have hdk := HDT.out k hkt
          unfold IsD at hdk
          have e1 := dnum_snoc (t.data.toList.take k) t[k]
          rw [← take_snoc t k hkt] at e1
          have b1 : dnum (t.data.toList.take k) < 10 ^ (t.data.toList.take k).length := dnum_lt (fun c hc => hd c (by rw [← H.out.1]; exact List.mem_append_right _ (List.mem_of_mem_take hc)))
          have b2 : (t.data.toList.take k).length = k := by rw [List.length_take]; have : t.data.toList.length = t.size := by simp
                                                            omega
          rw [b2] at b1
          have b3 : 10 ^ k ≤ 10 ^ 18 := Nat.pow_le_pow_right (by decide) (by omega)
          have e2 : 10 ^ (k + 1) = 10 ^ k * 10 := Nat.pow_succ ..
          obtain ⟨T, hT⟩ : ∃ T, 10 ^ k = T := ⟨_, rfl⟩
          obtain ⟨Gd, hGd⟩ : ∃ Gd, dnum (t.data.toList.take k) = Gd := ⟨_, rfl⟩
          rw [hT] at b1 b3 e2
          rw [hGd] at b1 e1
          have b4 : T ≤ 1000000000000000000 := b3
          have E := Lib.hid (And.intro e1 e2)
          rw [hT, hGd]
          clear e1 e2 b2 b3 hT hGd
          have c1 : (48 : Int) ≤ (t[k].toNat : Int) := by omega
          have c2 : (t[k].toNat : Int) ≤ 57 := by omega
          have c3 : (T : Int) ≤ 1000000000000000000 := by omega
          have c4 : (Gd : Int) ≤ 1000000000000000000 := by omega
          go_wp2
          go_round
          case rel =>
            refine ⟨k + 1, by omega, by go_num, ?_, ?_⟩
            · rw [E.out.1]; congr 1; omega
            · rw [E.out.2]; congr 1
          case measure => simp [intOf]; omega
        · obtain rfl : k = n := by omega
          have b3 : 10 ^ k < W64 := Nat.lt_of_le_of_lt (Nat.pow_le_pow_right (by decide) (by omega) : 10 ^ k ≤ 10 ^ 19) (by decide)
          have hlt2 : t.data.toList.length = t.size := by simp
          have b2 : (t.data.toList.take k).length = k := by rw [List.length_take]; omega
          have b1 : dnum (t.data.toList.take k) < 10 ^ (t.data.toList.take k).length := dnum_lt (fun c hc => hd c (by rw [← H.out.1]; exact List.mem_append_right _ (List.mem_of_mem_take hc)))
          rw [b2] at b1
          have hpl : pre.length + t.size = s.size := by
            have := congrArg List.length H.out.1
            rw [List.length_append, hlt2] at this
            simpa using this
          have hTA := timesAnd_any w.heap.size u3 (10 ^ k) (dnum (t.data.toList.take k)) zs wr ho dz b3 (Nat.lt_trans b1 b3) (by have := H.out.2.2; omega) hb.size
          have HTA := Lib.hid hTA
          have HB := Lib.hid (And.intro b2 (And.intro hpl hlt2))
          clear hTA b1 b2 b3 hpl hlt2 ho
          have hkt : (k : Int) ≤ (t.size : Int) := by omega
          go_wp2_with fail
          refine (HTA.out).mono ?_
          rintro e w2 ⟨V, zs2, rfl, ho2, dz2, hv2, hl2, hb2⟩
          have hb3 := hb.trans hb2
          clear HTA hb hb2
          go_wp2
          go_roundw
          case rel =>
            have hel := ext_list t k (by omega)
            refine ⟨t.extract k t.size, zs2, pre ++ t.data.toList.take k, rfl, Lib.hid ⟨?_, ?_, ?_⟩, ho2, dz2, ?_, hb3⟩
            · rw [hel, List.append_assoc, List.take_append_drop]; exact H.out.1
            · rw [hv2, H.out.2.1, dnum_append, HB.out.1]
            · rw [List.length_append, HB.out.1]; have := H.out.2.2; omega
            · rw [ByteArray.size_extract]; omega
          case measure =>
            show (t.extract k t.size).size < t.size
            rw [ByteArray.size_extract]; omega
end Go.Proofs.YtobbedcaeffbaaaGreatDoor
/-! ### Isz -/
namespace Go.Proofs.YtobbedcaeffbaaaGreatDoor
open Go.RowKit Nb
theorem sz_head {l : List UInt8} {c : UInt8} {m : List UInt8} (hl : l = c :: m) (h : ¬ (c = 48 ∧ l ≠ [48])) (hd : ∀ x ∈ l, IsD x) : Sz l := by
  refine ⟨by rw [hl]; simp, hd, fun e => ?_⟩
  rw [hl] at e
  simp only [List.head?_cons, Option.some.injEq] at e
  rcases Classical.em (l = [48]) with h1 | h1
  · exact h1
  · exact absurd ⟨e, h1⟩ h
set_option maxHeartbeats 1000000 in
set_option maxRecDepth 20000 in
theorem isSize_any (s : ByteArray) (b : Bool) (w : World) (hb : b = true ↔ Sz s.data.toList) (hs : s.size ≤ maxLen) :
    Calls Tryz.prog 265 #[.string s] w fun e w' => e = .returned (.bool b) ∧ w = w' := by
  unfold maxLen at hs
  have el := ByteArray.toList_eq s
  have hll : s.data.toList.length = s.size := by simp
  rcases Nat.eq_zero_or_pos s.size with h0 | h0
  · have hn : s.toList = [] := by rw [el]; exact List.eq_nil_of_length_eq_zero (by omega)
    have hbf : b = false := by
      cases b
      · rfl
      · exact absurd (el ▸ hn) (hb.1 rfl).ne
    subst hbf
    have he : s.toList.isEmpty = true := by rw [hn]; rfl
    clear hb hll el
    go_enter Tryz.func265, Tryz.ntmps265
    go_wp2
    go_ret
    exact ⟨rfl, rfl⟩
  · obtain ⟨m, hm⟩ : ∃ m, s.data.toList = s[0] :: m := by
      cases hl : s.data.toList with
      | nil => rw [hl] at hll; simp at hll; omega
      | cons x l =>
        refine ⟨l, ?_⟩
        have h2 : s.data.toList[0]'(by rw [hl]; simp) = x := by simp [hl]
        have h3 : s[0] = x := by rw [← h2]; show s.data[0] = _; simp
        rw [h3]
    have hne : ¬ s.toList = [] := by rw [el, hm]; simp
    have hne2 : s.toList.isEmpty = false := by rw [el, hm]; rfl
    have hg0 : ∀ c ∈ s.data.toList.take 0, IsD c := by intro c hc; simp at hc
    have HM := Lib.hid (And.intro hm (And.intro el hll))
    have HB := Lib.hid hb
    have HG := Lib.hid hg0
    clear hb hg0 hll
    by_cases hbad : s[0] = 48 ∧ s.data.toList ≠ [48]
    · have hbf : b = false := by
        cases b
        · rfl
        · have := (HB.out.1 rfl).head (by rw [HM.out.1, List.head?_cons, hbad.1])
          exact absurd this hbad.2
      subst hbf
      have h1 : (s[0].toNat : Int) = 48 := by rw [hbad.1]; rfl
      have h2 : (s.toList == [48]) = false := beq_false_of_ne (by rw [el]; exact hbad.2)
      clear hm el hbad
      go_enter Tryz.func265, Tryz.ntmps265
      go_wp2
      go_ret
      exact ⟨rfl, rfl⟩
    · have hway : ¬ (s[0].toNat : Int) = 48 ∨ ((s[0].toNat : Int) = 48 ∧ (s.toList == [48]) = true) := by
        rcases Classical.em (s[0] = 48) with h | h
        · right
          refine ⟨by rw [h]; rfl, ?_⟩
          have : s.data.toList = [48] := Classical.byContradiction fun h2 => hbad ⟨h, h2⟩
          rw [el, this]; rfl
        · left
          intro e
          exact h (UInt8.toNat_inj.1 (show s[0].toNat = (48 : UInt8).toNat from by have h48 : (48 : UInt8).toNat = 48 := rfl; omega))
      have HW := Lib.hid hbad
      clear hm el hbad
      rcases hway with h1 | ⟨h1, h2⟩
      all_goals
        go_enter Tryz.func265, Tryz.ntmps265
        go_wp2
        go_loop [17] (fun iv => ∃ k : Nat, k ≤ s.size ∧ iv = .int .i64 k ∧ Hid (∀ c ∈ s.data.toList.take k, IsD c)) (fun iv => s.size - (intOf iv).toNat)
        case atStart => exact ⟨0, Nat.zero_le _, rfl, HG⟩
        case round =>
          obtain ⟨k, hk, rfl, H⟩ := hrel
          by_cases hlt : k < s.size
          · have hts := take_snoc s k hlt
            by_cases hdg : IsD s[k]
            · have hn : ∀ c ∈ s.data.toList.take (k + 1), IsD c := by
                intro c hc
                rw [hts] at hc
                rcases List.mem_append.1 hc with h | h
                · exact H.out c h
                · rw [List.mem_singleton.1 h]; exact hdg
              have HN := Lib.hid hn
              unfold IsD at hdg
              have c1 : (48 : Int) ≤ (s[k].toNat : Int) := by omega
              have c2 : (s[k].toNat : Int) ≤ 57 := by omega
              clear hn hts hdg
              go_wp2
              go_round
              case rel => exact ⟨k + 1, by omega, by go_num, HN⟩
              case measure => simp [intOf]; omega
            · have hbf : b = false := by
                cases b
                · rfl
                · exact absurd ((HB.out.1 rfl).dig s[k] (by show s.data[k] ∈ s.data.toList; exact Array.getElem_mem_toList _)) hdg
              subst hbf
              unfold IsD at hdg
              clear hts
              by_cases c1 : (s[k].toNat : Int) < 48
              · go_wp2
                go_ret
                exact ⟨rfl, rfl⟩
              · have c2 : (57 : Int) < (s[k].toNat : Int) := by omega
                go_wp2
                go_ret
                exact ⟨rfl, rfl⟩
          · have hbt : b = true := HB.out.2 (sz_head HM.out.1 HW.out (by
              have := H.out
              rwa [List.take_of_length_le (by rw [HM.out.2.2]; omega)] at this))
            subst hbt
            go_wp2
            go_ret
            exact ⟨rfl, rfl⟩
end Go.Proofs.YtobbedcaeffbaaaGreatDoor
/-! ### Lpr -/
namespace Go.Proofs.YtobbedcaeffbaaaGreatDoor
open Go.RowKit Nb
set_option maxHeartbeats 1000000 in
theorem lcut_any (s : ByteArray) (b : Bool) (w : World) (h0 : 0 < s.size ∨ b = false) (hb : Lib.hasPrefix s.data.toList (⟨#[45]⟩ : ByteArray).data.toList = b) :
    Calls Tryz.prog 305 #[.string s, .string ⟨#[45]⟩] w fun e w' => e = .returned (.tuple #[.string (if b then s.extract 1 s.size else s), .bool b]) ∧ w = w' := by
  have hp := Tryz.stringslite_HasPrefix s ⟨#[45]⟩ w
  rw [hb] at hp
  have HP := Lib.hid hp
  clear hp hb
  cases b
  · go_enter Tryz.func305, Tryz.ntmps305
    go_wp2_with fail
    refine (HP.out).mono ?_
    rintro e w1 ⟨rfl, rfl⟩
    go_wp2
    go_ret2
    exact ⟨rfl, rfl⟩
  · have hs : (1 : Int) ≤ (s.size : Int) := by rcases h0 with h | h; omega; cases h
    go_enter Tryz.func305, Tryz.ntmps305
    go_wp2_with fail
    refine (HP.out).mono ?_
    rintro e w1 ⟨rfl, rfl⟩
    go_wp2
    go_ret2
    exact ⟨rfl, rfl⟩
theorem cut_any (s : ByteArray) (b : Bool) (w : World) (h0 : 0 < s.size ∨ b = false) (hb : Lib.hasPrefix s.data.toList (⟨#[45]⟩ : ByteArray).data.toList = b) :
    Calls Tryz.prog 264 #[.string s, .string ⟨#[45]⟩] w fun e w' => e = .returned (.tuple #[.string (if b then s.extract 1 s.size else s), .bool b]) ∧ w = w' := by
  obtain ⟨t, ht⟩ : ∃ t, (if b then s.extract 1 s.size else s) = t := ⟨_, rfl⟩
  have hc := lcut_any s b w h0 hb
  rw [ht] at hc
  rw [ht]
  have HC := Lib.hid hc
  clear hc ht h0 hb
  go_enter Tryz.func264, Tryz.ntmps264
  go_wp2_with fail
  refine (HC.out).mono ?_
  rintro e w1 ⟨rfl, rfl⟩
  go_wp2
  go_ret2
  exact ⟨rfl, rfl⟩
/-- Does a minus stand ahead? What stands behind it. -/
def minus (l : List UInt8) : Bool := Lib.hasPrefix l [45]
def body (l : List UInt8) : List UInt8 := if minus l then l.drop 1 else l
/-- Is it a number's text? Which number's? -/
def IsNum (l : List UInt8) : Prop := Sz (body l) ∧ ¬ (minus l = true ∧ body l = [48])
def numV (l : List UInt8) : Int := sv (minus l) (dnum (body l))
theorem made_true (A : Option Addr) (l c : Nat) (W : World) (h : l ≤ maxLen) (hp : 0 < l) : Calls Tryz.prog 174 #[.bool true, .slice A l c] W fun e w' => e = .returned (big true A l c) ∧ Below W.heap.size W w' :=
  (made_any true A l c W h).mono fun e w' ⟨h1, h2⟩ => ⟨by simpa [hp] using h1, h2⟩
theorem sz_pos {l : List UInt8} (h : Sz l) (hn : l ≠ [48]) : 0 < dnum l := by
  rcases Nat.eq_zero_or_pos (dnum l) with h0 | h0
  · have := dec_dnum _ l rfl h
    rw [h0, dec_small (by decide)] at this
    exact absurd this.symm hn
  · exact h0
/-- What Parse answers. -/
def LParsed (w : World) (l : List UInt8) (e : Ending) (w' : World) : Prop := ∃ (n : Bool) (V : Option Addr) (zs : List Nat) (k : Nat) (ok : Bool), e = .returned (.tuple #[big n V zs.length k, .bool ok]) ∧
  ((ok = true ∧ IsNum l ∧ Bg w' n V zs k maxLen ∧ zs.length ≤ l.length ∧ sv n (val W64 zs) = numV l) ∨ (ok = false ∧ ¬ IsNum l ∧ n = false ∧ V = none ∧ zs = [] ∧ k = 0)) ∧ Below w.heap.size w w'
set_option maxHeartbeats 2000000 in
set_option maxRecDepth 20000 in
theorem lparse_any (s : ByteArray) (w : World) (hs : s.size ≤ 1000000) :
    Calls Tryz.prog 185 #[.string s] w (LParsed w s.data.toList) := by
  obtain ⟨b, hb⟩ : ∃ b, minus s.data.toList = b := ⟨_, rfl⟩
  obtain ⟨t, ht⟩ : ∃ t, (if b then s.extract 1 s.size else s) = t := ⟨_, rfl⟩
  have hll : s.data.toList.length = s.size := by simp
  have h0 : 0 < s.size ∨ b = false := by
    cases b
    · exact .inr rfl
    · left
      rcases Nat.eq_zero_or_pos s.size with h | h
      · have : s.data.toList = [] := List.eq_nil_of_length_eq_zero (by omega)
        rw [this] at hb; cases hb
      · exact h
  have hbd : body s.data.toList = t.data.toList := by
    unfold body; rw [hb, ← ht]
    cases b
    · rfl
    · exact (ext_list s 1 (by rcases h0 with h | h; omega; cases h)).symm
  have htl : t.data.toList.length ≤ s.data.toList.length := by
    rw [← hbd]; unfold body; split
    · simp
    · exact Nat.le_refl _
  have hts : t.size ≤ 1000000 := by
    have : t.data.toList.length = t.size := by simp
    omega
  have hcut := cut_any s b (w.alloc (.cells #[.bool false, .slice none 0 0] 98)) h0 hb
  rw [ht] at hcut
  have HC := Lib.hid hcut
  have el := ByteArray.toList_eq t
  have HB := Lib.hid (And.intro hb (And.intro hbd (And.intro htl el)))
  have hr := Rest.new w
  have hb0 : Below w.heap.size w (w.alloc (.cells #[.bool false, .slice none 0 0] 98)) := by go_grown
  obtain ⟨z, hz⟩ := is_bool (Sz t.data.toList)
  have HS := Lib.hid (fun W => isSize_any t z W hz (by unfold maxLen; omega))
  have HZ := Lib.hid hz
  have g0 := hr.r0
  have g1 := hr.r1
  have g2 := hr.f0
  have g3 := hr.f1
  clear hcut ht hb hbd htl hll el h0 hz
  have hno : ¬ IsNum s.data.toList → ∀ W', Below w.heap.size w W' → LParsed w s.data.toList (.returned (.tuple #[big false none ([] : List Nat).length 0, .bool false])) W' := fun h W' hb => ⟨false, none, [], 0, false, rfl, .inr ⟨rfl, h, rfl, rfl, rfl, rfl⟩, hb⟩
  have HN := Lib.hid hno
  clear hno
  by_cases hok : IsNum s.data.toList
  · have hsz : Sz t.data.toList := by have := hok.1; rwa [HB.out.2.1] at this
    obtain rfl : z = true := HZ.out.2 hsz
    have hm := hok.2
    rw [HB.out.1, HB.out.2.1] at hm
    have HSO := Lib.hid (sizeOf_any t (w.alloc (.cells #[.bool false, .slice none 0 0] 98)) hsz.dig hts)
    have HOK := Lib.hid hok
    clear hok
    cases b
    · go_enter Tryz.func185, Tryz.ntmps185
      go_wp2_with fail
      refine (HC.out).mono ?_
      rintro e w1 ⟨rfl, rfl⟩
      go_wp2_with fail
      refine (HS.out _).mono ?_
      rintro e w2 ⟨rfl, rfl⟩
      go_wp2_with fail
      refine (HSO.out).mono ?_
      rintro e w3 ⟨V, zs, k, rfl, hs1, hd1, hn1, hv1, hk1, hk2, hk3, hb3⟩
      have hr3 := hr.on hb3
      have hb3w := hb0.trans (hb3.mono hb0.size)
      have HV := Lib.hid (And.intro hn1 hv1)
      clear hn1 hv1 g0 g1 g2 g3
      go_wp2_with fail
      refine (made_plain V zs.length k w3 (by omega)).mono ?_
      rintro e w4 ⟨rfl, hb4⟩
      have hr4 := hr3.on hb4
      have hb4w := hb3w.trans (hb4.mono hb3w.size)
      have g0 := hr4.r0
      have g1 := hr4.r1
      have g2 := hr4.f0
      have g3 := hr4.f1
      have hB : Bg w4 false V zs k maxLen := ⟨(hs1.below hb4).more hb4.size, hd1, HV.out.1, fun _ => rfl, hk1, hk2⟩
      have hL := hr4.laid hb4w (Nat.le_refl _) hB
      have h5 : t.data.toList.length = t.size := by simp
      have hzl : zs.length ≤ s.data.toList.length := by have := HB.out.2.2.1; omega
      clear h5
      go_wp2
      refine bodyPost_ret (v := .tuple #[big false V zs.length k, .bool true]) (by simp [results, Tryz.results185, go_sem, g0, g1]) rfl ⟨_, V, zs, k, true, rfl, .inl ⟨rfl, HOK.out, hL.1, hzl, ?_⟩, hL.2⟩
      unfold numV
      rw [HB.out.1, HB.out.2.1, HV.out.2]
    · have h48 : (t.toList == [48]) = false := beq_false_of_ne (by rw [HB.out.2.2.2]; exact fun h => hm ⟨rfl, h⟩)
      have hpz := sz_pos hsz (fun h => hm ⟨rfl, h⟩)
      have HR : Hid (∀ zs : List Nat, val W64 zs = dnum t.data.toList → 0 < zs.length) := Lib.hid (fun zs hv => by
        rcases Nat.eq_zero_or_pos zs.length with h | h
        · rw [List.eq_nil_of_length_eq_zero h, val_nil] at hv; omega
        · exact h)
      clear hm hpz
      go_enter Tryz.func185, Tryz.ntmps185
      go_wp2_with fail
      refine (HC.out).mono ?_
      rintro e w1 ⟨rfl, rfl⟩
      go_wp2_with fail
      refine (HS.out _).mono ?_
      rintro e w2 ⟨rfl, rfl⟩
      go_wp2_with fail
      refine (HSO.out).mono ?_
      rintro e w3 ⟨V, zs, k, rfl, hs1, hd1, hn1, hv1, hk1, hk2, hk3, hb3⟩
      have hr3 := hr.on hb3
      have hb3w := hb0.trans (hb3.mono hb0.size)
      have HV := Lib.hid (And.intro hn1 hv1)
      clear hn1 hv1 g0 g1 g2 g3
      go_wp2_with fail
      refine (made_true V zs.length k w3 (by omega) (HR.out zs HV.out.2)).mono ?_
      rintro e w4 ⟨rfl, hb4⟩
      have hr4 := hr3.on hb4
      have hb4w := hb3w.trans (hb4.mono hb3w.size)
      have g0 := hr4.r0
      have g1 := hr4.r1
      have g2 := hr4.f0
      have g3 := hr4.f1
      have hB : Bg w4 true V zs k maxLen := ⟨(hs1.below hb4).more hb4.size, hd1, HV.out.1, fun h => by have := HR.out zs HV.out.2; rw [h] at this; simp at this, hk1, hk2⟩
      have hL := hr4.laid hb4w (Nat.le_refl _) hB
      have h5 : t.data.toList.length = t.size := by simp
      have hzl : zs.length ≤ s.data.toList.length := by have := HB.out.2.2.1; omega
      clear h5
      go_wp2
      refine bodyPost_ret (v := .tuple #[big true V zs.length k, .bool true]) (by simp [results, Tryz.results185, go_sem, g0, g1]) rfl ⟨_, V, zs, k, true, rfl, .inl ⟨rfl, HOK.out, hL.1, hzl, ?_⟩, hL.2⟩
      unfold numV
      rw [HB.out.1, HB.out.2.1, HV.out.2]
  · have hcase : z = false ∨ (z = true ∧ b = true ∧ (t.toList == [48]) = true) := by
      cases z
      · exact .inl rfl
      · right
        have hsz := HZ.out.1 rfl
        have : b = true ∧ t.data.toList = [48] := Classical.byContradiction fun h => hok ⟨by rw [HB.out.2.1]; exact hsz, by rw [HB.out.1, HB.out.2.1]; exact h⟩
        exact ⟨rfl, this.1, by rw [HB.out.2.2.2, this.2]; rfl⟩
    have HNN := Lib.hid (HN.out hok)
    clear hok
    rcases hcase with rfl | ⟨rfl, rfl, h48⟩
    all_goals
      go_enter Tryz.func185, Tryz.ntmps185
      go_wp2_with fail
      refine (HC.out).mono ?_
      rintro e w1 ⟨rfl, rfl⟩
      go_wp2_with fail
      refine (HS.out _).mono ?_
      rintro e w2 ⟨rfl, rfl⟩
      go_wp2
      refine bodyPost_ret (v := .tuple #[big false none ([] : List Nat).length 0, .bool false]) (by simp [results, Tryz.results185, go_sem, g0, g1]) rfl (HNN.out _ ?_)
      first
        | exact hb0
        | exact (hb0.setCell (p := ⟨w.heap.size, 0, none⟩) (Nat.le_refl _) _).setCell (p := ⟨w.heap.size, 1, none⟩) (Nat.le_refl _) _
end Go.Proofs.YtobbedcaeffbaaaGreatDoor
/-! ### Tx -/
namespace Go.Proofs.YtobbedcaeffbaaaGreatDoor
open Go.RowKit Nb
/-- A number's text. -/
def txt (n : Bool) (v : Nat) : List UInt8 := (if n then [45] else []) ++ Lib.decDigits v
set_option maxHeartbeats 1000000 in
set_option maxRecDepth 20000 in
theorem ltext_nil (neg : Bool) (A : Option Addr) (c : Nat) (w : World) :
    Calls Tryz.prog 183 #[big neg A 0 c] w fun e w' => e = .returned (.string ⟨#[48]⟩) ∧ Below w.heap.size w w' := by
  have hb0 : Below w.heap.size w (w.alloc (.cells #[.bool neg, .slice A 0 c] 98)) := by go_grown
  have c1 : (w.alloc (.cells #[.bool neg, .slice A 0 c] 98)).cell? ⟨w.heap.size, 1, none⟩ = some (.slice A 0 c) := by go_cell
  have HC : Hid (∀ W, Calls Tryz.prog 255 #[.slice A 0 c] W fun e w' => ∃ A' c', e = .returned (.slice A' 0 c') ∧ Below W.heap.size W w') := Lib.hid (fun W =>
    (clone_all A [] c W Sl.none_ (by simp)).mono fun e w' ⟨A', c', h1, _, _, h2⟩ => ⟨A', c', h1, h2⟩)
  go_enter Tryz.func183, Tryz.ntmps183
  go_wp2_with fail
  refine (HC.out _).mono ?_
  rintro e w1 ⟨A', c', rfl, hb⟩
  have hb1 := hb0.trans (hb.mono hb0.size)
  clear hb hb0 c1
  go_wp2_with fail
  go_loopw [3, 4] (fun gv rv wr => gv = .slice none 0 0 ∧ rv = .slice A' 0 c' ∧ wr = w1) (fun _ _ _ => 0)
  case atStart => exact ⟨rfl, rfl, rfl⟩
  case round =>
    obtain ⟨rfl, rfl, rfl⟩ := hrel
    go_wp2
    go_ret
    exact ⟨rfl, hb1⟩
set_option maxHeartbeats 1000000 in
theorem wtext_nil (A : Option Addr) (c : Nat) (w : World) :
    Calls Tryz.prog 68 #[big false A 0 c] w fun e w' => e = .returned (.tuple #[.string ⟨#[48]⟩, .int .i64 0]) ∧ Below w.heap.size w w' := by
  have hs : Sl .u32 w w.heap.size A ([] : List Nat) := Sl.none_
  have HF : Hid (∀ W, Calls Tryz.prog 66 #[big false A 0 c] W fun e w' => ∃ g, e = .returned (big false (some ⟨g, 0, none⟩) 0 0) ∧ Below W.heap.size W w') := Lib.hid (fun W =>
    (from_ok false A [] c W Sl.none_ (Dig.nil _) ok_zero).mono fun e w' ⟨g, h1, _, _, h2⟩ => ⟨g, h1, h2⟩)
  go_enter Tryz.func68, Tryz.ntmps68
  go_wp2_with fail
  refine (check_ok false A [] c _ Sl.none_ ok_zero).mono ?_
  rintro e w1 ⟨rfl, hb1⟩
  obtain ⟨a0, a1, hbw, hs1, hz1⟩ := head_facts hs hb1
  simp only [List.length_nil] at a0 a1
  go_wp2_with fail
  refine (HF.out _).mono ?_
  rintro e w2 ⟨g, rfl, hb2⟩
  have hb12 := hbw.trans (hb2.mono hbw.size)
  go_wp2_with fail
  refine (ltext_nil false _ 0 _).mono ?_
  rintro e w3 ⟨rfl, hb3⟩
  go_wp2
  go_ret2
  exact ⟨rfl, hb12.trans (hb3.mono hb12.size)⟩
theorem wtext_any (neg : Bool) (A : Option Addr) (ls : List Nat) (c : Nat) (w : World) (h : Lm w neg A ls c) (htab : Tab w) :
    Calls Tryz.prog 68 #[big neg A ls.length c] w fun e w' => e = .returned (.tuple #[.string ⟨(txt neg (val W32 ls)).toArray⟩, .int .i64 0]) ∧ Below w.heap.size w w' := by
  rcases Nat.eq_zero_or_pos ls.length with h0 | h0
  · obtain rfl : ls = [] := List.eq_nil_of_length_eq_zero h0
    obtain rfl : neg = false := h.ok.sign rfl
    have e0 : txt false (val W32 []) = [48] := by
      show [] ++ Lib.decDigits 0 = [48]
      rw [List.nil_append, dec_small (by decide)]; rfl
    rw [e0]
    exact wtext_nil A c w
  · exact wtext_pos neg A ls c w h.sl h.dig h.ok h0 htab
end Go.Proofs.YtobbedcaeffbaaaGreatDoor
/-! ### Bk0 -/
namespace Go.Proofs.YtobbedcaeffbaaaGreatDoor
open Go.RowKit Nb
theorem minus_cons (c : UInt8) (l : List UInt8) : minus (c :: l) = (45 == c) := by
  show ([45] : List UInt8).isPrefixOf (c :: l) = _
  simp [List.isPrefixOf]
theorem minus_dec (v : Nat) : minus (Lib.decDigits v) = false := by
  cases h : Lib.decDigits v with
  | nil => exact absurd h (dec_ne v)
  | cons c l =>
    have := dec_digit v c (by rw [h]; simp)
    unfold IsD at this
    rw [minus_cons]
    refine beq_false_of_ne fun e => ?_
    rw [← e] at this
    have h45 : (45 : UInt8).toNat = 45 := rfl
    omega
theorem txt_minus (n : Bool) (v : Nat) : minus (txt n v) = n := by
  cases n
  · exact minus_dec v
  · show minus (45 :: Lib.decDigits v) = true
    rw [minus_cons]; rfl
theorem txt_body (n : Bool) (v : Nat) : body (txt n v) = Lib.decDigits v := by
  unfold body
  rw [txt_minus]
  cases n <;> rfl
theorem txt_num {n : Bool} {v : Nat} (h : n = true → 0 < v) : IsNum (txt n v) ∧ numV (txt n v) = sv n v := by
  refine ⟨⟨by rw [txt_body]; exact sz_dec v, ?_⟩, by unfold numV; rw [txt_minus, txt_body, dnum_dec]⟩
  rw [txt_minus, txt_body]
  rintro ⟨h1, h2⟩
  have h3 := h h1
  have := dnum_dec v
  rw [h2] at this
  have h0 : dnum [48] = 0 := by decide
  omega
theorem txt_back {l : List UInt8} {n : Bool} {v : Nat} (h : IsNum l) (hv : sv n v = numV l) (hp : n = true → 0 < v) : txt n v = l := by
  have e1 : n = minus l ∧ v = dnum (body l) := by
    unfold numV at hv
    have hs := h.1
    cases hm : minus l
    · rw [hm] at hv
      cases n
      · exact ⟨rfl, Int.ofNat_inj.1 hv⟩
      · have := hp rfl
        have h2 : -((v : Nat) : Int) = ((dnum (body l) : Nat) : Int) := hv
        omega
    · rw [hm] at hv
      have hb : 0 < dnum (body l) := sz_pos hs (fun e => h.2 ⟨hm, e⟩)
      cases n
      · have h2 : ((v : Nat) : Int) = -((dnum (body l) : Nat) : Int) := hv
        omega
      · have h2 : -((v : Nat) : Int) = -((dnum (body l) : Nat) : Int) := hv
        exact ⟨rfl, by omega⟩
  obtain ⟨rfl, rfl⟩ := e1
  unfold txt
  rw [dec_dnum _ _ rfl h.1]
  unfold body
  cases hm : minus l
  · rfl
  · cases l with
    | nil => cases hm
    | cons c l =>
      rw [minus_cons] at hm
      have := beq_iff_eq.1 hm
      subst this
      rfl
theorem txt_len {n : Bool} {xs : List Nat} (hd : Dig W32 xs) (hl : xs.length ≤ 2048) : (txt n (val W32 xs)).length ≤ 65536 := by
  have h1 : Lib.nDigits (val W32 xs) ≤ 16 * xs.length + 1 := by
    refine nDigits_le (by omega) ?_
    have h2 := val_lt hd
    have h3 : W32 ^ xs.length ≤ 10 ^ (16 * xs.length) := by
      rw [Nat.pow_mul]
      exact Nat.pow_le_pow_left (by decide) _
    have h4 : 10 ^ (16 * xs.length) ≤ 10 ^ (16 * xs.length + 1) := Nat.pow_le_pow_right (by decide) (by omega)
    omega
  unfold txt
  rw [List.length_append, Lib.decDigits_length]
  cases n <;> simp <;> omega
end Go.Proofs.YtobbedcaeffbaaaGreatDoor
