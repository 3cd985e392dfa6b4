/-
  For every number and every text that are handed in, may the number be or not, the program's Text and Parse answer as the document's do, and leave the number as it was (WholeTexts). No conditions but what the row lists.
-/
import Derived.Test.YtiofglgpgjnonaaDoorBkt
import Derived.Test.YtiofglgpgjnonaaDoorRdig
import Derived.Test.YtiofglgpgjnonaaDoorRread
import Derived.Test.YtiofglgpgjnonaaDoorDchk
import Derived.Test.YtiofglgpgjnonaaDoorSame
import Derived.Test.YtiofglgpgjnonaaDoorSize
import Derived.Test.YtiofglgpgjnonaaDoorDleft
import Derived.Test.YtiofglgpgjnonaaDoorRow
import Derived.Test.YtiofglgpgjnonaaDoorTie
import Derived.Test.YtiofglgpgjnonaaDoorCards
import Derived.ChangeMaps5
/-! ### Tx0 -/
namespace Go.Proofs.YtiofglgpgjnonaaDoor
open Go.RowKit Nb

/-- What Parse tells of a text, and which refusal. -/
def WPar (w : World) (l : List UInt8) (e : Ending) (w' : World) : Prop := ∃ (n : Bool) (V : Option Addr) (ls : List Nat) (k : Nat) (er : Int), e = .returned (.tuple #[big n V ls.length k, .int .i64 er]) ∧ Lm w' n V ls k ∧
  ((er = 0 ∧ l.length ≤ 65536 ∧ IsNum l ∧ Fits (numV l) ∧ sv n (val W32 ls) = numV l) ∨ (ls = [] ∧ n = false ∧ ((er = 4 ∧ 65536 < l.length) ∨ (er = 5 ∧ l.length ≤ 65536 ∧ ¬ IsNum l) ∨ (er = 4 ∧ l.length ≤ 65536 ∧ IsNum l ∧ ¬ Fits (numV l))))) ∧ Below w.heap.size w w'

set_option maxHeartbeats 2000000 in
set_option maxRecDepth 20000 in
theorem wparse2_any (s : ByteArray) (w : World) (hs : s.size ≤ maxLen) :
    Calls Tryd.prog 15 #[.string s] w (WPar w s.data.toList) := by
  unfold maxLen at hs
  have hll : s.data.toList.length = s.size := by simp
  have hr := Rest.newI w
  have hb0 : Below w.heap.size w (w.alloc (.cells #[.bool false, .slice none 0 0] 24)) := by go_grown
  have g0 := hr.r0
  have g1 := hr.r1
  have g2 := hr.f0
  have g3 := hr.f1
  have HL := Lib.hid hll
  clear hll
  by_cases hbig : 65536 < s.size
  · have h1 : (65536 : Int) < (s.size : Int) := by omega
    go_enter Tryd.func15, Tryd.ntmps15
    go_wp2
    refine bodyPost_ret (v := .tuple #[big false none ([] : List Nat).length 0, .int .i64 4]) (by simp [results, Tryd.results15, go_sem, g0, g1]) rfl ?_
    exact ⟨false, none, [], 0, 4, rfl, ⟨fun h => absurd h (by simp), by intro x hx; simp at hx, ok_zero⟩, .inr ⟨rfl, rfl, .inl ⟨rfl, by have := HL.out; omega⟩⟩, by first | exact hb0 | exact (hb0.setCell (p := ⟨w.heap.size, 0, none⟩) (Nat.le_refl _) _).setCell (p := ⟨w.heap.size, 1, none⟩) (Nat.le_refl _) _⟩
  · have h1 : ¬ (65536 : Int) < (s.size : Int) := by omega
    have HP := Lib.hid (lparse_any s (w.alloc (.cells #[.bool false, .slice none 0 0] 24)) (by omega))
    go_enter Tryd.func15, Tryd.ntmps15
    go_wp2_with fail
    refine (HP.out).mono ?_
    rintro e w1 ⟨n, V, zs, k, ok, rfl, hcase, hb1⟩
    have hb1w := hb0.trans (hb1.mono hb0.size)
    have hb2 : Below w1.heap.size w1 (w1.alloc (.cells #[.bool n, .slice V zs.length k] 58)) := (Below.refl _ _).alloc (Nat.le_refl _) _
    have hb2w := hb1w.trans (hb2.mono hb1w.size)
    have hr2 := (hr.on hb1).on hb2
    have c0 : (w1.alloc (.cells #[.bool n, .slice V zs.length k] 58)).cell? ⟨w1.heap.size, 0, none⟩ = some (.bool n) := by go_cell
    have c1 : (w1.alloc (.cells #[.bool n, .slice V zs.length k] 58)).cell? ⟨w1.heap.size, 1, none⟩ = some (.slice V zs.length k) := by go_cell
    clear g0 g1 g2 g3
    have g0 := hr2.r0
    have g1 := hr2.r1
    have g2 := hr2.f0
    have g3 := hr2.f1
    rcases hcase with ⟨rfl, hnum, hB, hzl, hv⟩ | ⟨rfl, hno, rfl, rfl, rfl, rfl⟩
    · have hB2 := hB.below hb2
      have HV := Lib.hid (And.intro hv hnum)
      clear hv hnum
      have HFit := Lib.hid (fit_any n V zs k maxLen _ hB2 (by have := HL.out; omega))
      clear g0 g1 g2 g3
      go_wp2_with fail
      refine (HFit.out).mono ?_
      rintro e w3 ⟨m, U, ls, l, er, rfl, hM, hS, hb3⟩
      rw [HV.out.1] at hS
      have hr3 := hr2.on hb3
      have hb3w := hb2w.trans (hb3.mono hb2w.size)
      have g0 := hr3.r0
      have g1 := hr3.r1
      have g2 := hr3.f0
      have g3 := hr3.f1
      go_wp2
      refine bodyPost_ret (v := .tuple #[big m U ls.length l, .int .i64 er]) (by simp [results, Tryd.results15, go_sem, g0, g1]) rfl ⟨m, U, ls, l, er, rfl, hM.laid hr3 _ _, ?_, (hb3w.setCell (p := ⟨w.heap.size, 0, none⟩) (Nat.le_refl _) _).setCell (p := ⟨w.heap.size, 1, none⟩) (Nat.le_refl _) _⟩
      rcases hS with ⟨hf, rfl, hv2⟩ | ⟨hf, rfl, rfl, rfl⟩
      · exact .inl ⟨rfl, by have := HL.out; omega, HV.out.2, hf, hv2⟩
      · exact .inr ⟨rfl, rfl, .inr (.inr ⟨rfl, by have := HL.out; omega, HV.out.2, hf⟩)⟩
    · simp only [List.length_nil] at c0 c1 g0 g1 g2 g3 hb2w
      go_wp2
      refine bodyPost_ret (v := .tuple #[big false none ([] : List Nat).length 0, .int .i64 5]) (by simp [results, Tryd.results15, go_sem, g0, g1]) rfl ?_
      exact ⟨false, none, [], 0, 5, rfl, ⟨fun h => absurd h (by simp), by intro x hx; simp at hx, ok_zero⟩, .inr ⟨rfl, rfl, .inr (.inl ⟨rfl, by have := HL.out; omega, hno⟩)⟩, (hb2w.setCell (p := ⟨w.heap.size, 0, none⟩) (Nat.le_refl _) _).setCell (p := ⟨w.heap.size, 1, none⟩) (Nat.le_refl _) _⟩

/-- What both Texts answer. -/
def txtV (neg : Bool) (ls : List Nat) (b : Bool) : ByteArray := if b then ⟨(txt neg (val W32 ls)).toArray⟩ else ⟨#[]⟩
def txtE (b : Bool) : Int := if b then 0 else 1

set_option maxHeartbeats 1000000 in
theorem wtext2_any (neg : Bool) (A : Option Addr) (ls : List Nat) (c : Nat) (b : Bool) (w : World) (hr : Sl .u32 w w.heap.size A ls) (hd : Dig W32 ls) (hl : ls.length * 4 ≤ 140737488351232) (hb : b = true ↔ Ok neg ls) (htab : Tab w) :
    Calls Tryd.prog 14 #[big neg A ls.length c] w fun e w' => e = .returned (.tuple #[.string (txtV neg ls b), .int .i64 (txtE b)]) ∧ Below w.heap.size w w' := by
  cases b
  · have ho : ¬ Ok neg ls := fun h => by have := hb.2 h; cases this
    have HC := Lib.hid (fun W (h : Sl .u32 W W.heap.size A ls) => check_bad neg A ls c W h hl ho)
    have hb0 : Below w.heap.size w (w.alloc (.cells #[.bool neg, .slice A ls.length c] 24)) := by go_grown
    have hr0 := (hr.below hb0).more hb0.size
    have HR := Lib.hid hr0
    have HB := Lib.hid hb0
    clear hb ho hl htab hr0 hr hd hb0
    go_enter Tryd.func14, Tryd.ntmps14
    go_wp2_with fail
    refine (HC.out _ HR.out).mono ?_
    rintro e w1 ⟨rfl, hb1⟩
    have hb2 := HB.out.trans (hb1.mono HB.out.size)
    go_wp2
    go_ret2
    exact ⟨rfl, hb2⟩
  · exact wtext_any neg A ls c w ⟨hr, hd, hb.1 rfl⟩ htab

set_option maxHeartbeats 1000000 in
theorem rtext_any (neg : Bool) (A : Option Addr) (ls : List Nat) (c : Nat) (b : Bool) (w : World) (hr : Sl .u32 w w.heap.size A ls) (hd : Dig W32 ls) (hl : ls.length * 4 ≤ 140737488351232) (hb : b = true ↔ Ok neg ls) :
    Calls Tryd.prog 16 #[big neg A ls.length c] w fun e w' => e = .returned (.tuple #[.string (txtV neg ls b), .int .i64 (txtE b)]) ∧ Below w.heap.size w w' := by
  have hb0 : Below w.heap.size w (w.alloc (.cells #[.bool neg, .slice A ls.length c] 24)) := by go_grown
  have hr0 := (hr.below hb0).more hb0.size
  have HR := Lib.hid hr0
  have HB := Lib.hid hb0
  cases b
  · have ho : ¬ Ok neg ls := fun h => by have := hb.2 h; cases this
    have HC := Lib.hid (fun W (h : Sl .u32 W W.heap.size A ls) => rcheck_bad neg A ls c W h hl ho)
    clear hb ho hl hr0 hr hd hb0
    go_enter Tryd.func16, Tryd.ntmps16
    go_wp2_with fail
    refine (HC.out _ HR.out).mono ?_
    rintro e w1 ⟨rfl, hb1⟩
    have hb2 := HB.out.trans (hb1.mono HB.out.size)
    go_wp2
    go_ret2
    exact ⟨rfl, hb2⟩
  · have ho : Ok neg ls := hb.1 rfl
    have HC := Lib.hid (fun W (h : Sl .u32 W W.heap.size A ls) => rcheck_ok neg A ls c W h ho)
    have HD := Lib.hid (fun W (h : Sl .u32 W W.heap.size A ls) => rdig_any neg A ls c W h hd ho.norm (Nat.le_trans ho.len (by decide)))
    have HF := Lib.hid (fun w1 hb1 => head_facts (neg := neg) (c := c) (w1 := w1) hr hb1)
    have HV : Hid ((⟨(if ls = [] then [48] else (if neg then [45] else []) ++ Lib.decDigits (val W32 ls)).toArray⟩ : ByteArray) = txtV neg ls true) := Lib.hid (by
      unfold txtV
      rw [if_pos rfl]
      by_cases h : ls = []
      · rw [if_pos h, h, ho.sign h]
        show (⟨[48].toArray⟩ : ByteArray) = ⟨([] ++ Lib.decDigits 0).toArray⟩
        rw [List.nil_append, dec_small (by decide)]; rfl
      · rw [if_neg h]; rfl)
    clear hb ho hl hr0 hr hd hb0
    go_enter Tryd.func16, Tryd.ntmps16
    go_wp2_with fail
    refine (HC.out _ HR.out).mono ?_
    rintro e w1 ⟨rfl, hb1⟩
    obtain ⟨a0, a1, hbw, hs1, hz1⟩ := HF.out w1 hb1
    go_wp2_with fail
    refine (HD.out _ hs1).mono ?_
    rintro e w2 ⟨rfl, hb2⟩
    have hb3 := hbw.trans (hb2.mono hbw.size)
    rw [HV.out]
    go_wp2
    go_ret2
    exact ⟨rfl, hb3⟩

theorem len_lt {ls : List Nat} (hn : Norm ls) (hd : Dig W32 ls) (k : Nat) : ls.length ≤ k ↔ val W32 ls < W32 ^ k := by
  constructor
  · intro h
    exact Nat.lt_of_lt_of_le (val_lt hd) (Nat.pow_le_pow_right (by decide) h)
  · intro h
    rcases Nat.lt_or_ge k ls.length with g | g
    · have h1 := norm_ge (B := W32) hn (by omega)
      have h2 := Nat.pow_le_pow_right (n := W32) (by decide) (show k ≤ ls.length - 1 by omega)
      exact absurd h (Nat.not_lt.2 (Nat.le_trans h2 h1))
    · exact g
theorem len_fits {n : Bool} {ls : List Nat} (hn : Norm ls) (hd : Dig W32 ls) : ls.length ≤ 2048 ↔ Fits (sv n (val W32 ls)) := by
  unfold Fits; rw [sv_abs]
  exact len_lt hn hd 2048
theorem read_len {l : List UInt8} {n : Bool} {zs : List Nat} (hN : IsNum l) (hn : Norm zs) (hd : Dig W32 zs) (hv : sv n (val W32 zs) = numV l) : zs.length ≤ l.length := by
  rw [len_lt hn hd]
  have h1 : val W32 zs = dnum (body l) := by
    have := congrArg Int.natAbs hv
    rw [sv_abs] at this
    rw [this]; unfold numV; rw [sv_abs]
  have h2 := dnum_lt hN.1.dig
  have h3 : (body l).length ≤ l.length := by unfold body; split <;> simp
  have h4 := pow10_W32 (body l).length
  have h5 := Nat.pow_le_pow_right (n := W32) (by decide) h3
  rw [h1]
  exact Nat.lt_of_lt_of_le (Nat.lt_of_lt_of_le h2 h4) h5

set_option maxHeartbeats 2000000 in
set_option maxRecDepth 20000 in
theorem rparse_any (s : ByteArray) (w : World) (hs : s.size ≤ maxLen) :
    Calls Tryd.prog 17 #[.string s] w (WPar w s.data.toList) := by
  unfold maxLen at hs
  have hll : s.data.toList.length = s.size := by simp
  have hr := Rest.newI w
  have hb0 : Below w.heap.size w (w.alloc (.cells #[.bool false, .slice none 0 0] 24)) := by go_grown
  have g0 := hr.r0
  have g1 := hr.r1
  have g2 := hr.f0
  have g3 := hr.f1
  have HL := Lib.hid hll
  clear hll
  by_cases hbig : 65536 < s.size
  · have h1 : (65536 : Int) < (s.size : Int) := by omega
    go_enter Tryd.func17, Tryd.ntmps17
    go_wp2
    refine bodyPost_ret (v := .tuple #[big false none ([] : List Nat).length 0, .int .i64 4]) (by simp [results, Tryd.results17, go_sem, g0, g1]) rfl ?_
    exact ⟨false, none, [], 0, 4, rfl, ⟨fun h => absurd h (by simp), by intro x hx; simp at hx, ok_zero⟩, .inr ⟨rfl, rfl, .inl ⟨rfl, by have := HL.out; omega⟩⟩, by first | exact hb0 | exact (hb0.setCell (p := ⟨w.heap.size, 0, none⟩) (Nat.le_refl _) _).setCell (p := ⟨w.heap.size, 1, none⟩) (Nat.le_refl _) _⟩
  · have h1 : ¬ (65536 : Int) < (s.size : Int) := by omega
    have HP := Lib.hid (rread_any s (w.alloc (.cells #[.bool false, .slice none 0 0] 24)) (by omega))
    go_enter Tryd.func17, Tryd.ntmps17
    go_wp2_with fail
    refine (HP.out).mono ?_
    rintro e w1 ⟨n, V, zs, k, ok, rfl, hcase, hb1⟩
    have hb1w := hb0.trans (hb1.mono hb0.size)
    have hb2 : Below w1.heap.size w1 (w1.alloc (.cells #[.bool n, .slice V zs.length k] 24)) := (Below.refl _ _).alloc (Nat.le_refl _) _
    have hb2w := hb1w.trans (hb2.mono hb1w.size)
    have hr2 := (hr.on hb1).on hb2
    have c0 : (w1.alloc (.cells #[.bool n, .slice V zs.length k] 24)).cell? ⟨w1.heap.size, 0, none⟩ = some (.bool n) := by go_cell
    have c1 : (w1.alloc (.cells #[.bool n, .slice V zs.length k] 24)).cell? ⟨w1.heap.size, 1, none⟩ = some (.slice V zs.length k) := by go_cell
    clear g0 g1 g2 g3
    have g0 := hr2.r0
    have g1 := hr2.r1
    have g2 := hr2.f0
    have g3 := hr2.f1
    rcases hcase with ⟨rfl, hnum, hsl, hzd, hzn, hzs, hzk, hkm, hv⟩ | ⟨rfl, hno, rfl, rfl, rfl, rfl⟩
    · have hs2 := (hsl.below hb2).more hb2.size
      have hfit := len_fits (n := n) hzn hzd
      rw [hv] at hfit
      have hrl := read_len hnum hzn hzd hv
      have HV := Lib.hid (And.intro hnum (And.intro hv hfit))
      have HO : Hid (zs.length ≤ 2048 → Ok n zs) := Lib.hid (fun h => ⟨h, hzn, hzs⟩)
      have HT := Lib.hid (fun W => rtold_any n V zs.length k W (by have := HL.out; omega))
      clear hrl hnum hv hfit g0 g1 g2 g3 hsl hzn hzs
      go_wp2_with fail
      refine (HT.out _).mono ?_
      rintro e w3 ⟨hcase, hb3⟩
      have hr3 := hr2.on hb3
      have hb3w := hb2w.trans (hb3.mono hb2w.size)
      have hs3 := (hs2.below hb3).more hb3.size
      have g0 := hr3.r0
      have g1 := hr3.r1
      have g2 := hr3.f0
      have g3 := hr3.f1
      rcases hcase with ⟨hle, rfl⟩ | ⟨hgt, rfl⟩
      · have hM : Lm w3 n V zs k := ⟨hs3, hzd, HO.out hle⟩
        go_wp2
        refine bodyPost_ret (v := .tuple #[big n V zs.length k, .int .i64 0]) (by simp [results, Tryd.results17, go_sem, g0, g1]) rfl ⟨n, V, zs, k, 0, rfl, hM.laid hr3 _ _, ?_, (hb3w.setCell (p := ⟨w.heap.size, 0, none⟩) (Nat.le_refl _) _).setCell (p := ⟨w.heap.size, 1, none⟩) (Nat.le_refl _) _⟩
        exact .inl ⟨rfl, by have := HL.out; omega, HV.out.1, HV.out.2.2.1 hle, HV.out.2.1⟩
      · go_wp2
        refine bodyPost_ret (v := .tuple #[big false none ([] : List Nat).length 0, .int .i64 4]) (by simp [results, Tryd.results17, go_sem, g0, g1]) rfl ⟨false, none, [], 0, 4, rfl, ⟨fun h => absurd h (by simp), by intro x hx; simp at hx, ok_zero⟩, ?_, (hb3w.setCell (p := ⟨w.heap.size, 0, none⟩) (Nat.le_refl _) _).setCell (p := ⟨w.heap.size, 1, none⟩) (Nat.le_refl _) _⟩
        exact .inr ⟨rfl, rfl, .inr (.inr ⟨rfl, by have := HL.out; omega, HV.out.1, fun h => by have := HV.out.2.2.2 h; omega⟩)⟩
    · simp only [List.length_nil] at c0 c1 g0 g1 g2 g3 hb2w
      go_wp2
      refine bodyPost_ret (v := .tuple #[big false none ([] : List Nat).length 0, .int .i64 5]) (by simp [results, Tryd.results17, go_sem, g0, g1]) rfl ?_
      exact ⟨false, none, [], 0, 5, rfl, ⟨fun h => absurd h (by simp), by intro x hx; simp at hx, ok_zero⟩, .inr ⟨rfl, rfl, .inr (.inl ⟨rfl, by have := HL.out; omega, hno⟩)⟩, (hb2w.setCell (p := ⟨w.heap.size, 0, none⟩) (Nat.le_refl _) _).setCell (p := ⟨w.heap.size, 1, none⟩) (Nat.le_refl _) _⟩
end Go.Proofs.YtiofglgpgjnonaaDoor

/-! ### Tx1 -/
namespace Go.Proofs.YtiofglgpgjnonaaDoor
open Go.RowKit Nb
set_option linter.unusedSimpArgs false

set_option maxHeartbeats 1000000 in
theorem answered_any (n : Bool) (A B : Option Addr) (xs : List Nat) (c d : Nat) (er : Int) (w : World) (hr : Sl .u32 w w.heap.size A xs) (hs : Sl .u32 w w.heap.size B xs) (hl : xs.length * 4 ≤ 140737488351232) :
    Calls Tryd.prog 18 #[big n A xs.length c, .int .i64 er, big n B xs.length d, .int .i64 er] w fun e w' => e = .returned (.bool true) ∧ Below w.heap.size w w' := by
  have hb0 : Below w.heap.size w ((w.alloc (.cells #[.bool n, .slice A xs.length c] 24)).alloc (.cells #[.bool n, .slice B xs.length d] 24)) := by go_grown
  have hr0 := (hr.below hb0).more hb0.size
  have hs0 := (hs.below hb0).more hb0.size
  have HS := Lib.hid (same_any n n A B xs xs c d _ hr0 hs0 hl hl)
  have ht : decide (n = n ∧ xs = xs) = true := by simp
  rw [ht] at HS
  have a0 : ((w.alloc (.cells #[.bool n, .slice A xs.length c] 24)).alloc (.cells #[.bool n, .slice B xs.length d] 24)).cell? ⟨w.heap.size, 0, none⟩ = some (.bool n) := by go_cell
  have a1 : ((w.alloc (.cells #[.bool n, .slice A xs.length c] 24)).alloc (.cells #[.bool n, .slice B xs.length d] 24)).cell? ⟨w.heap.size, 1, none⟩ = some (.slice A xs.length c) := by go_cell
  have HB := Lib.hid hb0
  clear ht hr0 hs0 hr hs hl hb0
  go_enter Tryd.func18, Tryd.ntmps18
  go_wp2_with fail
  refine (HS.out).mono ?_
  rintro e w1 ⟨rfl, b1⟩
  have b2 := HB.out.trans (b1.mono HB.out.size)
  go_wp2
  go_ret
  exact ⟨rfl, b2⟩

theorem sv_inj {n1 n2 : Bool} {xs ys : List Nat} (o1 : Ok n1 xs) (o2 : Ok n2 ys) (d1 : Dig W32 xs) (d2 : Dig W32 ys) (h : sv n1 (val W32 xs) = sv n2 (val W32 ys)) : n1 = n2 ∧ xs = ys := by
  have hv : val W32 xs = val W32 ys := by
    have := congrArg Int.natAbs h
    rwa [sv_abs, sv_abs] at this
  have hxy : xs = ys := norm_inj (B := W32) (by decide) d1 d2 o1.norm o2.norm hv
  refine ⟨?_, hxy⟩
  subst hxy
  have hp1 := ok_vpos o1
  have hp2 := ok_vpos o2
  unfold sv at h
  cases n1 <;> cases n2 <;> simp_all <;> omega

/-- Two answers to one text are one. -/
theorem par_same {w1 w2 : World} {l : List UInt8} {n m : Bool} {U V : Option Addr} {xs ys : List Nat} {j k : Nat} {er fr : Int} (h1 : Lm w1 n U xs j) (h2 : Lm w2 m V ys k)
    (c1 : (er = 0 ∧ l.length ≤ 65536 ∧ IsNum l ∧ Fits (numV l) ∧ sv n (val W32 xs) = numV l) ∨ (xs = [] ∧ n = false ∧ ((er = 4 ∧ 65536 < l.length) ∨ (er = 5 ∧ l.length ≤ 65536 ∧ ¬ IsNum l) ∨ (er = 4 ∧ l.length ≤ 65536 ∧ IsNum l ∧ ¬ Fits (numV l)))))
    (c2 : (fr = 0 ∧ l.length ≤ 65536 ∧ IsNum l ∧ Fits (numV l) ∧ sv m (val W32 ys) = numV l) ∨ (ys = [] ∧ m = false ∧ ((fr = 4 ∧ 65536 < l.length) ∨ (fr = 5 ∧ l.length ≤ 65536 ∧ ¬ IsNum l) ∨ (fr = 4 ∧ l.length ≤ 65536 ∧ IsNum l ∧ ¬ Fits (numV l))))) : m = n ∧ ys = xs ∧ fr = er := by
  rcases c1 with ⟨e1, p1, q1, r1, v1⟩ | ⟨rfl, rfl, c1⟩
  · rcases c2 with ⟨e2, p2, q2, r2, v2⟩ | ⟨rfl, rfl, c2⟩
    · have h := sv_inj h2.ok h1.ok h2.dig h1.dig (v2.trans v1.symm)
      exact ⟨h.1, h.2, by omega⟩
    · rcases c2 with ⟨_, h⟩ | ⟨_, _, h⟩ | ⟨_, _, _, h⟩
      · omega
      · exact absurd q1 h
      · exact absurd r1 h
  · rcases c2 with ⟨e2, p2, q2, r2, v2⟩ | ⟨rfl, rfl, c2⟩
    · rcases c1 with ⟨_, h⟩ | ⟨_, _, h⟩ | ⟨_, _, _, h⟩
      · omega
      · exact absurd q2 h
      · exact absurd r2 h
    · refine ⟨rfl, rfl, ?_⟩
      rcases c1 with ⟨e1, h1⟩ | ⟨e1, h1, h2⟩ | ⟨e1, h1, h2, h3⟩ <;> rcases c2 with ⟨e2, k1⟩ | ⟨e2, k1, k2⟩ | ⟨e2, k1, k2, k3⟩ <;> first | omega | exact absurd h2 k2 | exact absurd k2 h2

/-- What stays while the statement is reckoned: the number, in its cells. -/
structure Bx (W : World) (p : Nat) (n : Bool) (A : Option Addr) (xs : List Nat) (c : Nat) : Prop where
  lt : p < W.heap.size
  sl : Sl .u32 W W.heap.size A xs
  c0 : W.cell? ⟨p, 0, none⟩ = some (.bool n)
  c1 : W.cell? ⟨p, 1, none⟩ = some (.slice A xs.length c)
theorem Bx.on {W W' : World} {p : Nat} {n : Bool} {A : Option Addr} {xs : List Nat} {c : Nat} (h : Bx W p n A xs c) (hb : Below W.heap.size W W') : Bx W' p n A xs c :=
  ⟨Nat.lt_of_lt_of_le h.lt hb.size, (h.sl.below hb).more hb.size, (hb.cell (p := ⟨p, 0, none⟩) h.lt).trans h.c0, (hb.cell (p := ⟨p, 1, none⟩) h.lt).trans h.c1⟩
theorem Bx.new (W : World) (n : Bool) (A : Option Addr) (xs : List Nat) (c : Nat) (h : Sl .u32 W W.heap.size A xs) : Bx (W.alloc (.cells #[.bool n, .slice A xs.length c] 24)) W.heap.size n A xs c :=
  ⟨by simp, (h.alloc (Nat.le_refl _) _).more (by simp), by go_cell, by go_cell⟩

set_option maxHeartbeats 4000000 in
set_option maxRecDepth 20000 in
theorem texts_walk (n : Bool) (A : Option Addr) (xs : List Nat) (c : Nat) (s : ByteArray) (w : World) (hr : Sl .u32 w w.heap.size A xs) (hx : Dig W32 xs) (hA : A = none → xs = [] ∧ c = 0) (hl : xs.length * 4 ≤ 140737488351232) (hsz : s.size ≤ 140737488351232) (htab : Tab w) :
    Calls Tryd.prog 3 #[big n A xs.length c, .string s] w fun e w' => e = .returned (.bool true) ∧ Below w.heap.size w w' := by
  obtain ⟨b, hb⟩ := is_bool (Ok n xs)
  have hbW : Below w.heap.size w (w.alloc (.cells #[.bool n, .slice A xs.length c] 24)) := by go_grown
  have KX := Bx.new w n A xs c hr
  have HH := Lib.hid (And.intro hx (And.intro hA (And.intro hb htab)))
  obtain ⟨W, hW⟩ : ∃ W, (w.alloc (.cells #[.bool n, .slice A xs.length c] 24)) = W := ⟨_, rfl⟩
  have HW := Lib.hid hW
  rw [hW] at hbW KX
  clear hx hA hb htab hr hW
  go_enter Tryd.func3, Tryd.ntmps3
  go_wp2_with fail
  rw [HW.out]
  refine (size_any n A xs.length c W hl).mono ?_
  rintro e1 w1 ⟨rfl, q1⟩
  replace KX := KX.on q1
  have B1 := hbW.trans (q1.mono hbW.size)
  clear q1 hbW HW
  have a0 := KX.c0
  have a1 := KX.c1
  have hal : Below w1.heap.size w1 (w1.alloc (.cells #[.int .i64 (1 + xs.length), .int .i64 s.size] 3)) := by go_grown
  have cb0 : (w1.alloc (.cells #[.int .i64 (1 + xs.length), .int .i64 s.size] 3)).cell? ⟨w1.heap.size, 0, none⟩ = some (.int .i64 (1 + xs.length)) := by go_cell
  have cb1 : (w1.alloc (.cells #[.int .i64 (1 + xs.length), .int .i64 s.size] 3)).cell? ⟨w1.heap.size, 1, none⟩ = some (.int .i64 s.size) := by go_cell
  go_wp2_with fail
  refine (beyond_two w1.heap.size _ _ 2 _ cb0 cb1 (by omega) (by omega) (by omega) (by omega)).mono ?_
  rintro e2 w2 ⟨rfl, rfl⟩
  replace KX := KX.on hal
  have B2 := B1.trans (hal.mono B1.size)
  generalize (w1.alloc (.cells #[.int .i64 (1 + xs.length), .int .i64 s.size] 3)) = w2 at *
  clear cb0 cb1 hal B1 a0 a1
  have a0 := KX.c0
  have a1 := KX.c1
  obtain ⟨q, hq⟩ : ∃ q, decide ((1048576 : Int) < 1 + (xs.length : Int) + (s.size : Int)) = q := ⟨_, rfl⟩
  rw [hq]
  clear hq
  cases q
  · have HTW := Lib.hid (twin_any n A xs c w2 KX.sl HH.out.2.1 hl)
    go_wp2_with fail
    refine (HTW.out).mono ?_
    rintro e3 w3 ⟨g, rfl, hrow, hg, q3⟩
    replace KX := KX.on q3
    have B3 := B2.trans (q3.mono B2.size)
    have SR := hrow.sl hrow.lt
    have KT := Bx.new w3 n (some ⟨g, 0, none⟩) xs (xs.length + 1) (by have := SR.take xs.length; simpa using this)
    have hal : Below w3.heap.size w3 (w3.alloc (.cells #[.bool n, .slice (some ⟨g, 0, none⟩) xs.length (xs.length + 1)] 24)) := by go_grown
    replace KX := KX.on hal
    replace SR := (SR.below hal).more hal.size
    have B4 := B3.trans (hal.mono B3.size)
    clear hrow q3 B3 B2 hal HTW a0 a1 hg
    have a0 := KX.c0
    have a1 := KX.c1
    have a2 := KT.c0
    have a3 := KT.c1
    have T1 := wtext2_any n (some ⟨g, 0, none⟩) xs (xs.length + 1) b (w3.alloc (.cells #[.bool n, .slice (some ⟨g, 0, none⟩) xs.length (xs.length + 1)] 24)) KT.sl HH.out.1 hl HH.out.2.2.1 (tab_below HH.out.2.2.2 B4)
    obtain ⟨z, hz⟩ : ∃ z, txtV n xs b = z := ⟨_, rfl⟩
    obtain ⟨te, hte⟩ : ∃ te, txtE b = te := ⟨_, rfl⟩
    rw [hz, hte] at T1
    have HT1 := Lib.hid T1
    have HZ := Lib.hid (And.intro hz hte)
    clear T1 hz hte
    go_wp2_with fail
    refine (HT1.out).mono ?_
    rintro e4 w5 ⟨rfl, q5⟩
    replace KX := KX.on q5
    replace KT := KT.on q5
    replace SR := (SR.below q5).more q5.size
    have B5 := B4.trans (q5.mono B4.size)
    clear q5 B4 HT1 a0 a1 a2 a3
    have a0 := KX.c0
    have a1 := KX.c1
    have a2 := KT.c0
    have a3 := KT.c1
    have HP1 := Lib.hid (wparse2_any s w5 (by unfold maxLen; omega))
    go_wp2_with fail
    refine (HP1.out).mono ?_
    rintro e5 w6 ⟨nb, Vb, ys, kb, er, rfl, my, cy, q6⟩
    replace KX := KX.on q6
    replace KT := KT.on q6
    replace SR := (SR.below q6).more q6.size
    have B6 := B5.trans (q6.mono B5.size)
    have KY := Bx.new w6 nb Vb ys kb my.sl
    have hal : Below w6.heap.size w6 (w6.alloc (.cells #[.bool nb, .slice Vb ys.length kb] 24)) := by go_grown
    replace KX := KX.on hal
    replace KT := KT.on hal
    replace SR := (SR.below hal).more hal.size
    have B7 := B6.trans (hal.mono B6.size)
    have HC := Lib.hid (And.intro my cy)
    clear q6 B5 B6 HP1 a0 a1 a2 a3 my cy hal
    have a0 := KX.c0
    have a1 := KX.c1
    have a2 := KT.c0
    have a3 := KT.c1
    have a4 := KY.c0
    have a5 := KY.c1
    have T2 := rtext_any n A xs c b (w6.alloc (.cells #[.bool nb, .slice Vb ys.length kb] 24)) KX.sl HH.out.1 hl HH.out.2.2.1
    rw [HZ.out.1, HZ.out.2] at T2
    have HT2 := Lib.hid T2
    clear T2
    go_wp2_with fail
    refine (HT2.out).mono ?_
    rintro e6 w8 ⟨rfl, q8⟩
    replace KX := KX.on q8
    replace KT := KT.on q8
    replace KY := KY.on q8
    replace SR := (SR.below q8).more q8.size
    have B8 := B7.trans (q8.mono B7.size)
    clear q8 B7 HT2 a0 a1 a2 a3 a4 a5
    have a0 := KX.c0
    have a1 := KX.c1
    have a2 := KT.c0
    have a3 := KT.c1
    have a4 := KY.c0
    have a5 := KY.c1
    have HP2 := Lib.hid (rparse_any s w8 (by unfold maxLen; omega))
    go_wp2_with fail
    refine (HP2.out).mono ?_
    rintro e7 w9 ⟨nr, Vr, zs, kr, fr, rfl, mz, cz, q9⟩
    obtain ⟨rfl, rfl, rfl⟩ := par_same HC.out.1 mz HC.out.2 cz
    replace KX := KX.on q9
    replace KT := KT.on q9
    replace KY := KY.on q9
    replace SR := (SR.below q9).more q9.size
    have B9 := B8.trans (q9.mono B8.size)
    have KZ := Bx.new w9 nr Vr zs kr mz.sl
    have hal : Below w9.heap.size w9 (w9.alloc (.cells #[.bool nr, .slice Vr zs.length kr] 24)) := by go_grown
    replace KX := KX.on hal
    replace KT := KT.on hal
    replace KY := KY.on hal
    replace SR := (SR.below hal).more hal.size
    have B10 := B9.trans (hal.mono B9.size)
    have hzl : zs.length * 4 ≤ 140737488351232 := by have := mz.ok.len; omega
    clear q9 B8 B9 HP2 a0 a1 a2 a3 a4 a5 mz cz hal HC
    have a0 := KX.c0
    have a1 := KX.c1
    have a2 := KT.c0
    have a3 := KT.c1
    have a4 := KY.c0
    have a5 := KY.c1
    have a6 := KZ.c0
    have a7 := KZ.c1
    have HA := Lib.hid (answered_any nr Vb Vr zs kb kr fr (w9.alloc (.cells #[.bool nr, .slice Vr zs.length kr] 24)) KY.sl KZ.sl hzl)
    go_wp2_with fail
    refine (HA.out).mono ?_
    rintro e8 wb ⟨rfl, qb⟩
    replace KX := KX.on qb
    replace KT := KT.on qb
    replace SR := (SR.below qb).more qb.size
    have B11 := B10.trans (qb.mono B10.size)
    clear qb a0 a1 a2 a3 a4 a5 a6 a7 HA KY KZ B10
    have a0 := KX.c0
    have a1 := KX.c1
    have a2 := KT.c0
    have a3 := KT.c1
    have HF := Lib.hid (left_any n (some ⟨g, 0, none⟩) A xs c wb SR KX.sl hl)
    go_wp2_with fail
    refine (HF.out).mono ?_
    rintro e9 wc ⟨rfl, qc⟩
    have B12 := B11.trans (qc.mono B11.size)
    go_wp2
    go_ret
    exact ⟨rfl, B12⟩
  · go_wp2_with fail
    go_ret
    exact ⟨rfl, B2⟩
end Go.Proofs.YtiofglgpgjnonaaDoor

/-! ### TextsP -/
namespace Go.Proofs.YtiofglgpgjnonaaDoor.wholeTexts
open Go.ChangeShapes Go.WideShapes Go.ChangeAt Go.RowKit Nb
open Go.ChangeMaps (open_string shut_string)
set_option linter.unusedVariables false

set_option maxRecDepth 100000 in
theorem lifted (os : Os) (started : os.Started) (H : Type) (enc : TypeId × Value → H) :
    ReturnsInHanded {} Tryd.checked os 3 .any (fun w args => (Rows.wholeTextsSpec.pre enc Tryd.prog Tryd.f3 [] false w args ∧ laidMetH Tryd.prog laidL w) ∧ sizedMet enc Tryd.prog Tryd.f3 (OpenSpec.ofChange Rows.wholeTextsSpec) false w args)
      (Rows.wholeTextsSpec.post enc Tryd.prog Tryd.f3 false true false false) := by
  refine returnsInHanded_of_change_and (C := Tryd.checked) (X := fun w _ => laidMetH Tryd.prog laidL w) (fun _ _ _ hh h => h.of_heap hh) own started (by kernel_rfl) Tryd.func3
    (ChangeSpec.witness_shaped (enc := enc) (C := Tryd.checked) (os := os) (X := fun w _ => laidMetH Tryd.prog laidL w) false (World.doorLaid Tryd.prog 400 os) #[.agg #[.bool false, .slice none 0 0], .string ⟨#[]⟩] 8 rfl (World.shaped_of_RefB (by kernel_rfl) (by kernel_rfl)) (by kernel_rfl) (by kernel_rfl) (by kernel_rfl) (door_met os _)) ?_
  intro W base args ds gs before hval0 hW _ hsz0 hL _
  have hsz : (DataW.weightsEach Tryd.prog (Tryd.f3.params.toList ++ Rows.wholeTextsSpec.plain.varTypes Tryd.prog) (ds ++ gs)).all (· ≤ reachBytes) = true := hsz0
  clear hsz0
  have hval : ∀ (j : Nat) t v, Tryd.f3.params[j]? = some t → args[j]? = some v → Value.okWide Tryd.prog W .any base t v := hval0
  have hW' := hW
  obtain ⟨p, q, hA0, hV, rfl, _, _⟩ := hW
  have hA : DataW.TrodAll enc Tryd.prog W 0 (fun _ => true) true Tryd.f3.params.toList args.toList ds p := hA0
  rw [Tryd.params3] at hA hval hsz
  obtain ⟨v0, v1, d0, d1, p0, p1, rfl, rfl, rfl, h0, h1⟩ := trodAll_two hA
  obtain ⟨rfl, rfl⟩ := trodVars_none hV
  clear hA0
  simp only [List.append_nil] at hW'
  have hlt0 : ∀ x ∈ p0, x.block < W.heap.size := fun x hx => by simpa using hW'.lt x (by simp [hx])
  have hw0 : ∀ n ∈ d0.weights Tryd.prog 24, n ≤ reachBytes := fun n hn => by
    have := List.all_eq_true.1 hsz _ (DataW.weights_mem_each (j := 0) rfl rfl n hn)
    simpa using this
  have hw1 : ∀ n ∈ d1.weights Tryd.prog 9, n ≤ reachBytes := fun n hn => by
    have := List.all_eq_true.1 hsz _ (DataW.weights_mem_each (j := 1) rfl rfl n hn)
    simpa using this
  have k0 := h0
  obtain ⟨n1, A, xs, c, rfl, hr, hx, hNA, hl⟩ := open_bigint (hval 0 24 v0 rfl rfl) h0 hlt0 hw0
  obtain ⟨s, rfl, rfl, rfl, hs0⟩ := open_string Tryd.underlying9 (hval 1 9 v1 rfl rfl) h1
  have hs1 : s.size ≤ 140737488351232 := by
    have h3 := hw1 s.size (by simp [DataW.weights])
    unfold reachBytes at h3
    omega
  refine (texts_walk n1 A xs c s W hr hx hNA hl hs1 (tab_of_laid hL)).mono fun e W' ⟨he, hg⟩ => ?_
  subst he
  refine ⟨_, rfl, _, _, _, [], p0 ++ [], [], hW', ?_, ?_, rfl, hg.frame _, fun h => by cases h⟩
  · exact trodAll_cons_mk (shut_bool Tryd.underlying4 _) trodAll_mk0
  · exact trodAll_mk2 (Below.trod laidOut (by kernel_rfl) (of_decide_eq_true (by kernel_rfl)) k0 hg hlt0) (shut_string Tryd.underlying9 hs0)

theorem over : Rows.WholeTextsSaid :=
  OpenClaim.holds_of_wide 3 Tryd.f3 rfl rfl rfl rfl rfl rfl rfl ⟨rfl, rfl, rfl, rfl, rfl⟩ rfl rfl rfl rfl rfl (by kernel_rfl) Tryd.func3 (by kernel_rfl)
    (of_decide_eq_true (by kernel_rfl)) (by unfold Func.isWrapper; first | (rw [if_pos (by decide +kernel)]; kernel_rfl) | (rw [if_neg (by decide +kernel)]; exact ⟨rfl, rfl⟩))
    (fun os started H enc _ => lifted os started H enc)

theorem proved : Rows.WholeTextsCardSaid :=
  Claim7.holds_tied_plain_at .later [] [.data, .data, .data] true Rows.wholeTextsCard.stood.harness false
    over (fun _ h => by cases h) (by kernel_rfl) (fun _ h => by cases h) wholeTexts_row_tie rfl ⟨rfl, rfl⟩ (by kernel_rfl) rfl
    (fun f fn hf hfn => by
      obtain rfl : f = 3 := Option.some.inj ((show Tryd.prog.funcNamed "polestar/polestarlaw01.WholeTexts" = some 3 by kernel_rfl).symm.trans hf) |>.symm
      obtain rfl : fn = Tryd.f3 := (Option.some.inj (Tryd.func3.symm.trans hfn)).symm
      exact ⟨by kernel_rfl, fun j t ht => by
        rw [Tryd.params3] at ht
        have hm : t ∈ [24, 9] := by
          have h3 : t = 24 ∨ t = 9 := by simpa using Array.mem_of_getElem? ht
          simpa using h3
        have hall : ([24, 9].all fun u => !Tryd.prog.wantsStandIn u) = true := by kernel_rfl
        exact (show Tryd.prog.wantsStandIn t = false by simpa using List.all_eq_true.1 hall t hm)⟩)
    (by kernel_rfl)
end Go.Proofs.YtiofglgpgjnonaaDoor.wholeTexts
