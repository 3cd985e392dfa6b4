/-
  What the document's own told returns where the divisor is 1. Condition: that the number is one and not beyond some thousand bits.
-/
import Derived.Test.YtffjkfjokikhnaaRwb
namespace Go.Proofs.Ytffjkfjokikhnaa.Rb
open Go.RowKit Nb Fl Ieee
set_option maxHeartbeats 2000000 in
theorem told_any (own : Nat) (n : Bool) (A B : Option Addr) (xs ys : List Nat) (hys : ys = [1]) (c d E : Nat) (e : Int) (he : e = (E : Int) - 1074) (w : World) (hx : Bg w n A xs c maxLen) (hy : Bg w false B ys d maxLen) (hl : xs.length ≤ 1000) (hT2 : bitLen (val W32 xs) + E ≤ 10000) (U : Nat) (hU : val W32 xs * 2 ^ E = U) (D : Nat) (hD : n = true → double.sub 0 (ovr U) = some D) :
    Calls Try.prog 49 #[.float .f64 own, big n A xs.length c, big false B ys.length d, .int .i64 e] w fun r w' => r = .returned (.tuple #[.float .f64 (if xs.length = 0 then own else if n then D else (undr U).1), .float .f64 (if xs.length = 0 then own else if n then (undr U).1 + 9223372036854775808 else ovr U : Nat)]) ∧ Below w.heap.size w w' := by
  have ht := Duo.boxed (n1 := n) (n2 := false) (l1 := xs.length) (c := c) (l2 := ys.length) (d := d) hx.sl hy.sl
  have HT := Lib.hid ht.all
  have k0 := ht.a0
  have k1 := ht.a1
  have k2 := ht.b0
  have k3 := ht.b1
  by_cases h0 : xs.length = 0
  · rw [if_pos h0, if_pos h0]
    have HS : Hid (∀ W : World, Calls Try.prog 56 #[big n A xs.length c] W fun e w' => e = .returned (.int .i64 0) ∧ Below W.heap.size W w') := Lib.hid (fun W => sign_zero n A xs c W h0)
    clear hys he hl hT2 hU hD hx hy ht h0
    go_enter Try.func49, Try.ntmps49
    go_wp2_with fail
    refine (HS.out _).mono ?_
    rintro _ w1 ⟨rfl, hb1⟩
    have hD1 := Lib.hid (HT.out.1.on hb1)
    clear k0 k1 k2 k3 hb1
    go_wp2
    go_ret2
    exact ⟨rfl, hD1.out.below⟩
  · rw [if_neg h0, if_neg h0]
    obtain ⟨r, hr0, hr1, hS⟩ := sign_some n A xs c w (by omega) (by omega)
    have HS := Lib.hid hS
    have HB : Hid (∀ W : World, Sl .u32 W W.heap.size A xs → Sl .u32 W W.heap.size B ys → Calls Try.prog 69 #[big n A xs.length c, big false B ys.length d, .int .i64 e] W fun r w' => r = .returned (.tuple #[.float .f64 (if n then D else (undr U).1), .float .f64 (if n then (undr U).1 + 9223372036854775808 else ovr U : Nat)]) ∧ Below W.heap.size W w') := Lib.hid (fun W h1 h2 =>
      beside_any n A B xs ys hys c d E e he W ⟨h1, hx.dig, hx.norm, hx.sign, hx.len, hx.cap⟩ ⟨h2, hy.dig, hy.norm, hy.sign, hy.len, hy.cap⟩ hl hT2 U hU D hD)
    generalize (if n then D else (undr U).1) = x1 at *
    generalize (if n then (undr U).1 + 9223372036854775808 else ovr U : Nat) = x2 at *
    clear hys he hl hT2 hU hD hx hy ht h0 hr1 hS
    go_enter Try.func49, Try.ntmps49
    go_wp2_with fail
    refine (HS.out _).mono ?_
    rintro _ w1 ⟨rfl, hb1⟩
    have hD1 := HT.out.1.on hb1
    have HD1 := Lib.hid hD1.all
    have j0 := hD1.a0
    have j1 := hD1.a1
    have j2 := hD1.b0
    have j3 := hD1.b1
    clear k0 k1 k2 k3 hb1 hD1
    go_wp2_with fail
    refine (HB.out _ (Duo.sa' HD1.out) (Duo.sb' HD1.out)).mono ?_
    rintro _ w2 ⟨rfl, hb2⟩
    have HD2 := Lib.hid (HD1.out.1.on hb2)
    clear j0 j1 j2 j3 hb2
    go_wp2
    go_ret2
    exact ⟨rfl, HD2.out.below⟩
end Go.Proofs.Ytffjkfjokikhnaa.Rb
