/-
  Of any two floats the sum, and what it has lost, are together the exact sum, where the sum is finite; else the lost is nought (RoundWhole's walk). Condition: floats of 64 bits.
-/
import Derived.Test.YtmcnhgakaodafaaFwo
import Derived.Test.YtmcnhgakaodafaaSam
import Derived.Deep.RegionHeld3
import Derived.Deep.DeepCutAuto
import Derived.BigRegion
namespace Go.Proofs.Ytmcnhgakaodafaa
open Go.RowKit Nb

open Fl Ieee
theorem sub_none {s : Nat} (h : 9218868437227405312 ≤ mg s) : double.sub s s = none := by
  unfold Format.sub
  rcases Nat.lt_or_eq_of_le h with k | k
  · rw [read_nan s k]; rfl
  · rw [read_inf s k.symm]
    cases ng s <;> rfl
theorem fits_sum {a b : Nat} (ha : mg a < 9218868437227405312) (hb : mg b < 9218868437227405312) : FitsQ (fl a + fl b) := by
  obtain ⟨k, hk⟩ : ∃ k : Nat, k = 2098 := ⟨_, rfl⟩
  exact ((fl_hq (k := k) ha (by omega)).add (fl_hq (k := k) hb (by omega))).fits (by omega)
theorem two_lt {a b s l : Nat} (h : TwoIs a b s l) : l < 18446744073709551616 := by
  rcases h with ⟨_, h⟩ | ⟨_, z, y, _, hl⟩
  · omega
  · exact (add_told hl).2
theorem four {α : Type} : ∀ {l : List α}, l.length = 4 → ∃ a b c d, l = [a, b, c, d]
  | [a, b, c, d], _ => ⟨a, b, c, d, rfl⟩
theorem row4_at {a b c d p : Nat} {W : World} (K : Box W p [.float .f64 a, .float .f64 b, .float .f64 c, .float .f64 d]) (j x : Nat) (h : [a, b, c, d][j]? = some x) : W.cell? ((⟨p, 0, none⟩ : Addr).add j) = some (.float .f64 x) := by
  refine K.at_ j _ ?_
  match j, h with
  | 0, h => cases h; rfl
  | 1, h => cases h; rfl
  | 2, h => cases h; rfl
  | 3, h => cases h; rfl
  | j + 4, h => simp at h
theorem worth4 {a b c d p : Nat} {W : World} (K : Box W p [.float .f64 a, .float .f64 b, .float .f64 c, .float .f64 d]) (ha : a < 18446744073709551616 ∧ mg a < 9218868437227405312) (hb : b < 18446744073709551616 ∧ mg b < 9218868437227405312) (hc : c < 18446744073709551616 ∧ mg c < 9218868437227405312) (hd : d < 18446744073709551616 ∧ mg d < 9218868437227405312) :
    Calls Try.prog 5 #[.slice (some ⟨p, 0, none⟩) 4 4] W (fun e w' => ∃ (g cap : Nat) (f0 f1 f2 f3 : Fv), e = .returned (.tuple #[.slice (some ⟨g, 0, none⟩) 4 cap, .bool true]) ∧ Ff w' (fl a) f0 ∧ Ff w' (fl b) f1 ∧ Ff w' (fl c) f2 ∧ Ff w' (fl d) f3 ∧ Box w' g [.bool f0.n, .slice f0.A f0.xs.length f0.c, .bool f0.m, .slice f0.B f0.ds.length f0.d, .bool f1.n, .slice f1.A f1.xs.length f1.c, .bool f1.m, .slice f1.B f1.ds.length f1.d, .bool f2.n, .slice f2.A f2.xs.length f2.c, .bool f2.m, .slice f2.B f2.ds.length f2.d, .bool f3.n, .slice f3.A f3.xs.length f3.c, .bool f3.m, .slice f3.B f3.ds.length f3.d] ∧ Below W.heap.size W w') := by
  refine (worth_any [a, b, c, d] ⟨p, 0, none⟩ W K.lt (row4_at K) (fun x hx => by simp at hx; rcases hx with rfl | rfl | rfl | rfl <;> omega) (by simp)).mono ?_
  rintro _ w' ⟨⟨⟨x, hx, hxf⟩, rfl⟩ | ⟨v, rfl, fs, hfl, hfin, hff, hrow⟩, hb2⟩
  · exfalso
    simp at hx
    rcases hx with rfl | rfl | rfl | rfl <;> omega
  · obtain ⟨f0, f1, f2, f3, rfl⟩ := four hfl
    obtain ⟨g, cap, rfl, _, _, hbx⟩ := hrow.box (by simp)
    exact ⟨g, cap, f0, f1, f2, f3, rfl, hff 0 a f0 rfl rfl, hff 1 b f1 rfl rfl, hff 2 c f2 rfl rfl, hff 3 d f3 rfl rfl, hbx, hb2⟩
theorem worth4_no {a b c d p : Nat} {W : World} (K : Box W p [.float .f64 a, .float .f64 b, .float .f64 c, .float .f64 d]) (ha : a < 18446744073709551616) (hb : b < 18446744073709551616) (hc : c < 18446744073709551616) (hd : d < 18446744073709551616) (hn : 9218868437227405312 ≤ mg c) :
    Calls Try.prog 5 #[.slice (some ⟨p, 0, none⟩) 4 4] W (fun e w' => e = .returned (.tuple #[.slice none 0 0, .bool false]) ∧ Below W.heap.size W w') := by
  refine (worth_any [a, b, c, d] ⟨p, 0, none⟩ W K.lt (row4_at K) (fun x hx => by simp at hx; rcases hx with rfl | rfl | rfl | rfl <;> omega) (by simp)).mono ?_
  rintro _ w' ⟨⟨_, rfl⟩ | ⟨v, rfl, fs, hfl, hfin, hff, hrow⟩, hb2⟩
  · exact ⟨rfl, hb2⟩
  · have := hfin 2 c (by simp) rfl
    omega
set_option maxHeartbeats 8000000 in
set_option maxRecDepth 20000 in
theorem roundWhole_fin (a b s : Nat) (w : World) (ha : a < 18446744073709551616) (hb : b < 18446744073709551616) (hs : double.add a b = some s) (hf : mg s < 9218868437227405312) :
    Calls Try.prog 3 #[.float .f64 a, .float .f64 b] w (fun e w' => e = .returned (.bool true) ∧ Below w.heap.size w w') := by
  have hab := sum_fin hs hf
  have hsl := (add_told hs).2
  have H1 : Hid (∀ W, Calls Try.prog 4 #[.float .f64 a, .float .f64 b] W fun e w' => ∃ l, e = .returned (.tuple #[.float .f64 s, .float .f64 l]) ∧ Below W.heap.size W w' ∧ l < 18446744073709551616 ∧ mg l < 9218868437227405312 ∧ fl a + fl b = fl s + fl l) := Lib.hid (fun W => (two_any a b W ha hb).mono (by
    rintro _ w1 ⟨l, rfl, hw, hT⟩
    rw [(add_fop hs W).1] at hT ⊢
    have hx := two_exact ha hb hs hf hT
    exact ⟨l, rfl, by rw [hw]; exact below_dn (below_self _ _) _, two_lt hT, hx.1, fl_add hx.2⟩))
  have hadd0 : ∀ t W, (binOp .add t (.float .f64 a) (.float .f64 b)).run Try.prog W = .ok (.float .f64 s) W := fun t W => by rw [run_add, (add_fop hs W).1, (add_fop hs W).2]; rfl
  have HS := Lib.hid (fun W => sameFloat_any s s W (.inl rfl))
  have H2 : Hid (∀ (p l : Nat) (W : World), l < 18446744073709551616 → mg l < 9218868437227405312 → Box W p [.float .f64 a, .float .f64 b, .float .f64 s, .float .f64 l] → Calls Try.prog 5 #[.slice (some ⟨p, 0, none⟩) 4 4] W (fun e w' => ∃ (g cap : Nat) (f0 f1 f2 f3 : Fv), e = .returned (.tuple #[.slice (some ⟨g, 0, none⟩) 4 cap, .bool true]) ∧ Ff w' (fl a) f0 ∧ Ff w' (fl b) f1 ∧ Ff w' (fl s) f2 ∧ Ff w' (fl l) f3 ∧ Box w' g [.bool f0.n, .slice f0.A f0.xs.length f0.c, .bool f0.m, .slice f0.B f0.ds.length f0.d, .bool f1.n, .slice f1.A f1.xs.length f1.c, .bool f1.m, .slice f1.B f1.ds.length f1.d, .bool f2.n, .slice f2.A f2.xs.length f2.c, .bool f2.m, .slice f2.B f2.ds.length f2.d, .bool f3.n, .slice f3.A f3.xs.length f3.c, .bool f3.m, .slice f3.B f3.ds.length f3.d] ∧ Below W.heap.size W w')) := Lib.hid (fun p l W h1 h2 K => worth4 K ⟨ha, hab.1⟩ ⟨hb, hab.2⟩ ⟨hsl, hf⟩ ⟨h1, h2⟩)
  have HG := Lib.hid (And.intro (fits_sum hab.1 hab.2) hf)
  clear ha hb hs hf hab hsl
  have BW : Below w.heap.size w w := Below.refl _ _
  go_enter Try.func3, Try.ntmps3
  go_wp2_with fail
  refine (H1.out _).mono ?_
  rintro _ w1 ⟨l, rfl, hb, hl1, hl2, he⟩
  replace BW := BW.trans (hb.mono BW.size)
  clear hb H1
  obtain ⟨V, e1, hb1, K1, -, -⟩ := alloc_new w1 [.float .f64 a, .float .f64 b, .float .f64 s, .float .f64 l] 22
  have HW := Lib.hid (H2.out _ l V hl1 hl2 K1)
  have HE : Hid (fl a + fl b = fl s + fl l ∧ FitsQ (fl s + fl l)) := Lib.hid ⟨he, fits_sum HG.out.2 hl2⟩
  replace BW := BW.trans (hb1.mono BW.size)
  clear hb1 H2 K1 hl1 hl2 he
  go_wp2_with fail
  rw [← e1]
  clear e1
  refine (HW.out).mono ?_
  rintro _ w2 ⟨g, cap, f0, f1, f2, f3, rfl, La, Lb, Lc, Ld, KR, hb⟩
  replace BW := BW.trans (hb.mono BW.size)
  clear hb HW
  go_wp2_with fail
  refine (alive_any _).mono ?_
  rintro _ w3 ⟨rfl, hb⟩
  replace BW := BW.trans (hb.mono BW.size)
  replace KR := KR.on hb
  replace La := La.kp (Kept.of hb)
  replace Lb := Lb.kp (Kept.of hb)
  replace Lc := Lc.kp (Kept.of hb)
  replace Ld := Ld.kp (Kept.of hb)
  clear hb
  go_wp2_with fail
  refine (HS.out _).mono ?_
  rintro _ w4 ⟨rfl, rfl⟩
  clear HS
  go_wp2_with fail
  refine wp_region_noPanic ?_
  have hb : Below w4.heap.size w4 w4.drew := (Below.refl _ _).drew
  replace KR := KR.on hb
  replace La := La.kp (Kept.of hb)
  replace Lb := Lb.kp (Kept.of hb)
  replace Lc := Lc.kp (Kept.of hb)
  replace Ld := Ld.kp (Kept.of hb)
  replace BW := BW.trans (hb.mono BW.size)
  clear hb
  refine wp_region_held_drew (S := (fun wx => Cs wx (g) 0 [.bool f0.n, .slice f0.A f0.xs.length f0.c, .bool f0.m, .slice f0.B f0.ds.length f0.d, .bool f1.n, .slice f1.A f1.xs.length f1.c, .bool f1.m, .slice f1.B f1.ds.length f1.d, .bool f2.n, .slice f2.A f2.xs.length f2.c, .bool f2.m, .slice f2.B f2.ds.length f2.d, .bool f3.n, .slice f3.A f3.xs.length f3.c, .bool f3.m, .slice f3.B f3.ds.length f3.d])) (by kernel_rfl) (by exact KR.cs) (fun hHeld => ?_)
  generalize w4.drew = Vd101 at *
  refine pT 0 ?_
  (try simp only [p0, p1, p2, p3])
  refine pT 1 ?_
  (try simp only [p0, p1, p2, p3])
  refine pT 2 ?_
  (try simp only [p0, p1, p2, p3])
  refine pT 3 ?_
  (try simp only [p0, p1, p2, p3])
  refine pT 4 ?_
  (try simp only [p0, p1, p2, p3])
  refine pT 5 ?_
  (try simp only [p0, p1, p2, p3])
  refine pR2 6 10 (fun K hK => ?_) (fun K hK => ?_)
  · go_simp
    (go_at_call 10; with_reducible refine (r_add La Lb).mono ?_)
    rintro _ w102 ⟨f4, er4, rfl, R1, hb⟩
    (try go_wp2_with fail)
    replace KR := KR.on hb
    replace La := La.kp (Kept.of hb)
    replace Lb := Lb.kp (Kept.of hb)
    replace Lc := Lc.kp (Kept.of hb)
    replace Ld := Ld.kp (Kept.of hb)
    replace BW := BW.trans (hb.mono BW.size)
    clear hb
    obtain ⟨rfl, L1⟩ := R1.yes not_false HG.out.1
    clear R1
    refine hK.out _ _ (by exact KR.cs) (fun hHeld => ?_)
    clear hK
    (try simp only [p0, p1, p2, p3])
    refine pT 7 ?_
    (try simp only [p0, p1, p2, p3])
    refine pT 8 ?_
    (try simp only [p0, p1, p2, p3])
    refine pT 9 ?_
    (try simp only [p0, p1, p2, p3])
    refine pR1 10 (fun K hK => ?_)
    go_simp
    obtain ⟨V103, e104, hb105, K106, Z107, -⟩ := alloc_new w102 [.bool false, .slice none 0 0, .bool false, .slice none 0 0] 37
    have n108 : g ≠ w102.heap.size := Nat.ne_of_lt (KR.lt)
    have g109 : w.heap.size ≤ w102.heap.size := BW.size
    replace KR := KR.on hb105
    replace La := La.kp (Kept.of hb105)
    replace Lb := Lb.kp (Kept.of hb105)
    replace Lc := Lc.kp (Kept.of hb105)
    replace Ld := Ld.kp (Kept.of hb105)
    replace L1 := L1.kp (Kept.of hb105)
    replace BW := BW.trans (hb105.mono BW.size)
    clear hb105
    rw [← e104]
    clear e104
    generalize w102.heap.size = b110 at *
    refine hK.out _ _ (by exact KR.cs) (fun hHeld => ?_)
    clear hK
    (try simp only [p0, p1, p2, p3])
    refine pR1 11 (fun K hK => ?_)
    obtain ⟨c111, c112, c113, c114⟩ := K106.c4
    obtain ⟨c115, c116, c117, c118⟩ := Z107.f4
    go_simp
    clear c111 c112 c113 c114 c115 c116 c117 c118
    obtain ⟨V119, hk121⟩ : ∃ V119, V119 = V103.setCells (b110) 0 [.bool f4.n, .slice f4.A f4.xs.length f4.c, .bool f4.m, .slice f4.B f4.ds.length f4.d] := ⟨_, rfl⟩
    have e120 := hk121
    simp only [World.setCells, Nat.zero_add, Nat.reduceAdd] at e120
    have hk122 := Kept.overE hk121 K106 rfl (by simp)
    replace KR := KR.awayE hk121 n108
    replace K106 := K106.overE hk121 rfl
    replace La := La.kp hk122
    replace Lb := Lb.kp hk122
    replace Lc := Lc.kp hk122
    replace Ld := Ld.kp hk122
    replace L1 := L1.kp hk122
    replace BW := Below.putE BW hk121 g109
    clear hk121 hk122
    rw [← e120]
    clear e120
    refine hK.out _ _ (by exact KR.cs) (fun hHeld => ?_)
    clear hK
    (try simp only [p0, p1, p2, p3])
    refine pT 12 ?_
    (try simp only [p0, p1, p2, p3])
    refine wpAnyH_done (by kernel_rfl) (NoPanic.normal ?_) _
    go_wp2_with fail
    refine wp_region_noPanic ?_
    have hb : Below V119.heap.size V119 V119.drew := (Below.refl _ _).drew
    replace KR := KR.on hb
    replace K106 := K106.on hb
    replace La := La.kp (Kept.of hb)
    replace Lb := Lb.kp (Kept.of hb)
    replace Lc := Lc.kp (Kept.of hb)
    replace Ld := Ld.kp (Kept.of hb)
    replace L1 := L1.kp (Kept.of hb)
    replace BW := BW.trans (hb.mono BW.size)
    clear hb
    refine wp_region_held_drew (S := (fun wx => Cs wx (g) 0 [.bool f0.n, .slice f0.A f0.xs.length f0.c, .bool f0.m, .slice f0.B f0.ds.length f0.d, .bool f1.n, .slice f1.A f1.xs.length f1.c, .bool f1.m, .slice f1.B f1.ds.length f1.d, .bool f2.n, .slice f2.A f2.xs.length f2.c, .bool f2.m, .slice f2.B f2.ds.length f2.d, .bool f3.n, .slice f3.A f3.xs.length f3.c, .bool f3.m, .slice f3.B f3.ds.length f3.d])) (by kernel_rfl) (by exact KR.cs) (fun hHeld => ?_)
    generalize V119.drew = Vd123 at *
    refine pT 0 ?_
    (try simp only [p0, p1, p2, p3])
    refine pT 1 ?_
    (try simp only [p0, p1, p2, p3])
    refine pT 2 ?_
    (try simp only [p0, p1, p2, p3])
    refine pT 3 ?_
    (try simp only [p0, p1, p2, p3])
    refine pT 4 ?_
    (try simp only [p0, p1, p2, p3])
    refine pT 5 ?_
    (try simp only [p0, p1, p2, p3])
    refine pR2 6 10 (fun K hK => ?_) (fun K hK => ?_)
    · go_simp
      (go_at_call 10; with_reducible refine (r_add Lc Ld).mono ?_)
      rintro _ w124 ⟨f5, er5, rfl, R2, hb⟩
      (try go_wp2_with fail)
      replace KR := KR.on hb
      replace K106 := K106.on hb
      replace La := La.kp (Kept.of hb)
      replace Lb := Lb.kp (Kept.of hb)
      replace Lc := Lc.kp (Kept.of hb)
      replace Ld := Ld.kp (Kept.of hb)
      replace L1 := L1.kp (Kept.of hb)
      replace BW := BW.trans (hb.mono BW.size)
      clear hb
      obtain ⟨rfl, L2⟩ := R2.yes not_false HE.out.2
      clear R2
      refine hK.out _ _ (by exact KR.cs) (fun hHeld => ?_)
      clear hK
      (try simp only [p0, p1, p2, p3])
      refine pT 7 ?_
      (try simp only [p0, p1, p2, p3])
      refine pT 8 ?_
      (try simp only [p0, p1, p2, p3])
      refine pT 9 ?_
      (try simp only [p0, p1, p2, p3])
      refine pR1 10 (fun K hK => ?_)
      go_simp
      obtain ⟨V125, e126, hb127, K128, Z129, -⟩ := alloc_new w124 [.bool false, .slice none 0 0, .bool false, .slice none 0 0] 37
      have n130 : g ≠ w124.heap.size := Nat.ne_of_lt (KR.lt)
      have n131 : b110 ≠ w124.heap.size := Nat.ne_of_lt (K106.lt)
      have g132 : w.heap.size ≤ w124.heap.size := BW.size
      replace KR := KR.on hb127
      replace K106 := K106.on hb127
      replace La := La.kp (Kept.of hb127)
      replace Lb := Lb.kp (Kept.of hb127)
      replace Lc := Lc.kp (Kept.of hb127)
      replace Ld := Ld.kp (Kept.of hb127)
      replace L1 := L1.kp (Kept.of hb127)
      replace L2 := L2.kp (Kept.of hb127)
      replace BW := BW.trans (hb127.mono BW.size)
      clear hb127
      rw [← e126]
      clear e126
      generalize w124.heap.size = b133 at *
      refine hK.out _ _ (by exact KR.cs) (fun hHeld => ?_)
      clear hK
      (try simp only [p0, p1, p2, p3])
      refine pR1 11 (fun K hK => ?_)
      obtain ⟨c134, c135, c136, c137⟩ := K128.c4
      obtain ⟨c138, c139, c140, c141⟩ := Z129.f4
      go_simp
      clear c134 c135 c136 c137 c138 c139 c140 c141
      obtain ⟨V142, hk144⟩ : ∃ V142, V142 = V125.setCells (b133) 0 [.bool f5.n, .slice f5.A f5.xs.length f5.c, .bool f5.m, .slice f5.B f5.ds.length f5.d] := ⟨_, rfl⟩
      have e143 := hk144
      simp only [World.setCells, Nat.zero_add, Nat.reduceAdd] at e143
      have hk145 := Kept.overE hk144 K128 rfl (by simp)
      replace KR := KR.awayE hk144 n130
      replace K106 := K106.awayE hk144 n131
      replace K128 := K128.overE hk144 rfl
      replace Z129 := Z129.putE hk144
      replace La := La.kp hk145
      replace Lb := Lb.kp hk145
      replace Lc := Lc.kp hk145
      replace Ld := Ld.kp hk145
      replace L1 := L1.kp hk145
      replace L2 := L2.kp hk145
      replace BW := Below.putE BW hk144 g132
      clear hk144 hk145
      rw [← e143]
      clear e143
      refine hK.out _ _ (by exact KR.cs) (fun hHeld => ?_)
      clear hK
      (try simp only [p0, p1, p2, p3])
      refine pT 12 ?_
      (try simp only [p0, p1, p2, p3])
      refine wpAnyH_done (by kernel_rfl) (NoPanic.normal ?_) _
      obtain ⟨c146, c147, c148, c149⟩ := K106.c4
      obtain ⟨c150, c151, c152, c153⟩ := K128.c4
      go_wp2_with fail
      clear c146 c147 c148 c149 c150 c151 c152 c153
      refine (r_cmp L1 L2).mono ?_
      rintro _ w154 ⟨rfl, hb⟩
      replace KR := KR.on hb
      replace K106 := K106.on hb
      replace K128 := K128.on hb
      replace Z129 := Z129.on hb
      replace La := La.kp (Kept.of hb)
      replace Lb := Lb.kp (Kept.of hb)
      replace Lc := Lc.kp (Kept.of hb)
      replace Ld := Ld.kp (Kept.of hb)
      replace L1 := L1.kp (Kept.of hb)
      replace L2 := L2.kp (Kept.of hb)
      replace BW := BW.trans (hb.mono BW.size)
      clear hb
      rw [show cmpQ (fl a + fl b) (fl s + fl l) = 0 from (cmpQ_zero _ _).2 HE.out.1]
      go_wp2_with fail
      exact bodyPost_ret (v := .bool true) (by simp [results, Try.results3, go_sem]) rfl ⟨rfl, BW⟩
    · go_simp
      obtain ⟨V124, e125, hb126, K127, Z128, -⟩ := alloc_new Vd123 [.bool false, .slice none 0 0, .bool false, .slice none 0 0] 37
      have n129 : g ≠ Vd123.heap.size := Nat.ne_of_lt (KR.lt)
      have n130 : b110 ≠ Vd123.heap.size := Nat.ne_of_lt (K106.lt)
      have g131 : w.heap.size ≤ Vd123.heap.size := BW.size
      replace KR := KR.on hb126
      replace K106 := K106.on hb126
      replace La := La.kp (Kept.of hb126)
      replace Lb := Lb.kp (Kept.of hb126)
      replace Lc := Lc.kp (Kept.of hb126)
      replace Ld := Ld.kp (Kept.of hb126)
      replace L1 := L1.kp (Kept.of hb126)
      replace BW := BW.trans (hb126.mono BW.size)
      clear hb126
      rw [← e125]
      clear e125
      generalize Vd123.heap.size = b132 at *
      refine hK.out _ _ (by exact KR.cs) (fun hHeld => ?_)
      clear hK
      (try simp only [p0, p1, p2, p3])
      refine pR1 6 (fun K hK => ?_)
      go_simp
      (go_at_call 10; with_reducible refine (r_add Lc Ld).mono ?_)
      rintro _ w133 ⟨f5, er5, rfl, R2, hb⟩
      (try go_wp2_with fail)
      replace KR := KR.on hb
      replace K106 := K106.on hb
      replace K127 := K127.on hb
      replace Z128 := Z128.on hb
      replace La := La.kp (Kept.of hb)
      replace Lb := Lb.kp (Kept.of hb)
      replace Lc := Lc.kp (Kept.of hb)
      replace Ld := Ld.kp (Kept.of hb)
      replace L1 := L1.kp (Kept.of hb)
      replace BW := BW.trans (hb.mono BW.size)
      clear hb
      obtain ⟨rfl, L2⟩ := R2.yes not_false HE.out.2
      clear R2
      refine hK.out _ _ (by exact KR.cs) (fun hHeld => ?_)
      clear hK
      (try simp only [p0, p1, p2, p3])
      refine pT 7 ?_
      (try simp only [p0, p1, p2, p3])
      refine pT 8 ?_
      (try simp only [p0, p1, p2, p3])
      refine pT 9 ?_
      (try simp only [p0, p1, p2, p3])
      refine pR1 11 (fun K hK => ?_)
      obtain ⟨c134, c135, c136, c137⟩ := K127.c4
      obtain ⟨c138, c139, c140, c141⟩ := Z128.f4
      go_simp
      clear c134 c135 c136 c137 c138 c139 c140 c141
      obtain ⟨V142, hk144⟩ : ∃ V142, V142 = w133.setCells (b132) 0 [.bool f5.n, .slice f5.A f5.xs.length f5.c, .bool f5.m, .slice f5.B f5.ds.length f5.d] := ⟨_, rfl⟩
      have e143 := hk144
      simp only [World.setCells, Nat.zero_add, Nat.reduceAdd] at e143
      have hk145 := Kept.overE hk144 K127 rfl (by simp)
      replace KR := KR.awayE hk144 n129
      replace K106 := K106.awayE hk144 n130
      replace K127 := K127.overE hk144 rfl
      replace Z128 := Z128.putE hk144
      replace La := La.kp hk145
      replace Lb := Lb.kp hk145
      replace Lc := Lc.kp hk145
      replace Ld := Ld.kp hk145
      replace L1 := L1.kp hk145
      replace L2 := L2.kp hk145
      replace BW := Below.putE BW hk144 g131
      clear hk144 hk145
      rw [← e143]
      clear e143
      refine hK.out _ _ (by exact KR.cs) (fun hHeld => ?_)
      clear hK
      (try simp only [p0, p1, p2, p3])
      refine pT 12 ?_
      (try simp only [p0, p1, p2, p3])
      refine wpAnyH_done (by kernel_rfl) (NoPanic.normal ?_) _
      obtain ⟨c146, c147, c148, c149⟩ := K106.c4
      obtain ⟨c150, c151, c152, c153⟩ := K127.c4
      go_wp2_with fail
      clear c146 c147 c148 c149 c150 c151 c152 c153
      refine (r_cmp L1 L2).mono ?_
      rintro _ w154 ⟨rfl, hb⟩
      replace KR := KR.on hb
      replace K127 := K127.on hb
      replace Z128 := Z128.on hb
      replace La := La.kp (Kept.of hb)
      replace Lb := Lb.kp (Kept.of hb)
      replace Lc := Lc.kp (Kept.of hb)
      replace Ld := Ld.kp (Kept.of hb)
      replace L1 := L1.kp (Kept.of hb)
      replace L2 := L2.kp (Kept.of hb)
      replace BW := BW.trans (hb.mono BW.size)
      clear hb
      rw [show cmpQ (fl a + fl b) (fl s + fl l) = 0 from (cmpQ_zero _ _).2 HE.out.1]
      go_wp2_with fail
      exact bodyPost_ret (v := .bool true) (by simp [results, Try.results3, go_sem]) rfl ⟨rfl, BW⟩
  · go_simp
    obtain ⟨V102, e103, hb104, K105, Z106, -⟩ := alloc_new Vd101 [.bool false, .slice none 0 0, .bool false, .slice none 0 0] 37
    have n107 : g ≠ Vd101.heap.size := Nat.ne_of_lt (KR.lt)
    have g108 : w.heap.size ≤ Vd101.heap.size := BW.size
    replace KR := KR.on hb104
    replace La := La.kp (Kept.of hb104)
    replace Lb := Lb.kp (Kept.of hb104)
    replace Lc := Lc.kp (Kept.of hb104)
    replace Ld := Ld.kp (Kept.of hb104)
    replace BW := BW.trans (hb104.mono BW.size)
    clear hb104
    rw [← e103]
    clear e103
    generalize Vd101.heap.size = b109 at *
    refine hK.out _ _ (by exact KR.cs) (fun hHeld => ?_)
    clear hK
    (try simp only [p0, p1, p2, p3])
    refine pR1 6 (fun K hK => ?_)
    go_simp
    (go_at_call 10; with_reducible refine (r_add La Lb).mono ?_)
    rintro _ w110 ⟨f4, er4, rfl, R1, hb⟩
    (try go_wp2_with fail)
    replace KR := KR.on hb
    replace K105 := K105.on hb
    replace Z106 := Z106.on hb
    replace Lc := Lc.kp (Kept.of hb)
    replace Ld := Ld.kp (Kept.of hb)
    replace BW := BW.trans (hb.mono BW.size)
    clear hb
    obtain ⟨rfl, L1⟩ := R1.yes not_false HG.out.1
    clear R1
    refine hK.out _ _ (by exact KR.cs) (fun hHeld => ?_)
    clear hK
    (try simp only [p0, p1, p2, p3])
    refine pT 7 ?_
    (try simp only [p0, p1, p2, p3])
    refine pT 8 ?_
    (try simp only [p0, p1, p2, p3])
    refine pT 9 ?_
    (try simp only [p0, p1, p2, p3])
    refine pR1 11 (fun K hK => ?_)
    obtain ⟨c111, c112, c113, c114⟩ := K105.c4
    obtain ⟨c115, c116, c117, c118⟩ := Z106.f4
    go_simp
    clear c111 c112 c113 c114 c115 c116 c117 c118
    obtain ⟨V119, hk121⟩ : ∃ V119, V119 = w110.setCells (b109) 0 [.bool f4.n, .slice f4.A f4.xs.length f4.c, .bool f4.m, .slice f4.B f4.ds.length f4.d] := ⟨_, rfl⟩
    have e120 := hk121
    simp only [World.setCells, Nat.zero_add, Nat.reduceAdd] at e120
    have hk122 := Kept.overE hk121 K105 rfl (by simp)
    replace KR := KR.awayE hk121 n107
    replace K105 := K105.overE hk121 rfl
    replace Lc := Lc.kp hk122
    replace Ld := Ld.kp hk122
    replace L1 := L1.kp hk122
    replace BW := Below.putE BW hk121 g108
    clear hk121 hk122
    rw [← e120]
    clear e120
    refine hK.out _ _ (by exact KR.cs) (fun hHeld => ?_)
    clear hK
    (try simp only [p0, p1, p2, p3])
    refine pT 12 ?_
    (try simp only [p0, p1, p2, p3])
    refine wpAnyH_done (by kernel_rfl) (NoPanic.normal ?_) _
    go_wp2_with fail
    refine wp_region_noPanic ?_
    have hb : Below V119.heap.size V119 V119.drew := (Below.refl _ _).drew
    replace KR := KR.on hb
    replace K105 := K105.on hb
    replace Lc := Lc.kp (Kept.of hb)
    replace Ld := Ld.kp (Kept.of hb)
    replace L1 := L1.kp (Kept.of hb)
    replace BW := BW.trans (hb.mono BW.size)
    clear hb
    refine wp_region_held_drew (S := (fun wx => Cs wx (g) 0 [.bool f0.n, .slice f0.A f0.xs.length f0.c, .bool f0.m, .slice f0.B f0.ds.length f0.d, .bool f1.n, .slice f1.A f1.xs.length f1.c, .bool f1.m, .slice f1.B f1.ds.length f1.d, .bool f2.n, .slice f2.A f2.xs.length f2.c, .bool f2.m, .slice f2.B f2.ds.length f2.d, .bool f3.n, .slice f3.A f3.xs.length f3.c, .bool f3.m, .slice f3.B f3.ds.length f3.d])) (by kernel_rfl) (by exact KR.cs) (fun hHeld => ?_)
    generalize V119.drew = Vd123 at *
    refine pT 0 ?_
    (try simp only [p0, p1, p2, p3])
    refine pT 1 ?_
    (try simp only [p0, p1, p2, p3])
    refine pT 2 ?_
    (try simp only [p0, p1, p2, p3])
    refine pT 3 ?_
    (try simp only [p0, p1, p2, p3])
    refine pT 4 ?_
    (try simp only [p0, p1, p2, p3])
    refine pT 5 ?_
    (try simp only [p0, p1, p2, p3])
    refine pR2 6 10 (fun K hK => ?_) (fun K hK => ?_)
    · go_simp
      (go_at_call 10; with_reducible refine (r_add Lc Ld).mono ?_)
      rintro _ w124 ⟨f5, er5, rfl, R2, hb⟩
      (try go_wp2_with fail)
      replace KR := KR.on hb
      replace K105 := K105.on hb
      replace Lc := Lc.kp (Kept.of hb)
      replace Ld := Ld.kp (Kept.of hb)
      replace L1 := L1.kp (Kept.of hb)
      replace BW := BW.trans (hb.mono BW.size)
      clear hb
      obtain ⟨rfl, L2⟩ := R2.yes not_false HE.out.2
      clear R2
      refine hK.out _ _ (by exact KR.cs) (fun hHeld => ?_)
      clear hK
      (try simp only [p0, p1, p2, p3])
      refine pT 7 ?_
      (try simp only [p0, p1, p2, p3])
      refine pT 8 ?_
      (try simp only [p0, p1, p2, p3])
      refine pT 9 ?_
      (try simp only [p0, p1, p2, p3])
      refine pR1 10 (fun K hK => ?_)
      go_simp
      obtain ⟨V125, e126, hb127, K128, Z129, -⟩ := alloc_new w124 [.bool false, .slice none 0 0, .bool false, .slice none 0 0] 37
      have n130 : g ≠ w124.heap.size := Nat.ne_of_lt (KR.lt)
      have n131 : b109 ≠ w124.heap.size := Nat.ne_of_lt (K105.lt)
      have g132 : w.heap.size ≤ w124.heap.size := BW.size
      replace KR := KR.on hb127
      replace K105 := K105.on hb127
      replace Lc := Lc.kp (Kept.of hb127)
      replace Ld := Ld.kp (Kept.of hb127)
      replace L1 := L1.kp (Kept.of hb127)
      replace L2 := L2.kp (Kept.of hb127)
      replace BW := BW.trans (hb127.mono BW.size)
      clear hb127
      rw [← e126]
      clear e126
      generalize w124.heap.size = b133 at *
      refine hK.out _ _ (by exact KR.cs) (fun hHeld => ?_)
      clear hK
      (try simp only [p0, p1, p2, p3])
      refine pR1 11 (fun K hK => ?_)
      obtain ⟨c134, c135, c136, c137⟩ := K128.c4
      obtain ⟨c138, c139, c140, c141⟩ := Z129.f4
      go_simp
      clear c134 c135 c136 c137 c138 c139 c140 c141
      obtain ⟨V142, hk144⟩ : ∃ V142, V142 = V125.setCells (b133) 0 [.bool f5.n, .slice f5.A f5.xs.length f5.c, .bool f5.m, .slice f5.B f5.ds.length f5.d] := ⟨_, rfl⟩
      have e143 := hk144
      simp only [World.setCells, Nat.zero_add, Nat.reduceAdd] at e143
      have hk145 := Kept.overE hk144 K128 rfl (by simp)
      replace KR := KR.awayE hk144 n130
      replace K105 := K105.awayE hk144 n131
      replace K128 := K128.overE hk144 rfl
      replace Lc := Lc.kp hk145
      replace Ld := Ld.kp hk145
      replace L1 := L1.kp hk145
      replace L2 := L2.kp hk145
      replace BW := Below.putE BW hk144 g132
      clear hk144 hk145
      rw [← e143]
      clear e143
      refine hK.out _ _ (by exact KR.cs) (fun hHeld => ?_)
      clear hK
      (try simp only [p0, p1, p2, p3])
      refine pT 12 ?_
      (try simp only [p0, p1, p2, p3])
      refine wpAnyH_done (by kernel_rfl) (NoPanic.normal ?_) _
      obtain ⟨c146, c147, c148, c149⟩ := K105.c4
      obtain ⟨c150, c151, c152, c153⟩ := K128.c4
      go_wp2_with fail
      clear c146 c147 c148 c149 c150 c151 c152 c153
      refine (r_cmp L1 L2).mono ?_
      rintro _ w154 ⟨rfl, hb⟩
      replace KR := KR.on hb
      replace K105 := K105.on hb
      replace Lc := Lc.kp (Kept.of hb)
      replace Ld := Ld.kp (Kept.of hb)
      replace L1 := L1.kp (Kept.of hb)
      replace L2 := L2.kp (Kept.of hb)
      replace BW := BW.trans (hb.mono BW.size)
      clear hb
      rw [show cmpQ (fl a + fl b) (fl s + fl l) = 0 from (cmpQ_zero _ _).2 HE.out.1]
      go_wp2_with fail
      exact bodyPost_ret (v := .bool true) (by simp [results, Try.results3, go_sem]) rfl ⟨rfl, BW⟩
    · go_simp
      obtain ⟨V124, e125, hb126, K127, Z128, -⟩ := alloc_new Vd123 [.bool false, .slice none 0 0, .bool false, .slice none 0 0] 37
      have n129 : g ≠ Vd123.heap.size := Nat.ne_of_lt (KR.lt)
      have n130 : b109 ≠ Vd123.heap.size := Nat.ne_of_lt (K105.lt)
      have g131 : w.heap.size ≤ Vd123.heap.size := BW.size
      replace KR := KR.on hb126
      replace K105 := K105.on hb126
      replace Lc := Lc.kp (Kept.of hb126)
      replace Ld := Ld.kp (Kept.of hb126)
      replace L1 := L1.kp (Kept.of hb126)
      replace BW := BW.trans (hb126.mono BW.size)
      clear hb126
      rw [← e125]
      clear e125
      generalize Vd123.heap.size = b132 at *
      refine hK.out _ _ (by exact KR.cs) (fun hHeld => ?_)
      clear hK
      (try simp only [p0, p1, p2, p3])
      refine pR1 6 (fun K hK => ?_)
      go_simp
      (go_at_call 10; with_reducible refine (r_add Lc Ld).mono ?_)
      rintro _ w133 ⟨f5, er5, rfl, R2, hb⟩
      (try go_wp2_with fail)
      replace KR := KR.on hb
      replace K105 := K105.on hb
      replace K127 := K127.on hb
      replace Z128 := Z128.on hb
      replace L1 := L1.kp (Kept.of hb)
      replace BW := BW.trans (hb.mono BW.size)
      clear hb
      obtain ⟨rfl, L2⟩ := R2.yes not_false HE.out.2
      clear R2
      refine hK.out _ _ (by exact KR.cs) (fun hHeld => ?_)
      clear hK
      (try simp only [p0, p1, p2, p3])
      refine pT 7 ?_
      (try simp only [p0, p1, p2, p3])
      refine pT 8 ?_
      (try simp only [p0, p1, p2, p3])
      refine pT 9 ?_
      (try simp only [p0, p1, p2, p3])
      refine pR1 11 (fun K hK => ?_)
      obtain ⟨c134, c135, c136, c137⟩ := K127.c4
      obtain ⟨c138, c139, c140, c141⟩ := Z128.f4
      go_simp
      clear c134 c135 c136 c137 c138 c139 c140 c141
      obtain ⟨V142, hk144⟩ : ∃ V142, V142 = w133.setCells (b132) 0 [.bool f5.n, .slice f5.A f5.xs.length f5.c, .bool f5.m, .slice f5.B f5.ds.length f5.d] := ⟨_, rfl⟩
      have e143 := hk144
      simp only [World.setCells, Nat.zero_add, Nat.reduceAdd] at e143
      have hk145 := Kept.overE hk144 K127 rfl (by simp)
      replace KR := KR.awayE hk144 n129
      replace K105 := K105.awayE hk144 n130
      replace K127 := K127.overE hk144 rfl
      replace L1 := L1.kp hk145
      replace L2 := L2.kp hk145
      replace BW := Below.putE BW hk144 g131
      clear hk144 hk145
      rw [← e143]
      clear e143
      refine hK.out _ _ (by exact KR.cs) (fun hHeld => ?_)
      clear hK
      (try simp only [p0, p1, p2, p3])
      refine pT 12 ?_
      (try simp only [p0, p1, p2, p3])
      refine wpAnyH_done (by kernel_rfl) (NoPanic.normal ?_) _
      obtain ⟨c146, c147, c148, c149⟩ := K105.c4
      obtain ⟨c150, c151, c152, c153⟩ := K127.c4
      go_wp2_with fail
      clear c146 c147 c148 c149 c150 c151 c152 c153
      refine (r_cmp L1 L2).mono ?_
      rintro _ w154 ⟨rfl, hb⟩
      replace BW := BW.trans (hb.mono BW.size)
      clear hb
      rw [show cmpQ (fl a + fl b) (fl s + fl l) = 0 from (cmpQ_zero _ _).2 HE.out.1]
      go_wp2_with fail
      exact bodyPost_ret (v := .bool true) (by simp [results, Try.results3, go_sem]) rfl ⟨rfl, BW⟩
end Go.Proofs.Ytmcnhgakaodafaa

namespace Go.Proofs.Ytmcnhgakaodafaa
open Go.RowKit Nb Fl Ieee

set_option maxHeartbeats 3200000 in
set_option maxRecDepth 20000 in
theorem roundWhole_no (a b : Nat) (w : World) (ha : a < 18446744073709551616) (hb : b < 18446744073709551616) (hc : ¬ ∃ s, double.add a b = some s ∧ mg s < 9218868437227405312) :
    Calls Try.prog 3 #[.float .f64 a, .float .f64 b] w (fun e w' => e = .returned (.bool true) ∧ Below w.heap.size w w') := by
  have hadd := fun t x y W => run_add (P := Try.prog) t x y W
  have hsub := fun t x y W => run_sub (P := Try.prog) t x y W
  have hfb := run_bits
  have hN : ∀ W, 9218868437227405312 ≤ mg (fop .add a b W) := fun W => by
    rcases Nat.lt_or_ge (mg (fop .add a b W)) 9218868437227405312 with k | k
    · rcases fop_mg .add a b W with ⟨_, r, hr, e, _⟩ | ⟨h, _⟩
      · rw [e] at k; exact absurd ⟨r, hr, k⟩ hc
      · omega
    · exact k
  have H1 : Hid (Calls Try.prog 4 #[.float .f64 a, .float .f64 b] w fun e w' => e = .returned (.tuple #[.float .f64 (fop .add a b w), .float .f64 0]) ∧ Below w.heap.size w w') := Lib.hid ((two_any a b w ha hb).mono (by
    rintro _ w1 ⟨l, rfl, hw, hT⟩
    obtain rfl : l = 0 := by
      rcases hT with ⟨_, h⟩ | ⟨h, _⟩
      · exact h
      · have := hN w; omega
    exact ⟨rfl, by rw [hw]; exact below_dn (below_self _ _) _⟩))
  have hs1 := hN w
  have hs2 := fop_lt .add a b w
  have HS : Hid (∀ U X : World, Calls Try.prog 7 #[.float .f64 (fop .add a b w), .float .f64 (fop .add a b U)] X fun x w' => x = .returned (.bool true) ∧ w' = X) := Lib.hid (fun U X => sameFloat_any _ _ X (by
    cases h : floatBits .add .f64 a b with
    | some r => left; rw [(fop_some h w).1, (fop_some h U).1]
    | none => right; exact ⟨nan_all h w, nan_all h U⟩))
  obtain ⟨s, hs⟩ : ∃ s, fop .add a b w = s := ⟨_, rfl⟩
  rw [hs] at H1 hs1 hs2 HS
  have H2 : Hid (∀ (p : Nat) (W : World), Box W p [.float .f64 a, .float .f64 b, .float .f64 s, .float .f64 0] → Calls Try.prog 5 #[.slice (some ⟨p, 0, none⟩) 4 4] W (fun e w' => e = .returned (.tuple #[.slice none 0 0, .bool false]) ∧ Below W.heap.size W w')) := Lib.hid (fun p W K => worth4_no K ha hb hs2 (by decide) hs1)
  have HT : Hid (∀ W X : World, Calls Try.prog 8 #[.float .f64 (fop .sub s s W)] X fun e w' => e = .returned (.bool true) ∧ w' = X) := Lib.hid (fun W X => by
    have := isNaN_any (fop .sub s s W) X
    rwa [decide_eq_true (nan_all (op := .sub) (sub_none hs1) W)] at this)
  clear hs hs1 hs2 hN ha hb hc
  have BW : Below w.heap.size w w := Below.refl _ _
  go_enter Try.func3, Try.ntmps3
  go_wp2_with fail
  refine H1.out.mono ?_
  rintro _ w1 ⟨rfl, hb⟩
  replace BW := BW.trans (hb.mono BW.size)
  clear hb H1
  obtain ⟨V, e1, hb1, K1, -, -⟩ := alloc_new w1 [.float .f64 a, .float .f64 b, .float .f64 s, .float .f64 0] 22
  have HW := Lib.hid (H2.out _ V K1)
  replace BW := BW.trans (hb1.mono BW.size)
  clear hb1 H2 K1
  go_wp2_with fail
  rw [← e1]
  clear e1
  refine (HW.out).mono ?_
  rintro _ w2 ⟨rfl, hb⟩
  replace BW := BW.trans (hb.mono BW.size)
  clear hb HW
  go_wp2_with fail
  refine (alive_any _).mono ?_
  rintro _ w3 ⟨rfl, hb⟩
  replace BW := BW.trans (hb.mono BW.size)
  clear hb
  have BD : Hid (∀ n : Nat, Below w.heap.size w (w3.drewN n)) := Lib.hid (fun n => below_dn BW n)
  clear BW
  go_wp2_with fail
  refine (HS.out _ _).mono ?_
  rintro _ w4 ⟨rfl, rfl⟩
  clear HS
  go_wp2_with fail
  refine (HT.out _ _).mono ?_
  rintro _ w5 ⟨rfl, rfl⟩
  clear HT
  go_wp2
  go_ret
  exact ⟨rfl, BD.out _⟩
theorem roundWhole_walk (a b : Nat) (w : World) (ha : a < 18446744073709551616) (hb : b < 18446744073709551616) :
    Calls Try.prog 3 #[.float .f64 a, .float .f64 b] w (fun e w' => e = .returned (.bool true) ∧ Below w.heap.size w w') := by
  by_cases hc : ∃ s, double.add a b = some s ∧ mg s < 9218868437227405312
  · obtain ⟨s, hs, hf⟩ := hc
    exact roundWhole_fin a b s w ha hb hs hf
  · exact roundWhole_no a b w ha hb hc
end Go.Proofs.Ytmcnhgakaodafaa
