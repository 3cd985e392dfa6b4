/-
  Numbers whose blocks may be great (what is read from a text grows by append): division, Ratio, Limbs, Frac, Fit. Conditions: no number longer than memory.
-/
import Derived.Test.YtobbedcaeffbaaaGreatDoorFq7
import Derived.Test.YtobbedcaeffbaaaGreatDoorFre
namespace Go.Proofs.YtobbedcaeffbaaaGreatDoor
open Go.RowKit Nb
set_option maxHeartbeats 8000000 in
/-- The quotient toward nought, and what is left. -/
theorem lquorem_g (n1 n2 : Bool) (A B : Option Addr) (xs ys : List Nat) (c d C : Nat) (w : World) (hx : Sl .u64 w w.heap.size A xs) (hy : Sl .u64 w w.heap.size B ys) (hC : C ≤ maxLen)
    (HQ : ∀ W, Sl .u64 W W.heap.size A xs → Sl .u64 W W.heap.size B ys → Calls Tryz.prog 254 #[.slice A xs.length c, .slice B ys.length d] W (Words2 W (val W64 xs / val W64 ys) (val W64 xs % val W64 ys) C)) :
    Calls Tryz.prog 180 #[big n1 A xs.length c, big n2 B ys.length d] w (Gives2 w ((sv n1 (val W64 xs)).tdiv (sv n2 (val W64 ys))) ((sv n1 (val W64 xs)).tmod (sv n2 (val W64 ys))) C) := by
  have ht := Duo.boxed (n1 := n1) (n2 := n2) (l1 := xs.length) (c := c) (l2 := ys.length) (d := d) hx hy
  have hr0 := Rest.new ((w.alloc (.cells #[.bool n1, .slice A xs.length c] 98)).alloc (.cells #[.bool n2, .slice B ys.length d] 98))
  have hr1 := (Rest.new (((w.alloc (.cells #[.bool n1, .slice A xs.length c] 98)).alloc (.cells #[.bool n2, .slice B ys.length d] 98)).alloc (.cells #[.bool false, .slice none 0 0] 98)))
  have hr0 := hr0.on (W' := ((((w.alloc (.cells #[.bool n1, .slice A xs.length c] 98)).alloc (.cells #[.bool n2, .slice B ys.length d] 98)).alloc (.cells #[.bool false, .slice none 0 0] 98)).alloc (.cells #[.bool false, .slice none 0 0] 98))) (by go_grown)
  have hall := Duo.keep (W' := ((((w.alloc (.cells #[.bool n1, .slice A xs.length c] 98)).alloc (.cells #[.bool n2, .slice B ys.length d] 98)).alloc (.cells #[.bool false, .slice none 0 0] 98)).alloc (.cells #[.bool false, .slice none 0 0] 98))) (ht.all) (by go_grown)
  rw [show ((w.alloc (.cells #[.bool n1, .slice A xs.length c] 98)).alloc (.cells #[.bool n2, .slice B ys.length d] 98)).heap.size = w.heap.size + 1 + 1 by go_size] at hr0
  rw [show (((w.alloc (.cells #[.bool n1, .slice A xs.length c] 98)).alloc (.cells #[.bool n2, .slice B ys.length d] 98)).alloc (.cells #[.bool false, .slice none 0 0] 98)).heap.size = w.heap.size + 1 + 1 + 1 by go_size] at hr1
  clear ht
  go_enter Tryz.func180, Tryz.ntmps180
  go_wp2_with fail
  generalize hW : ((((w.alloc (.cells #[.bool n1, .slice A xs.length c] 98)).alloc (.cells #[.bool n2, .slice B ys.length d] 98)).alloc (.cells #[.bool false, .slice none 0 0] 98)).alloc (.cells #[.bool false, .slice none 0 0] 98)) = W at *
  clear hW
  go_wp2_with fail
  refine (HQ _ (Duo.sa' hall) (Duo.sb' hall)).mono ?_
  rintro e WQ ⟨V, zs, k, U, rs, l, rfl, hs1, hd1, hn1, hv1, hk1, hk2, hs2, hd2, hn2, hv2, hl1, hl2, hbq⟩
  have hall1 := Duo.keep hall hbq
  have hp0 : Pair w WQ WQ (w.heap.size + 1 + 1) (w.heap.size + 1 + 1 + 1) := ⟨hall1.1.below, Below.refl _ _, hr0.on hbq, hr1.on hbq⟩
  have hp0' : Pair w WQ WQ.drew (w.heap.size + 1 + 1) (w.heap.size + 1 + 1 + 1) := ⟨hall1.1.below.drew, (Below.refl _ _).drew, hp0.one.drew, hp0.two.drew⟩
  have hm1 : zs.length ≤ maxLen := by omega
  have hm2 : rs.length ≤ maxLen := by omega
  clear hall hr0 hr1
  go_wp2_with fail
  go_region_held3 (fun W' => Duo w W' w.heap.size (w.heap.size + 1) n1 n2 A B xs ys xs.length c ys.length d ∧ W'.cell? ⟨w.heap.size, 0, none⟩ = some (.bool n1) ∧ W'.cell? ⟨w.heap.size, 1, none⟩ = some (.slice A xs.length c) ∧ W'.cell? ⟨w.heap.size + 1, 0, none⟩ = some (.bool n2) ∧ W'.cell? ⟨w.heap.size + 1, 1, none⟩ = some (.slice B ys.length d))
    (first | exact hall1 | exact Duo.keep hall1 ((Below.refl _ _).drew) | exact Duo.keep (by assumption) (by assumption) | exact Duo.keep (by assumption) ((Below.refl _ _).drew) | exact Duo.put (by assumption) (by omega) (by omega) (by omega) _ _)
    (first
      | (go_at_call 174; refine (made_any _ _ _ _ _ (by first | exact hm1 | exact hm2)).mono ?_; rintro e w2 ⟨rfl, hb2⟩
         have hp : Pair w WQ w2 (w.heap.size + 1 + 1) (w.heap.size + 1 + 1 + 1) := Pair.on (by assumption) hb2
         have g0 := hp.one.r0
         have g1 := hp.one.r1
         have g2 := hp.one.f0
         have g3 := hp.one.f1
         have g4 := hp.two.r0
         have g5 := hp.two.r1
         have g6 := hp.two.f0
         have g7 := hp.two.f1))
  have hz2 := (((hs1.below hp.more).more hp.more.size).put hp.one (.bool (!(n1 == n2) && decide (0 < zs.length))) (.slice V zs.length k)).put (hp.two.put (r := w.heap.size + 1 + 1) (by omega) (.bool (!(n1 == n2) && decide (0 < zs.length))) (.slice V zs.length k)) (.bool (n1 && decide (0 < rs.length))) (.slice U rs.length l)
  have hr2 := (((hs2.below hp.more).more hp.more.size).put hp.one (.bool (!(n1 == n2) && decide (0 < zs.length))) (.slice V zs.length k)).put (hp.two.put (r := w.heap.size + 1 + 1) (by omega) (.bool (!(n1 == n2) && decide (0 < zs.length))) (.slice V zs.length k)) (.bool (n1 && decide (0 < rs.length))) (.slice U rs.length l)
  have hbf := (((hp.below.setCell (p := ⟨w.heap.size + 1 + 1, 0, none⟩) (by show _ ≤ w.heap.size + 1 + 1; omega) (.bool (!(n1 == n2) && decide (0 < zs.length)))).setCell (p := ⟨w.heap.size + 1 + 1, 1, none⟩) (by show _ ≤ w.heap.size + 1 + 1; omega) (.slice V zs.length k)).setCell (p := ⟨w.heap.size + 1 + 1 + 1, 0, none⟩) (by show _ ≤ w.heap.size + 1 + 1 + 1; omega) (.bool (n1 && decide (0 < rs.length)))).setCell (p := ⟨w.heap.size + 1 + 1 + 1, 1, none⟩) (by show _ ≤ w.heap.size + 1 + 1 + 1; omega) (.slice U rs.length l)
  go_wp2
  refine bodyPost_ret (v := .tuple #[big (!(n1 == n2) && decide (0 < zs.length)) V zs.length k, big (n1 && decide (0 < rs.length)) U rs.length l]) (by simp [results, Tryz.results180, go_sem, g0, g1, g4, g5]) rfl ?_
  refine ⟨_, V, zs, k, _, U, rs, l, rfl, ⟨by simpa using hz2, hd1, hn1, sign_made, hk1, hk2⟩, ?_, ⟨by simpa using hr2, hd2, hn2, sign_made, hl1, hl2⟩, ?_, hbf⟩
  · rw [sv_made, hv1]; exact sv_quo n1 n2 _ _
  · rw [sv_made, hv2]; exact sv_rem n1 n2 _ _
set_option maxHeartbeats 4000000 in
/-- A division whose rest is not asked. -/
theorem over_g (n1 n2 : Bool) (A B : Option Addr) (xs ys : List Nat) (c d : Nat) (w : World) (bx : Bg w n1 A xs c maxLen) (bY : Bg w n2 B ys d maxLen) (hne : ys ≠ []) (hC : xs.length + 1 ≤ 17592186043904) (hD : ys.length ≤ 17592186043904) :
    Calls Tryz.prog 172 #[big n1 A xs.length c, big n2 B ys.length d] w (Gives w ((sv n1 (val W64 xs)).tdiv (sv n2 (val W64 ys))) maxLen) := by
  have l1 := bx.len
  have l2 := bx.cap
  have HQ := Lib.hid (fun (W : World) (h1 : Sl .u64 W W.heap.size A xs) (h2 : Sl .u64 W W.heap.size B ys) => lquorem_g n1 n2 A B xs ys c d maxLen W h1 h2 (Nat.le_refl _) (fun W h1 h2 => quotient_any A B xs ys c d maxLen W h1 h2 bx.dig bY.dig bx.norm bY.norm (by omega) (by omega) l1 l2 (by unfold maxLen; omega) hne))
  have hr := Rest.new ((w.alloc (.cells #[.bool n1, .slice A xs.length c] 98)).alloc (.cells #[.bool n2, .slice B ys.length d] 98))
  rw [show ((w.alloc (.cells #[.bool n1, .slice A xs.length c] 98)).alloc (.cells #[.bool n2, .slice B ys.length d] 98)).heap.size = w.heap.size + 1 + 1 by go_size] at hr
  have hb0 : Below w.heap.size w (((w.alloc (.cells #[.bool n1, .slice A xs.length c] 98)).alloc (.cells #[.bool n2, .slice B ys.length d] 98)).alloc (.cells #[.bool false, .slice none 0 0] 98)) := by go_grown
  have hx := bx.sl
  have hy := bY.sl
  have HB := Lib.hid hb0
  have HR := Lib.hid hr
  clear l1 l2 hb0 hr bx bY hC hD hne
  go_enter Tryz.func172, Tryz.ntmps172
  go_wp2_with fail
  generalize (((w.alloc (.cells #[.bool n1, .slice A xs.length c] 98)).alloc (.cells #[.bool n2, .slice B ys.length d] 98)).alloc (.cells #[.bool false, .slice none 0 0] 98)) = W at *
  refine (HQ.out W ((hx.below HB.out).more HB.out.size) ((hy.below HB.out).more HB.out.size)).mono ?_
  rintro e w1 ⟨n, V, zs, k, m, U, rs, k2, rfl, hZ, hv, _, _, hb⟩
  have hb1 := HB.out.trans (hb.mono HB.out.size)
  have h1 := HR.out.on hb
  have hb2 : Below w1.heap.size w1 ((w1.alloc (.cells #[.bool n, .slice V zs.length k] 98)).alloc (.cells #[.bool m, .slice U rs.length k2] 98)) := by go_grown
  have h2 := h1.on hb2
  have g0 := h2.r0
  have g1 := h2.r1
  have g2 := h2.f0
  have g3 := h2.f1
  have hL := h2.laid (hb1.trans (hb2.mono hb1.size)) (by omega) (hZ.below hb2)
  have HL := Lib.hid (And.intro hv hL)
  clear hv hL hb1 hb2 h1 h2 hZ
  go_wp2
  exact bodyPost_ret (v := big n V zs.length k) (by simp [results, Tryz.results172, go_sem, g0, g1]) rfl ⟨n, V, zs, k, rfl, HL.out.2.1, HL.out.1, HL.out.2.2⟩
theorem over_gn {W : World} {X Y : Int} {n m : Bool} {A B : Option Addr} {xs ys : List Nat} {c d L : Nat} (h : Nw W X maxLen n A xs c) (k : Nw W Y maxLen m B ys d) (hp : Y ≠ 0) (hC : L + 1 ≤ 17592186043904) (hx : xs.length ≤ L) (hD : ys.length ≤ 17592186043904) :
    Calls Tryz.prog 172 #[big n A xs.length c, big m B ys.length d] W (GivesG W (X.tdiv Y) L) := by
  refine (over_g n m A B xs ys c d W h.bg k.bg (k.ne hp) (by omega) hD).mono ?_
  rintro e w' ⟨n1, V, zs, k1, rfl, hB, hv, hb⟩
  refine ⟨n1, V, zs, k1, rfl, ⟨hB, by rw [hv, h.v, k.v]⟩, ?_, hb⟩
  refine Nat.le_trans (norm_len_le (B := W64) (by decide) hB.norm h.bg.dig ?_) hx
  have h1 := congrArg Int.natAbs hv
  rw [sv_abs, Int.natAbs_tdiv, sv_abs] at h1
  rw [h1]
  exact Nat.div_le_self _ _
theorem int_g {W : World} {Z : Int} {C c : Nat} {n : Bool} {A : Option Addr} {xs : List Nat} (h : Nw W Z C n A xs c) (hF : Fits Z) (hC : xs.length * 8 ≤ 140737488351232) : Calls Tryz.prog 190 #[big n A xs.length c] W (GivesL32 W Z) := by
  have hv := val_unpack h.bg.dig h.bg.norm
  refine (int_any n A xs c W h.bg.sl h.bg.dig h.bg.norm (by omega)).mono ?_
  rintro e w' ⟨g, rfl, hrow, _, hb⟩
  refine ⟨n, some ⟨g, 0, none⟩, unpack xs, _, rfl, ⟨⟨sl_row hrow, dig_unpack xs, ⟨?_, norm_unpack h.bg.dig h.bg.norm, fun e => ?_⟩⟩, by rw [hv]; exact h.v⟩, hb⟩
  · rw [unpack_length]
    refine (limbsL_le h.bg.dig h.bg.norm).2 ?_
    have : Fits (sv n (val W64 xs)) := by rw [h.v]; exact hF
    unfold Fits at this
    rwa [sv_abs] at this
  · apply h.bg.sign
    rw [e] at hv
    exact (norm_zero (B := W64) (by decide) h.bg.norm).1 (by simpa [val] using hv.symm)
theorem limbs_g {W : World} {Z : Int} {C c L : Nat} {n : Bool} {A : Option Addr} {xs : List Nat} (h : Nw W Z C n A xs c) (hl : xs.length ≤ L) (hC : L * 8 ≤ 140737488351232) : Calls Tryz.prog 251 #[big n A xs.length c] W fun e w' => (∃ k : Nat, e = .returned (.int .i64 k) ∧ (k ≤ 2048 ↔ Fits Z) ∧ k ≤ 2 * L + 1) ∧ Below W.heap.size W w' := by
  refine (limbs_any n A xs c W h.bg.sl h.bg.dig (by omega)).mono ?_
  rintro e w' ⟨rfl, hb⟩
  refine ⟨⟨limbsL xs, rfl, ?_, ?_⟩, hb⟩
  · rw [limbsL_le h.bg.dig h.bg.norm, ← h.v]
    unfold Fits
    rw [sv_abs]
  · have := lenL_le h.bg.dig
    unfold limbsL
    omega
/-- It answers this fraction; its blocks may be great, its numbers are no longer than L. -/
def GivesQG (w : World) (q : Rat) (L : Nat) (e : Ending) (w' : World) : Prop := ∃ (n : Bool) (A : Option Addr) (xs : List Nat) (c : Nat) (B : Option Addr) (ds : List Nat) (d : Nat),
  e = .returned (frq n A xs.length c false B ds.length d) ∧ Lq w' q n A xs c B ds d maxLen ∧ xs.length ≤ L ∧ ds.length ≤ L ∧ Below w.heap.size w w'
set_option maxHeartbeats 8000000 in
set_option maxRecDepth 20000 in
theorem ratio_g (X Y : Int) (n : Bool) (A B : Option Addr) (xs ds : List Nat) (c d L : Nat) (w : World) (h : Nw w X maxLen n A xs c) (k : Nw w Y maxLen false B ds d) (hY : Y ≠ 0) (hx : xs.length ≤ L) (hd : ds.length ≤ L) (hC : L ≤ 1759218604390) :
  Calls Tryz.prog 60 #[big n A xs.length c, big false B ds.length d] w (GivesQG w (Rat.divInt X Y) L) := by
 obtain ⟨V, hV, BW, hz, RR, KX, KY, FX, FY⟩ := box_ints w n A xs.length c false B ds.length d 98 98 100
 have Xn := h.on BW
 have Yn := k.on BW
 have HC := Lib.hid (And.intro hC (And.intro hx hd))
 clear h k hC hx hd hz
 have hYn : ¬ Y < 0 := by have := Yn.v; rw [← this]; show ¬ ((val W64 ds : Nat) : Int) < 0; omega
 obtain ⟨G, hG⟩ : ∃ G, Nat.gcd (X : Int).natAbs (Y : Int).natAbs = G := ⟨_, rfl⟩
 have hG1 : 0 < G := by rw [← hG]; exact Nat.gcd_pos_of_pos_right _ (by omega)
 have hG0 : (G : Int) ≠ 0 := by omega
 have hr := rat_ratio X Y hY (X) (Y) (by rw [if_neg hYn]) (by rw [if_neg hYn]) G hG.symm
 have eA := hr.1.symm
 have eB := hr.2.symm
 have HE := Lib.hid (And.intro eA eB)
 have HH := Lib.hid hG
 have HG0 := Lib.hid hG0
 clear hr eA eB hG hG0 hG1 hY hYn
 have KX_0 := KX.c 0 _ rfl
 have KX_1 := KX.c 1 _ rfl
 have KY_0 := KY.c 0 _ rfl
 have KY_1 := KY.c 1 _ rfl
 go_enter Tryz.func60, Tryz.ntmps60
 go_wp2_with fail
 clear KX_0 KX_1 KY_0 KY_1
 rw [← hV]
 clear hV FX FY
 refine (gcd_n (L := L) Xn Yn HC.out.2.1 HC.out.2.2 (by have := HC.out.1; omega) HH.out).mono ?_
 rintro _ w3 ⟨gn, gA, gz, gk, rfl, Ng, gl, hb⟩
 replace KX := KX.on hb
 replace KY := KY.on hb
 replace Xn := Xn.on hb
 replace Yn := Yn.on hb
 replace RR := RR.on hb
 replace BW := BW.trans (hb.mono BW.size)
 clear hb
 have hb : Below w3.heap.size w3 (w3.alloc (.cells #[.bool gn, .slice gA gz.length gk] 98)) := by go_grown
 have KG := Box.new w3 [.bool gn, .slice gA gz.length gk] 98
 have nGKX : w.heap.size ≠ w3.heap.size := Nat.ne_of_lt KX.lt
 have nGKY : w.heap.size + 1 ≠ w3.heap.size := Nat.ne_of_lt KY.lt
 have nGRR : w.heap.size + 1 + 1 ≠ w3.heap.size := Nat.ne_of_lt RR.lr
 replace KX := KX.on hb
 replace KY := KY.on hb
 replace Xn := Xn.on hb
 replace Yn := Yn.on hb
 replace Ng := Ng.on hb
 replace RR := RR.on hb
 replace BW := BW.trans (hb.mono BW.size)
 clear hb
 have KX_0 := KX.c 0 _ rfl
 have KX_1 := KX.c 1 _ rfl
 have KY_0 := KY.c 0 _ rfl
 have KY_1 := KY.c 1 _ rfl
 have KG_0 := KG.c 0 _ rfl
 have KG_1 := KG.c 1 _ rfl
 go_wp2_with fail
 clear KX_0 KX_1 KY_0 KY_1 KG_0 KG_1
 generalize (w3.alloc (.cells #[.bool gn, .slice gA gz.length gk] 98)) = VG at *
 generalize w3.heap.size = pG at *
 refine wp_region_noPanic ?_
 have hb : Below VG.heap.size VG VG.drew := (Below.refl _ _).drew
 replace KX := KX.on hb
 replace KY := KY.on hb
 replace KG := KG.on hb
 replace Xn := Xn.on hb
 replace Yn := Yn.on hb
 replace Ng := Ng.on hb
 replace RR := RR.on hb
 replace BW := BW.trans (hb.mono BW.size)
 clear hb
 refine wp_region_held_drew (S := (fun wx => wx.cell? ⟨w.heap.size, 0, none⟩ = some (.bool n) ∧ wx.cell? ⟨w.heap.size, 1, none⟩ = some (.slice A xs.length c) ∧ wx.cell? ⟨w.heap.size + 1, 0, none⟩ = some (.bool false) ∧ wx.cell? ⟨w.heap.size + 1, 1, none⟩ = some (.slice B ds.length d) ∧ wx.cell? ⟨pG, 0, none⟩ = some (.bool gn) ∧ wx.cell? ⟨pG, 1, none⟩ = some (.slice gA gz.length gk))) (by kernel_rfl) (by exact KX.a2 (KY.a2 KG.b2)) (fun hHeld => ?_)
 generalize VG.drew = Vd at *
 refine pT 0 ?_
 (try simp only [p0, p1, p2, p3])
 refine pT 1 ?_
 (try simp only [p0, p1, p2, p3])
 refine pT 3 ?_
 (try simp only [p0, p1, p2, p3])
 refine pT 4 ?_
 (try simp only [p0, p1, p2, p3])
 refine pR1 2 (fun K hK => ?_)
 go_simp
 (go_at_call 172; with_reducible refine (over_gn (L := L) Xn Ng HG0.out (by have := HC.out.1; omega) HC.out.2.1 (by have := HC.out.1; omega)).mono ?_)
 rintro _ wc0 ⟨an, aA, az, ak, rfl, Na, la, hb⟩
 (try go_wp2_with fail)
 replace KX := KX.on hb
 replace KY := KY.on hb
 replace KG := KG.on hb
 replace Yn := Yn.on hb
 replace Ng := Ng.on hb
 replace RR := RR.on hb
 replace BW := BW.trans (hb.mono BW.size)
 clear hb
 refine hK.out _ _ (by exact KX.a2 (KY.a2 KG.b2)) (fun hHeld => ?_)
 clear hK
 (try simp only [p0, p1, p2, p3])
 refine pR1 5 (fun K hK => ?_)
 go_simp
 (go_at_call 172; with_reducible refine (over_gn (L := L) Yn Ng HG0.out (by have := HC.out.1; omega) HC.out.2.2 (by have := HC.out.1; omega)).mono ?_)
 rintro _ wc1 ⟨bn, bA, bz, bk, rfl, Nb, lb, hb⟩
 (try go_wp2_with fail)
 replace KX := KX.on hb
 replace KY := KY.on hb
 replace KG := KG.on hb
 replace Na := Na.on hb
 replace RR := RR.on hb
 replace BW := BW.trans (hb.mono BW.size)
 clear hb
 refine hK.out _ _ (by exact KX.a2 (KY.a2 KG.b2)) (fun hHeld => ?_)
 clear hK
 (try simp only [p0, p1, p2, p3])
 refine pT 6 ?_
 (try simp only [p0, p1, p2, p3])
 replace Na := Na.eq HE.out.1
 replace Nb := Nb.eq HE.out.2
 obtain ⟨rfl, HQ⟩ := Lq.mk' Na Nb
 clear HQ
 have y0 := RR.r0
 have y1 := RR.r1
 have y2 := RR.r2
 have y3 := RR.r3
 have y4 := RR.f0
 have y5 := RR.f1
 have y6 := RR.f2
 have y7 := RR.f3
 refine pR1 7 (fun K hK => ?_)
 go_simp
 replace KX := KX.far4 (g := w.heap.size + 1 + 1) (by first | omega | exact nXRR.symm) (.bool an) (.slice aA az.length ak) (.bool false) (.slice bA bz.length bk)
 replace KY := KY.far4 (g := w.heap.size + 1 + 1) (by first | omega | exact nYRR.symm) (.bool an) (.slice aA az.length ak) (.bool false) (.slice bA bz.length bk)
 replace KG := KG.far4 (g := w.heap.size + 1 + 1) (by first | omega | exact nGRR.symm) (.bool an) (.slice aA az.length ak) (.bool false) (.slice bA bz.length bk)
 replace Na := Na.put4 RR (.bool an) (.slice aA az.length ak) (.bool false) (.slice bA bz.length bk)
 replace Nb := Nb.put4 RR (.bool an) (.slice aA az.length ak) (.bool false) (.slice bA bz.length bk)
 replace BW := Below.putq BW (r := w.heap.size + 1 + 1) (by omega) (.bool an) (.slice aA az.length ak) (.bool false) (.slice bA bz.length bk)
 have KR := Box.laidQ RR (.bool an) (.slice aA az.length ak) (.bool false) (.slice bA bz.length bk)
 clear RR y0 y1 y2 y3 y4 y5 y6 y7
 generalize ((((wc1.setCell ⟨w.heap.size + 1 + 1, 0, none⟩ (.bool an)).setCell ⟨w.heap.size + 1 + 1, 1, none⟩ (.slice aA az.length ak)).setCell ⟨w.heap.size + 1 + 1, 2, none⟩ (.bool false)).setCell ⟨w.heap.size + 1 + 1, 3, none⟩ (.slice bA bz.length bk)) = wsR at *
 refine hK.out _ _ (by exact KX.a2 (KY.a2 KG.b2)) (fun hHeld => ?_)
 clear hK
 (try simp only [p0, p1, p2, p3])
 have y0 := KR.c 0 _ rfl
 have y1 := KR.c 1 _ rfl
 have y2 := KR.c 2 _ rfl
 have y3 := KR.c 3 _ rfl
 refine wpAnyH_done (by kernel_rfl) (NoPanic.normal ?_) _
 go_wp2
 exact bodyPost_ret (v := frq an aA az.length ak false bA bz.length bk) (by simp [results, Tryz.results60, go_sem, y0, y1, y2, y3]) rfl ⟨_, _, _, _, _, _, _, rfl, (Lq.mk' Na Nb).2, la, lb, BW⟩
set_option maxHeartbeats 8000000 in
set_option maxRecDepth 20000 in
theorem ffrac_g (q : Rat) (n : Bool) (A B : Option Addr) (xs ds : List Nat) (c d L : Nat) (w : World) (h : Lq w q n A xs c B ds d maxLen) (hF : FitsQ q) (hx : xs.length ≤ L) (hd : ds.length ≤ L) (hC : L ≤ 1759218604390) :
    Calls Tryz.prog 177 #[frq n A xs.length c false B ds.length d] w (GivesF w q) := by
  obtain ⟨V, hV, BW, hz, RR, c0, c1, c2, c3⟩ := box_one w n A xs.length c false B ds.length d 100 27
  have KX := Box.of4 (by omega) c0 c1 c2 c3
  have Xn := h.x.on BW
  have Xd := h.y.on BW
  have HF := Lib.hid (show Fits q.num ∧ Fits (q.den : Int) from hF)
  have HC := Lib.hid (And.intro hC (And.intro hx hd))
  clear h c0 c1 c2 c3 hz hF hC hx hd
  have KX_0 := KX.c 0 _ rfl
  have KX_1 := KX.c 1 _ rfl
  have KX_2 := KX.c 2 _ rfl
  have KX_3 := KX.c 3 _ rfl
  go_enter Tryz.func177, Tryz.ntmps177
  go_wp2_with fail
  clear KX_0 KX_1 KX_2 KX_3
  rw [← hV]
  clear hV
  refine wp_region_noPanic ?_
  have hb : Below V.heap.size V V.drew := (Below.refl _ _).drew
  replace KX := KX.on hb
  replace Xn := Xn.on hb
  replace Xd := Xd.on hb
  replace RR := RR.on hb
  replace BW := BW.trans (hb.mono BW.size)
  clear hb
  refine wp_region_held_drew (S := (fun wx => wx.cell? ⟨w.heap.size, 0, none⟩ = some (.bool n) ∧ wx.cell? ⟨w.heap.size, 1, none⟩ = some (.slice A xs.length c) ∧ wx.cell? ⟨w.heap.size, 2, none⟩ = some (.bool false) ∧ wx.cell? ⟨w.heap.size, 3, none⟩ = some (.slice B ds.length d))) (by kernel_rfl) (by exact KX.b4) (fun hHeld => ?_)
  generalize V.drew = Vd at *
  refine pT 0 ?_
  (try simp only [p0, p1, p2, p3])
  refine pT 1 ?_
  (try simp only [p0, p1, p2, p3])
  refine pT 3 ?_
  (try simp only [p0, p1, p2, p3])
  refine pT 4 ?_
  (try simp only [p0, p1, p2, p3])
  refine pR1 2 (fun K hK => ?_)
  go_simp
  (go_at_call 190; with_reducible refine (int_g Xn HF.out.1 (by have := HC.out.1; have := HC.out.2.1; omega)).mono ?_)
  rintro _ wc0 ⟨un, uA, uz, uk, rfl, Nu, hb⟩
  (try go_wp2_with fail)
  replace KX := KX.on hb
  replace Xn := Xn.on hb
  replace Xd := Xd.on hb
  replace RR := RR.on hb
  replace BW := BW.trans (hb.mono BW.size)
  clear hb
  refine hK.out _ _ (by exact KX.b4) (fun hHeld => ?_)
  clear hK
  (try simp only [p0, p1, p2, p3])
  refine pR1 5 (fun K hK => ?_)
  go_simp
  (go_at_call 190; with_reducible refine (int_g Xd HF.out.2 (by have := HC.out.1; have := HC.out.2.2; omega)).mono ?_)
  rintro _ wc1 ⟨vn, vA, vz, vk, rfl, Nv, hb⟩
  (try go_wp2_with fail)
  replace KX := KX.on hb
  replace Xn := Xn.on hb
  replace Xd := Xd.on hb
  replace Nu := Nu.on hb
  replace RR := RR.on hb
  replace BW := BW.trans (hb.mono BW.size)
  clear hb
  refine hK.out _ _ (by exact KX.b4) (fun hHeld => ?_)
  clear hK
  (try simp only [p0, p1, p2, p3])
  refine pT 6 ?_
  (try simp only [p0, p1, p2, p3])
  obtain ⟨rfl, HQ⟩ := Lf.mk' Nu Nv
  clear HQ
  have y0 := RR.r0
  have y1 := RR.r1
  have y2 := RR.r2
  have y3 := RR.r3
  have y4 := RR.f0
  have y5 := RR.f1
  have y6 := RR.f2
  have y7 := RR.f3
  refine pR1 7 (fun K hK => ?_)
  go_simp
  replace KX := KX.far4 (g := w.heap.size + 1) (by first | omega | exact nXRR.symm) (.bool un) (.slice uA uz.length uk) (.bool false) (.slice vA vz.length vk)
  replace Xn := Xn.put4 RR (.bool un) (.slice uA uz.length uk) (.bool false) (.slice vA vz.length vk)
  replace Xd := Xd.put4 RR (.bool un) (.slice uA uz.length uk) (.bool false) (.slice vA vz.length vk)
  replace Nu := Nu.put4 RR (.bool un) (.slice uA uz.length uk) (.bool false) (.slice vA vz.length vk)
  replace Nv := Nv.put4 RR (.bool un) (.slice uA uz.length uk) (.bool false) (.slice vA vz.length vk)
  replace BW := Below.putq BW (r := w.heap.size + 1) (by omega) (.bool un) (.slice uA uz.length uk) (.bool false) (.slice vA vz.length vk)
  have KR := Box.laidQ RR (.bool un) (.slice uA uz.length uk) (.bool false) (.slice vA vz.length vk)
  clear RR y0 y1 y2 y3 y4 y5 y6 y7
  generalize ((((wc1.setCell ⟨w.heap.size + 1, 0, none⟩ (.bool un)).setCell ⟨w.heap.size + 1, 1, none⟩ (.slice uA uz.length uk)).setCell ⟨w.heap.size + 1, 2, none⟩ (.bool false)).setCell ⟨w.heap.size + 1, 3, none⟩ (.slice vA vz.length vk)) = wsR at *
  refine hK.out _ _ (by exact KX.b4) (fun hHeld => ?_)
  clear hK
  (try simp only [p0, p1, p2, p3])
  have y0 := KR.c 0 _ rfl
  have y1 := KR.c 1 _ rfl
  have y2 := KR.c 2 _ rfl
  have y3 := KR.c 3 _ rfl
  refine wpAnyH_done (by kernel_rfl) (NoPanic.normal ?_) _
  go_wp2
  exact bodyPost_ret (v := frq un uA uz.length uk false vA vz.length vk) (by simp [results, Tryz.results177, go_sem, y0, y1, y2, y3]) rfl ⟨_, _, _, _, _, _, _, rfl, (Lf.mk' Nu Nv).2, BW⟩
set_option maxHeartbeats 8000000 in
set_option maxRecDepth 20000 in
theorem flimbs_g (q : Rat) (n : Bool) (A B : Option Addr) (xs ds : List Nat) (c d L : Nat) (w : World) (h : Lq w q n A xs c B ds d maxLen) (hx : xs.length ≤ L) (hd : ds.length ≤ L) (hC : L ≤ 1759218604390) :
    Calls Tryz.prog 176 #[frq n A xs.length c false B ds.length d] w (fun e w' => (∃ k : Nat, e = .returned (.int .i64 k) ∧ (k ≤ 2048 ↔ FitsQ q) ∧ k ≤ 2 * L + 1) ∧ Below w.heap.size w w') := by
  obtain ⟨V, hV⟩ : ∃ V, V = (w.alloc (.cells #[.bool n, .slice A xs.length c, .bool false, .slice B ds.length d] 100)) := ⟨_, rfl⟩
  have BW : Below w.heap.size w V := by rw [hV]; go_grown
  have KX : Box V w.heap.size [.bool n, .slice A xs.length c, .bool false, .slice B ds.length d] := by rw [hV]; exact Box.new w _ _
  have Xn := h.x.on BW
  have Xd := h.y.on BW
  have HC := Lib.hid (And.intro hC (And.intro hx hd))
  clear h hC hx hd
  have KX_0 := KX.c 0 _ rfl
  have KX_1 := KX.c 1 _ rfl
  have KX_2 := KX.c 2 _ rfl
  have KX_3 := KX.c 3 _ rfl
  go_enter Tryz.func176, Tryz.ntmps176
  go_wp2_with fail
  clear KX_0 KX_1 KX_2 KX_3
  rw [← hV]
  clear hV
  refine wp_region_noPanic ?_
  have hb : Below V.heap.size V V.drew := (Below.refl _ _).drew
  replace KX := KX.on hb
  replace Xn := Xn.on hb
  replace Xd := Xd.on hb
  replace BW := BW.trans (hb.mono BW.size)
  clear hb
  refine wp_region_held_drew (S := (fun wx => wx.cell? ⟨w.heap.size, 0, none⟩ = some (.bool n) ∧ wx.cell? ⟨w.heap.size, 1, none⟩ = some (.slice A xs.length c) ∧ wx.cell? ⟨w.heap.size, 2, none⟩ = some (.bool false) ∧ wx.cell? ⟨w.heap.size, 3, none⟩ = some (.slice B ds.length d))) (by kernel_rfl) (by exact KX.b4) (fun hHeld => ?_)
  generalize V.drew = Vd at *
  refine pT 0 ?_
  (try simp only [p0, p1, p2, p3])
  refine pT 1 ?_
  (try simp only [p0, p1, p2, p3])
  refine pT 3 ?_
  (try simp only [p0, p1, p2, p3])
  refine pT 4 ?_
  (try simp only [p0, p1, p2, p3])
  refine pR1 2 (fun K hK => ?_)
  go_simp
  (go_at_call 251; with_reducible refine (limbs_g Xn HC.out.2.1 (by have := HC.out.1; omega)).mono ?_)
  rintro _ wc0 ⟨⟨k1, rfl, hk1, hl1⟩, hb⟩
  (try go_wp2_with fail)
  replace KX := KX.on hb
  replace Xd := Xd.on hb
  replace BW := BW.trans (hb.mono BW.size)
  clear hb
  refine hK.out _ _ (by exact KX.b4) (fun hHeld => ?_)
  clear hK
  (try simp only [p0, p1, p2, p3])
  refine pR1 5 (fun K hK => ?_)
  go_simp
  (go_at_call 251; with_reducible refine (limbs_g Xd HC.out.2.2 (by have := HC.out.1; omega)).mono ?_)
  rintro _ wc1 ⟨⟨k2, rfl, hk2, hl2⟩, hb⟩
  (try go_wp2_with fail)
  replace KX := KX.on hb
  replace BW := BW.trans (hb.mono BW.size)
  clear hb
  refine hK.out _ _ (by exact KX.b4) (fun hHeld => ?_)
  clear hK
  (try simp only [p0, p1, p2, p3])
  have hm : max (k1 : Int) (k2 : Int) = ((max k1 k2 : Nat) : Int) := by omega
  refine pR1 6 (fun K hK => ?_)
  go_simp
  refine hK.out _ _ (by exact KX.b4) (fun hHeld => ?_)
  clear hK
  (try simp only [p0, p1, p2, p3])
  refine pT 7 ?_
  (try simp only [p0, p1, p2, p3])
  refine wpAnyH_done (by kernel_rfl) (NoPanic.normal ?_) _
  go_wp2
  go_ret
  exact ⟨⟨max k1 k2, rfl, by unfold FitsQ; rw [← hk1, ← hk2]; omega, by omega⟩, BW⟩
set_option maxHeartbeats 8000000 in
set_option maxRecDepth 20000 in
theorem ffit_g (q : Rat) (n : Bool) (A B : Option Addr) (xs ds : List Nat) (c d L : Nat) (w : World) (h : Lq w q n A xs c B ds d maxLen) (hx : xs.length ≤ L) (hd : ds.length ≤ L) (hC : L ≤ 1759218604390) :
    Calls Tryz.prog 63 #[frq n A xs.length c false B ds.length d] w (ToldQ w q) := by
  obtain ⟨V, hV, BW, hz, RR, c0, c1, c2, c3⟩ := box_one w n A xs.length c false B ds.length d 100 27
  have KX := Box.of4 (by omega) c0 c1 c2 c3
  have LX := h.on BW
  have HC := Lib.hid (And.intro hC (And.intro hx hd))
  clear h hC hx hd c0 c1 c2 c3 hz
  have KX_0 := KX.c 0 _ rfl
  have KX_1 := KX.c 1 _ rfl
  have KX_2 := KX.c 2 _ rfl
  have KX_3 := KX.c 3 _ rfl
  go_enter Tryz.func63, Tryz.ntmps63
  go_wp2_with fail
  clear KX_0 KX_1 KX_2 KX_3
  rw [← hV]
  clear hV
  refine (flimbs_g q _ _ _ _ _ _ _ L _ LX HC.out.2.1 HC.out.2.2 HC.out.1).mono ?_
  rintro _ w1 ⟨⟨k, rfl, hk, hkl⟩, hb⟩
  replace KX := KX.on hb
  replace LX := LX.on hb
  replace RR := RR.on hb
  replace BW := BW.trans (hb.mono BW.size)
  clear hb
  have hk3 : (k : Int) ≤ 9223372036854775807 := by have := HC.out.1; omega
  clear hkl
  by_cases hF : FitsQ q
  · have hk2 : ¬ (2048 : Int) < (k : Int) := by have := hk.2 hF; omega
    clear hk
    have KX_0 := KX.c 0 _ rfl
    have KX_1 := KX.c 1 _ rfl
    have KX_2 := KX.c 2 _ rfl
    have KX_3 := KX.c 3 _ rfl
    go_wp2_with fail
    clear KX_0 KX_1 KX_2 KX_3
    refine (ffrac_g q _ _ _ _ _ _ _ L _ LX hF HC.out.2.1 HC.out.2.2 HC.out.1).mono ?_
    rintro _ w2 ⟨un, uA, uz, uk, uB, ud, ul, rfl, Lu, hb⟩
    replace KX := KX.on hb
    replace LX := LX.on hb
    replace RR := RR.on hb
    replace BW := BW.trans (hb.mono BW.size)
    clear hb
    have y0 := RR.r0
    have y1 := RR.r1
    have y2 := RR.r2
    have y3 := RR.r3
    have y4 := RR.f0
    have y5 := RR.f1
    have y6 := RR.f2
    have y7 := RR.f3
    have HL := Lib.hid (And.intro (Lu.put4 RR (.bool un) (.slice uA uz.length uk) (.bool false) (.slice uB ud.length ul)) (Below.putq BW (r := w.heap.size + 1) (by omega) (.bool un) (.slice uA uz.length uk) (.bool false) (.slice uB ud.length ul)))
    have HF := Lib.hid hF
    clear LX Lu BW KX hF RR
    go_wp2
    exact bodyPost_ret (v := .tuple #[frq un uA uz.length uk false uB ud.length ul, .int .i64 0]) (by simp [results, Tryz.results63, go_sem, y0, y1, y2, y3]) rfl ⟨_, _, _, _, _, _, _, _, _, rfl, .inl ⟨HF.out, rfl, rfl, HL.out.1⟩, HL.out.2⟩
  · have hk2 : (2048 : Int) < (k : Int) := by have : ¬ k ≤ 2048 := fun h => hF (hk.1 h); omega
    clear hk
    have KX_0 := KX.c 0 _ rfl
    have KX_1 := KX.c 1 _ rfl
    have KX_2 := KX.c 2 _ rfl
    have KX_3 := KX.c 3 _ rfl
    have y0 := RR.r0
    have y1 := RR.r1
    have y2 := RR.r2
    have y3 := RR.r3
    have y4 := RR.f0
    have y5 := RR.f1
    have y6 := RR.f2
    have y7 := RR.f3
    have HL := Lib.hid (Below.putq BW (r := w.heap.size + 1) (by omega) (.bool false) (.slice none 0 0) (.bool false) (.slice none 0 0))
    have HF := Lib.hid hF
    clear LX BW KX hF RR
    go_wp2
    exact bodyPost_ret (v := .tuple #[frq false none ([] : List Nat).length 0 false none ([] : List Nat).length 0, .int .i64 4]) (by simp [results, Tryz.results63, go_sem, y0, y1, y2, y3]) rfl ⟨_, _, _, _, _, _, _, _, _, rfl, .inr ⟨HF.out, rfl, rfl, rfl, rfl, rfl, rfl, rfl, rfl, rfl⟩, HL.out⟩
end Go.Proofs.YtobbedcaeffbaaaGreatDoor
