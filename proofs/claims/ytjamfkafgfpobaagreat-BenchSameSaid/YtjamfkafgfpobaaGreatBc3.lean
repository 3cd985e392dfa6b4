/-
  What the statements' own functions return. Conditions: that benches are no longer than memory.
-/
import Derived.Test.YtjamfkafgfpobaaGreatBm4
import Derived.Deep.RegionHeld3
import Derived.Deep.DeepCutAuto
import Derived.BigRegion
import Derived.Deep.Upon
import Derived.ArgAppend
import Derived.Test.YtjamfkafgfpobaaGreatBm7
import Derived.Test.YtjamfkafgfpobaaGreatRk
import Derived.Test.YtjamfkafgfpobaaGreatRlc
namespace Go.Proofs.YtjamfkafgfpobaaGreat
open Go.RowKit Nb
/-- It answers some number. -/
def IW (w : World) (e : Ending) (w' : World) : Prop := ∃ n : Int, e = .returned (.int .i64 n) ∧ Below w.heap.size w w'
theorem c_lens {f : Fv} {w : World} (X : Fx w f) : f.xs.length ≤ 35184372087808 ∧ f.ds.length ≤ 35184372087808 := ⟨by have := Rq.x X; have := this.sz; omega, by have := Rq.y X; have := this.sz; omega⟩
theorem c_size {f : Fv} {w : World} (X : Fx w f) : Calls Tryz.prog 91 #[fv f] w (IW w) := (f_size X).mono fun _ _ ⟨h, hb⟩ => ⟨_, h, hb⟩
set_option maxHeartbeats 8000000 in
set_option maxRecDepth 20000 in
theorem c_low {n m : Bool} {A B : Option Addr} {xs ds : List Nat} {c d : Nat} {w : World} (h1 : xs.length ≤ 35184372087808) (h2 : ds.length ≤ 35184372087808) :
    Calls Tryz.prog 92 #[big n A xs.length c, big m B ds.length d] w (IW w) := by
 have l1 : (xs.length : Int) ≤ 35184372087808 := by omega
 have l2 : (ds.length : Int) ≤ 35184372087808 := by omega
 have BW : Below w.heap.size w w := Below.refl _ _
 obtain ⟨V2, e3, hb4, K5, Z6, z1⟩ := alloc_new w [.bool n, .slice A xs.length c] 27
 have g7 : w.heap.size ≤ w.heap.size := BW.size
 replace BW := BW.trans (hb4.mono BW.size)
 clear hb4
 obtain ⟨V8, e9, hb10, K11, Z12, -⟩ := alloc_new V2 [.bool m, .slice B ds.length d] 27
 rw [z1] at K11 Z12
 have n13 : w.heap.size ≠ w.heap.size + 1 := Nat.ne_of_lt (z1 ▸ K5.lt)
 have g14 : w.heap.size ≤ w.heap.size + 1 := z1 ▸ BW.size
 replace K5 := K5.on hb10
 replace Z6 := Z6.on hb10
 replace BW := BW.trans (hb10.mono BW.size)
 clear hb10
 clear z1
 go_enter Tryz.func92, Tryz.ntmps92
 go_wp2_with fail
 rw [← e3, ← e9]
 clear e3 e9
 obtain ⟨c15, c16⟩ := K5.c2
 obtain ⟨c17, c18⟩ := K11.c2
 go_wp2_with fail
 all_goals (try (go_wp2_with fail))
 all_goals (first | (go_ret; exact ⟨_, rfl, BW⟩) | (go_meet; exact ⟨_, rfl, BW⟩))
set_option maxHeartbeats 8000000 in
set_option maxRecDepth 20000 in
theorem c_frac {f : Fv} {w : World} (X : Fx w f) :
    Calls Tryz.prog 47 #[fv f] w (IW w) := by
 have BW : Below w.heap.size w w := Below.refl _ _
 obtain ⟨V1, e2, hb3, K4, -, -⟩ := alloc_new w [.bool f.n, .slice f.A f.xs.length f.c, .bool f.m, .slice f.B f.ds.length f.d] 29
 replace X := X.kp (Kept.of hb3)
 replace BW := BW.trans (hb3.mono BW.size)
 clear hb3
 go_enter Tryz.func47, Tryz.ntmps47
 go_wp2_with fail
 rw [← e2]
 clear e2
 refine wp_region_noPanic ?_
 have hb : Below V1.heap.size V1 V1.drew := (Below.refl _ _).drew
 replace K4 := K4.on hb
 replace X := X.kp (Kept.of hb)
 replace BW := BW.trans (hb.mono BW.size)
 clear hb
 refine wp_region_held_drew (S := (fun wx => Cs wx (w.heap.size) 0 [.bool f.n, .slice f.A f.xs.length f.c, .bool f.m, .slice f.B f.ds.length f.d])) (by kernel_rfl) (by exact K4.cs) (fun hHeld => ?_)
 generalize V1.drew = Vd5 at *
 refine pT 0 ?_
 (try simp only [p0, p1, p2, p3])
 refine pT 2 ?_
 (try simp only [p0, p1, p2, p3])
 refine pT 3 ?_
 (try simp only [p0, p1, p2, p3])
 refine pT 4 ?_
 (try simp only [p0, p1, p2, p3])
 refine pT 5 ?_
 (try simp only [p0, p1, p2, p3])
 refine pR1 1 (fun K hK => ?_)
 go_simp
 (go_at_call 91; with_reducible refine (c_size X).mono ?_)
 rintro _ w6 ⟨n1, rfl, hb⟩
 (try go_wp2_with fail)
 replace K4 := K4.on hb
 replace X := X.kp (Kept.of hb)
 replace BW := BW.trans (hb.mono BW.size)
 clear hb
 clear hHeld
 refine hK.out _ _ (by exact K4.cs) (fun hHeld => ?_)
 clear hK
 (try simp only [p0, p1, p2, p3])
 refine pR1 6 (fun K hK => ?_)
 go_simp
 (go_at_call 92; with_reducible refine (c_low (c_lens X).1 (c_lens X).2).mono ?_)
 rintro _ w7 ⟨n2, rfl, hb⟩
 (try go_wp2_with fail)
 replace K4 := K4.on hb
 replace BW := BW.trans (hb.mono BW.size)
 clear hb
 clear hHeld
 refine hK.out _ _ (by exact K4.cs) (fun hHeld => ?_)
 clear hK
 (try simp only [p0, p1, p2, p3])
 refine pT 7 ?_
 (try simp only [p0, p1, p2, p3])
 refine pT 8 ?_
 (try simp only [p0, p1, p2, p3])
 refine wpAnyH_done (by kernel_rfl) (NoPanic.normal ?_) _
 go_wp2
 go_ret
 exact ⟨_, rfl, BW⟩
/-- Whether some costs are too much: yes or no. -/
def YN (w : World) (e : Ending) (w' : World) : Prop := ∃ r : Bool, e = .returned (.bool r) ∧ Below w.heap.size w w'
set_option maxHeartbeats 16000000 in
set_option maxRecDepth 100000 in
theorem c_beyond {ns : List Int} {g c : Nat} {w : World} (K : Box w g (ns.map (.int .i64))) (_hc : ns.length ≤ c) (hn : ns.length ≤ 4096) :
    Calls Tryz.prog 15 #[.slice (some ⟨g, 0, none⟩) ns.length c] w (YN w) := by
 have BW : Below w.heap.size w w := Below.refl _ _
 have hcap : (ns.length : Int) ≤ 9223372036854775807 := by omega
 go_enter Tryz.func15, Tryz.ntmps15
 go_wp2_with fail
 go_loopw [3, 4] (fun nv iv wr => ∃ (k : Nat) (n : Int), nv = .int .i64 n ∧ iv = .int .i64 (k : Nat) ∧ k ≤ ns.length ∧ Below w.heap.size w wr) (fun _ iv _ => ns.length - (intOf iv).toNat)
 case atStart => exact ⟨0, _, rfl, rfl, by omega, BW⟩
 case round =>
   obtain ⟨k, n, rfl, rfl, hk, BW⟩ := hrel
   by_cases hlt : k < ns.length
   · have h2 : (k : Int) < (ns.length : Int) := by omega
     obtain ⟨x, hx⟩ : ∃ x, ns[k]? = some x := ⟨_, List.getElem?_eq_getElem hlt⟩
     have hc : wr.cell? ⟨g, k, none⟩ = some (.int .i64 x) := (K.on BW).c k _ (by rw [List.getElem?_map, hx]; rfl)
     obtain ⟨y, hy⟩ : ∃ y, wrap64 (n + x) = y := ⟨_, rfl⟩
     clear hx
     by_cases hm : 1048576 < y
     · have hm2 : decide (1048576 < y) = true := by simp; omega
       go_wp2_with fail
       go_ret
       exact ⟨true, rfl, BW⟩
     · have hm2 : decide (1048576 < y) = false := by simp; omega
       go_wp2_with fail
       go_roundw
       case rel => exact ⟨k + 1, _, rfl, by go_num, by omega, BW⟩
       case measure => simp [intOf]; omega
   · obtain rfl : k = ns.length := by omega
     go_wp2_with fail
     go_ret
     exact ⟨_, rfl, BW⟩
end Go.Proofs.YtjamfkafgfpobaaGreat
namespace Go.Proofs.YtjamfkafgfpobaaGreat
open Go.RowKit Nb
def e0 : Ev := ⟨0, fv0, fv0⟩
theorem infoE3 : (Tryz.prog.info? 58).map (fun i => (i.zero, i.size, i.bytes)) = some (some (ev e0), 9, 136) := by kernel_rfl
theorem rep_flatE : ∀ n : Nat, (List.replicate n (ev e0).cells.toList).flatten = (List.replicate n e0).flatMap ecs
 | 0 => rfl
 | n + 1 => by rw [List.replicate_succ, List.flatten_cons, rep_flatE n, List.replicate_succ, List.flatMap_cons]; rfl
section
variable {W w : World} {a a' : Option Addr} {b c c' : Nat} {xs es ds : List Ev}
theorem row_sle (K : Box W b (xs.flatMap ecs)) (hx : ∀ (i : Nat) (e : Ev), es[i]? = some e → xs[i]? = some e) (hX : ∀ e ∈ es, Xe W e) (hc : es.length ≤ c) (hm : c ≤ maxLen) : Sle W (some ⟨b, 0, none⟩) c es :=
 ⟨hc, by simpa [maxLen] using hm, hX, fun i e he => ⟨b, 0, rfl, K.lt, by rw [Nat.zero_add]; exact K.atB (flat_at ecs_len (hx i e he))⟩⟩
end
end Go.Proofs.YtjamfkafgfpobaaGreat
namespace Go.Proofs.YtjamfkafgfpobaaGreat
open Go.RowKit Nb
def alz : List Eq := [⟨1, Rat.divInt 1 2, Rat.divInt 0 1⟩, ⟨2, Rat.divInt 2 1, Rat.divInt 0 1⟩]
def alq : Mq := ⟨Rat.divInt 1 1, Rat.divInt 1 2, Rat.divInt (-2) 1, Rat.divInt 0 1⟩
theorem alz_eq : benchM alz = alq := by unfold benchM alz alq; apply Mq.ext4 <;> decide +kernel
theorem alz_fits : FitsM (benchM alz) := by
 rw [alz_eq]
 exact ⟨⟨fits_low (by unfold alq; decide +kernel), fits_low (by unfold alq; decide +kernel)⟩, ⟨fits_low (by unfold alq; decide +kernel), fits_low (by unfold alq; decide +kernel)⟩, ⟨fits_low (by unfold alq; decide +kernel), fits_low (by unfold alq; decide +kernel)⟩, ⟨fits_low (by unfold alq; decide +kernel), fits_low (by unfold alq; decide +kernel)⟩⟩
theorem sm_fits {X Y : Int} (h : (Rat.divInt X Y).num.natAbs < 2 ^ 100) (k : (((Rat.divInt X Y).den : Nat) : Int).natAbs < 2 ^ 100) : FitsQ (Rat.divInt X Y) := ⟨fits_low h, fits_low k⟩
theorem one_fits : FitsM (benchM []) := ⟨⟨fits_low (by decide +kernel), fits_low (by decide +kernel)⟩, ⟨fits_low (by decide +kernel), fits_low (by decide +kernel)⟩, ⟨fits_low (by decide +kernel), fits_low (by decide +kernel)⟩, ⟨fits_low (by decide +kernel), fits_low (by decide +kernel)⟩⟩
theorem chk_e0 {W : World} {r : Int} (h : ChkL W [e0] r) : r = 1 := by
 rcases h with ⟨_, h⟩ | ⟨_, ⟨_, h⟩ | ⟨h, _⟩⟩
 ·simp at h
 ·obtain ⟨z, ⟨_, h2, _⟩, _⟩ := h e0 (by simp)
  exact absurd h2.okv fv0_not
 ·exact h
theorem sle_none (W : World) : Sle W none 0 [] := ⟨by simp, by omega, fun e h => by simp at h, fun i e h => by simp at h⟩
theorem sle_one {W : World} {g : Nat} {e : Ev} (K : Box W g (ecs e)) (X : Xe W e) : Sle W (some ⟨g, 0, none⟩) 1 [e] :=
 row_sle (xs := [e]) (by rw [List.flatMap_cons, List.flatMap_nil, List.append_nil]; exact K) (fun _ _ h => h) (fun x hx => by simp at hx; subst hx; exact X) (by simp) (by simp [maxLen])
theorem sle_two {W : World} {g : Nat} {e f : Ev} (K : Box W g (ecs e ++ ecs f)) (X : Xe W e) (Y : Xe W f) : Sle W (some ⟨g, 0, none⟩) 2 [e, f] :=
 row_sle (xs := [e, f]) (by rw [List.flatMap_cons, List.flatMap_cons, List.flatMap_nil, List.append_nil]; exact K) (fun _ _ h => h) (fun x hx => by simp at hx; rcases hx with rfl | rfl; exact X; exact Y) (by simp) (by simp [maxLen])
theorem fv0_fx (W : World) : Fx W fv0 := ⟨⟨Sl.none_, by intro x h; simp [fv0] at h, by simp [fv0]⟩, ⟨Sl.none_, by intro x h; simp [fv0] at h, by simp [fv0]⟩⟩
theorem e0_xe (W : World) : Xe W e0 := ⟨⟨by decide, by decide⟩, fv0_fx W, fv0_fx W⟩
theorem Fes.two {W : World} {y z : Eq} {e f : Ev} (h : Fe W y e ∧ y.may) (k : Fe W z f ∧ z.may) : Fes W [y, z] [e, f] := ⟨rfl, fun i x u h1 h2 => by
 rcases i with _ | _ | i
 ·simp at h1 h2; subst h1; subst h2; exact h
 ·simp at h1 h2; subst h1; subst h2; exact k
 ·simp at h1⟩
set_option maxHeartbeats 8000000 in
set_option maxRecDepth 20000 in
theorem b_small {X Y : Int} {w : World} (h0 : -9223372036854775808 ≤ X) (h1 : X ≤ 9223372036854775807) (k0 : -9223372036854775808 ≤ Y) (k1 : Y ≤ 9223372036854775807) (hY : Y ≠ 0) (hf : FitsQ (Rat.divInt X Y)) :
    Calls Tryz.prog 22 #[.int .i64 X, .int .i64 Y] w (GF w (Rat.divInt X Y)) := by
 have HF := Lib.hid hf
 clear hf
 have HY := Lib.hid hY
 clear hY
 have BW : Below w.heap.size w w := Below.refl _ _
 obtain ⟨V1, e2, hb3, K4, Z5, -⟩ := alloc_new w [.bool false, .slice none 0 0, .bool false, .slice none 0 0] 29
 have g6 : w.heap.size ≤ w.heap.size := BW.size
 replace BW := BW.trans (hb3.mono BW.size)
 clear hb3
 go_enter Tryz.func22, Tryz.ntmps22
 go_wp2_with fail
 rw [← e2]
 clear e2
 refine (r_of X Y _ h0 h1 k0 k1).mono ?_
 rintro _ w7 ⟨f, er, rfl, h, hb⟩
 replace K4 := K4.on hb
 replace Z5 := Z5.on hb
 replace BW := BW.trans (hb.mono BW.size)
 clear hb
 obtain ⟨rfl, L⟩ := h.yes HY.out HF.out
 clear h
 obtain ⟨V8, e9, hb10, K11, Z12, -⟩ := alloc_new w7 [.bool f.n, .slice f.A f.xs.length f.c, .bool f.m, .slice f.B f.ds.length f.d] 29
 have n13 : w.heap.size ≠ w7.heap.size := Nat.ne_of_lt (K4.lt)
 have g14 : w.heap.size ≤ w7.heap.size := BW.size
 replace K4 := K4.on hb10
 replace Z5 := Z5.on hb10
 replace L := L.kp (Kept.of hb10)
 replace BW := BW.trans (hb10.mono BW.size)
 clear hb10
 obtain ⟨c15, c16, c17, c18⟩ := K4.c4
 obtain ⟨c19, c20, c21, c22⟩ := Z5.f4
 rw [e9] at c15 c16 c17 c18 c19 c20 c21 c22
 obtain ⟨V23, hk25⟩ : ∃ V23, V23 = V8.setCells (w.heap.size) 0 [.bool f.n, .slice f.A f.xs.length f.c, .bool f.m, .slice f.B f.ds.length f.d] := ⟨_, rfl⟩
 have e24 := hk25
 simp only [World.setCells, Nat.zero_add, Nat.reduceAdd] at e24
 have hk26 := Kept.overE hk25 K4 rfl (Nat.le_of_ble_eq_true rfl)
 replace K4 := K4.overE hk25 rfl
 replace L := L.kp hk26
 replace BW := Below.putE BW hk25 g6
 clear hk25 hk26
 go_wp2_with fail
 clear c15 c16 c17 c18 c19 c20 c21 c22
 rw [← e9, ← e24]
 clear e9 e24
 generalize w7.heap.size = b27 at *
 obtain ⟨c28, c29, c30, c31⟩ := K4.c4
 exact bodyPost_ret (v := fv f) (by simp [results, Tryz.results22, go_sem, c28, c29, c30, c31]) rfl ⟨f, rfl, L, BW⟩
end Go.Proofs.YtjamfkafgfpobaaGreat
namespace Go.Proofs.YtjamfkafgfpobaaGreat
open Go.RowKit Nb
theorem b_check1 {a : Option Addr} {c : Nat} {e : Ev} {w : World} (S : Sle w a c [e]) : Calls Tryz.prog 30 #[.slice a 1 c] w (fun ee w' => ∃ r : Int, ee = .returned (.int .i64 r) ∧ ChkL w [e] r ∧ Below w.heap.size w w') := b_check S
theorem fm_mk {W : World} {a b c d : Fv} (h1 : Ff W (Rat.divInt 1 1) a) (h2 : Ff W (Rat.divInt 1 2) b) (h3 : Ff W (Rat.divInt (-2) 1) c) (h4 : Ff W (Rat.divInt 0 1) d) : Fm W alq ⟨a, b, c, d⟩ := ⟨h1, h2, h3, h4⟩
set_option maxHeartbeats 16000000 in
set_option maxRecDepth 100000 in
theorem b_alive {w : World} :
    Calls Tryz.prog 8 #[] w (fun e w' => e = .returned (.bool true) ∧ Below w.heap.size w w') := by
 have BW : Below w.heap.size w w := Below.refl _ _
 go_enter Tryz.func8, Tryz.ntmps8
 go_wp2_with fail
 refine (b_small (X := 1) (Y := 2) (by decide) (by decide) (by decide) (by decide) (by decide) (sm_fits (by decide +kernel) (by decide +kernel))).mono ?_
 rintro _ w1 ⟨f1, rfl, L1, hb⟩
 replace BW := BW.trans (hb.mono BW.size)
 clear hb
 go_wp2_with fail
 refine (b_small (X := 0) (Y := 1) (by decide) (by decide) (by decide) (by decide) (by decide) (sm_fits (by decide +kernel) (by decide +kernel))).mono ?_
 rintro _ w2 ⟨f2, rfl, L2, hb⟩
 replace L1 := L1.kp (Kept.of hb)
 replace BW := BW.trans (hb.mono BW.size)
 clear hb
 go_wp2_with fail
 refine (b_small (X := 2) (Y := 1) (by decide) (by decide) (by decide) (by decide) (by decide) (sm_fits (by decide +kernel) (by decide +kernel))).mono ?_
 rintro _ w3 ⟨f3, rfl, L3, hb⟩
 replace L1 := L1.kp (Kept.of hb)
 replace L2 := L2.kp (Kept.of hb)
 replace BW := BW.trans (hb.mono BW.size)
 clear hb
 go_wp2_with fail
 refine (b_small (X := 0) (Y := 1) (by decide) (by decide) (by decide) (by decide) (by decide) (sm_fits (by decide +kernel) (by decide +kernel))).mono ?_
 rintro _ w4 ⟨f4, rfl, L4, hb⟩
 replace L1 := L1.kp (Kept.of hb)
 replace L2 := L2.kp (Kept.of hb)
 replace L3 := L3.kp (Kept.of hb)
 replace BW := BW.trans (hb.mono BW.size)
 clear hb
 obtain ⟨V5, e6, hb7, K8, Z9, -⟩ := alloc_new w4 [.int .u8 1, .bool f1.n, .slice f1.A f1.xs.length f1.c, .bool f1.m, .slice f1.B f1.ds.length f1.d, .bool f2.n, .slice f2.A f2.xs.length f2.c, .bool f2.m, .slice f2.B f2.ds.length f2.d, .int .u8 2, .bool f3.n, .slice f3.A f3.xs.length f3.c, .bool f3.m, .slice f3.B f3.ds.length f3.d, .bool f4.n, .slice f4.A f4.xs.length f4.c, .bool f4.m, .slice f4.B f4.ds.length f4.d] 58
 have g10 : w.heap.size ≤ w4.heap.size := BW.size
 replace L1 := L1.kp (Kept.of hb7)
 replace L2 := L2.kp (Kept.of hb7)
 replace L3 := L3.kp (Kept.of hb7)
 replace L4 := L4.kp (Kept.of hb7)
 replace BW := BW.trans (hb7.mono BW.size)
 clear hb7
 go_wp2_with fail
 rw [← e6]
 clear e6
 generalize w4.heap.size = b11 at *
 have S1 : Sle V5 (some ⟨b11, 0, none⟩) 2 [⟨1, f1, f2⟩, ⟨2, f3, f4⟩] := sle_two (show Box V5 (b11) (ecs ⟨1, f1, f2⟩ ++ ecs ⟨2, f3, f4⟩) from K8) ⟨⟨by simp, by simp⟩, L1.fx, L2.fx⟩ ⟨⟨by simp, by simp⟩, L3.fx, L4.fx⟩
 have F1 : Fes V5 alz [⟨1, f1, f2⟩, ⟨2, f3, f4⟩] := Fes.two ⟨⟨rfl, L1, L2⟩, .inl ⟨rfl, by decide +kernel, by decide +kernel⟩⟩ ⟨⟨rfl, L3, L4⟩, .inr (.inl ⟨rfl, by decide +kernel⟩)⟩
 refine (b_Matrix S1 F1 (by simp)).mono ?_
 rintro _ w12 ⟨m1, er, rfl, h1, hb⟩
 replace K8 := K8.on hb
 replace L1 := L1.kp (Kept.of hb)
 replace L2 := L2.kp (Kept.of hb)
 replace L3 := L3.kp (Kept.of hb)
 replace L4 := L4.kp (Kept.of hb)
 replace BW := BW.trans (hb.mono BW.size)
 clear hb
 obtain ⟨rfl, M1⟩ := h1.yes alz_fits
 clear h1 S1 F1
 clear K8
 obtain ⟨V13, e14, hb15, K16, Z17, -⟩ := alloc_new w12 [.bool m1.A.n, .slice m1.A.A m1.A.xs.length m1.A.c, .bool m1.A.m, .slice m1.A.B m1.A.ds.length m1.A.d, .bool m1.B.n, .slice m1.B.A m1.B.xs.length m1.B.c, .bool m1.B.m, .slice m1.B.B m1.B.ds.length m1.B.d, .bool m1.C.n, .slice m1.C.A m1.C.xs.length m1.C.c, .bool m1.C.m, .slice m1.C.B m1.C.ds.length m1.C.d, .bool m1.D.n, .slice m1.D.A m1.D.xs.length m1.D.c, .bool m1.D.m, .slice m1.D.B m1.D.ds.length m1.D.d] 31
 replace K16 : Box V13 (w12.heap.size) (mcs m1) := K16
 have g18 : w.heap.size ≤ w12.heap.size := BW.size
 replace L1 := L1.kp (Kept.of hb15)
 replace L2 := L2.kp (Kept.of hb15)
 replace L3 := L3.kp (Kept.of hb15)
 replace L4 := L4.kp (Kept.of hb15)
 replace M1 := M1.kp (Kept.of hb15)
 replace BW := BW.trans (hb15.mono BW.size)
 clear hb15
 go_wp2_with (first | (refine wpList_stNew (by rfl) (by rfl) (by rfl) (by rfl) (by rfl) (by rfl) (by rfl) ?_))
 rw [← e14]
 clear e14
 generalize w12.heap.size = b19 at *
 refine (b_Matrix (es := []) (zs := []) (sle_none _) ⟨rfl, fun i z e h => by simp at h⟩ (by decide)).mono ?_
 rintro _ w20 ⟨m2, er, rfl, h2, hb⟩
 replace K16 := K16.on hb
 replace L1 := L1.kp (Kept.of hb)
 replace L2 := L2.kp (Kept.of hb)
 replace L3 := L3.kp (Kept.of hb)
 replace L4 := L4.kp (Kept.of hb)
 replace M1 := M1.kp (Kept.of hb)
 replace BW := BW.trans (hb.mono BW.size)
 clear hb
 obtain ⟨rfl, M2⟩ := h2.yes one_fits
 clear h2
 replace M2 : Fm w20 Mq.one m2 := M2
 clear L1 L2 L3 L4
 obtain ⟨V21, e22, hb23, K24, Z25, -⟩ := alloc_new w20 [.bool m2.A.n, .slice m2.A.A m2.A.xs.length m2.A.c, .bool m2.A.m, .slice m2.A.B m2.A.ds.length m2.A.d, .bool m2.B.n, .slice m2.B.A m2.B.xs.length m2.B.c, .bool m2.B.m, .slice m2.B.B m2.B.ds.length m2.B.d, .bool m2.C.n, .slice m2.C.A m2.C.xs.length m2.C.c, .bool m2.C.m, .slice m2.C.B m2.C.ds.length m2.C.d, .bool m2.D.n, .slice m2.D.A m2.D.xs.length m2.D.c, .bool m2.D.m, .slice m2.D.B m2.D.ds.length m2.D.d] 31
 replace K24 : Box V21 (w20.heap.size) (mcs m2) := K24
 have n26 : b19 ≠ w20.heap.size := Nat.ne_of_lt (K16.lt)
 have g27 : w.heap.size ≤ w20.heap.size := BW.size
 replace K16 := K16.on hb23
 replace M1 := M1.kp (Kept.of hb23)
 replace M2 := M2.kp (Kept.of hb23)
 replace BW := BW.trans (hb23.mono BW.size)
 clear hb23
 go_wp2_with (first | (refine wpList_stNew (by rfl) (by rfl) (by rfl) (by rfl) (by rfl) (by rfl) (by rfl) ?_))
 rw [← e22]
 clear e22
 generalize w20.heap.size = b28 at *
 refine wp_region_noPanic ?_
 have hb : Below V21.heap.size V21 V21.drew := (Below.refl _ _).drew
 replace K16 := K16.on hb
 replace K24 := K24.on hb
 replace M1 := M1.kp (Kept.of hb)
 replace M2 := M2.kp (Kept.of hb)
 replace BW := BW.trans (hb.mono BW.size)
 clear hb
 refine wp_region_held_drew (S := (fun wx => Box wx (b19) [.bool m1.A.n, .slice m1.A.A m1.A.xs.length m1.A.c, .bool m1.A.m, .slice m1.A.B m1.A.ds.length m1.A.d, .bool m1.B.n, .slice m1.B.A m1.B.xs.length m1.B.c, .bool m1.B.m, .slice m1.B.B m1.B.ds.length m1.B.d, .bool m1.C.n, .slice m1.C.A m1.C.xs.length m1.C.c, .bool m1.C.m, .slice m1.C.B m1.C.ds.length m1.C.d, .bool m1.D.n, .slice m1.D.A m1.D.xs.length m1.D.c, .bool m1.D.m, .slice m1.D.B m1.D.ds.length m1.D.d] ∧ Box wx (b28) [.bool m2.A.n, .slice m2.A.A m2.A.xs.length m2.A.c, .bool m2.A.m, .slice m2.A.B m2.A.ds.length m2.A.d, .bool m2.B.n, .slice m2.B.A m2.B.xs.length m2.B.c, .bool m2.B.m, .slice m2.B.B m2.B.ds.length m2.B.d, .bool m2.C.n, .slice m2.C.A m2.C.xs.length m2.C.c, .bool m2.C.m, .slice m2.C.B m2.C.ds.length m2.C.d, .bool m2.D.n, .slice m2.D.A m2.D.xs.length m2.D.c, .bool m2.D.m, .slice m2.D.B m2.D.ds.length m2.D.d])) (by kernel_rfl) (by exact ⟨K16, K24⟩) (fun hHeld => ?_)
 generalize V21.drew = Vd29 at *
 refine pT 0 ?_
 (try simp only [p0, p1, p2, p3])
 refine pT 1 ?_
 (try simp only [p0, p1, p2, p3])
 refine pT 2 ?_
 (try simp only [p0, p1, p2, p3])
 refine pT 3 ?_
 (try simp only [p0, p1, p2, p3])
 refine pT 4 ?_
 (try simp only [p0, p1, p2, p3])
 refine pT 5 ?_
 (try simp only [p0, p1, p2, p3])
 refine pT 6 ?_
 (try simp only [p0, p1, p2, p3])
 refine pT 7 ?_
 (try simp only [p0, p1, p2, p3])
 refine pR1 8 (fun K hK => ?_)
 go_simp
 obtain ⟨V30, e31, hb32, K33, -, -⟩ := alloc_new Vd29 [.int .u8 0, .bool false, .slice none 0 0, .bool false, .slice none 0 0, .bool false, .slice none 0 0, .bool false, .slice none 0 0] 58
 have n34 : b19 ≠ Vd29.heap.size := Nat.ne_of_lt (K16.lt)
 have n35 : b28 ≠ Vd29.heap.size := Nat.ne_of_lt (K24.lt)
 replace K16 := K16.on hb32
 replace K24 := K24.on hb32
 replace M1 := M1.kp (Kept.of hb32)
 replace M2 := M2.kp (Kept.of hb32)
 replace BW := BW.trans (hb32.mono BW.size)
 clear hb32
 rw [← e31]
 clear e31
 generalize Vd29.heap.size = b36 at *
 clear hHeld
 refine hK.out _ _ (by exact ⟨K16, K24⟩) (fun hHeld => ?_)
 clear hK
 (try simp only [p0, p1, p2, p3])
 refine pR1 9 (fun K hK => ?_)
 go_simp
 (go_at_call 30; with_reducible refine (b_check1 (sle_one (e := e0) K33 (e0_xe _))).mono ?_)
 rintro _ w37 ⟨r, rfl, hr, hb⟩
 (try go_wp2_with fail)
 replace K16 := K16.on hb
 replace K24 := K24.on hb
 replace M1 := M1.kp (Kept.of hb)
 replace M2 := M2.kp (Kept.of hb)
 replace BW := BW.trans (hb.mono BW.size)
 clear hb
 obtain rfl := chk_e0 hr
 clear hr
 clear hHeld
 refine hK.out _ _ (by exact ⟨K16, K24⟩) (fun hHeld => ?_)
 clear hK
 (try simp only [p0, p1, p2, p3])
 refine pT 10 ?_
 (try simp only [p0, p1, p2, p3])
 refine pT 11 ?_
 (try simp only [p0, p1, p2, p3])
 refine pT 12 ?_
 (try simp only [p0, p1, p2, p3])
 refine pT 13 ?_ (hy := fun wt hSw => ldM rfl rfl hSw.1)
 (try simp only [p0, p1, p2, p3])
 refine pR1 14 (fun K hK => ?_)
 go_simp
 (go_at_call 22; with_reducible refine (b_small (X := 1) (Y := 1) (by decide) (by decide) (by decide) (by decide) (by decide) (sm_fits (by decide +kernel) (by decide +kernel))).mono ?_)
 rintro _ w38 ⟨g1, rfl, N1, hb⟩
 (try go_wp2_with fail)
 replace K16 := K16.on hb
 replace K24 := K24.on hb
 replace M1 := M1.kp (Kept.of hb)
 replace M2 := M2.kp (Kept.of hb)
 replace BW := BW.trans (hb.mono BW.size)
 clear hb
 clear hHeld
 refine hK.out _ _ (by exact ⟨K16, K24⟩) (fun hHeld => ?_)
 clear hK
 (try simp only [p0, p1, p2, p3])
 refine pR1 15 (fun K hK => ?_)
 go_simp
 (go_at_call 22; with_reducible refine (b_small (X := 1) (Y := 2) (by decide) (by decide) (by decide) (by decide) (by decide) (sm_fits (by decide +kernel) (by decide +kernel))).mono ?_)
 rintro _ w39 ⟨g2, rfl, N2, hb⟩
 (try go_wp2_with fail)
 replace K16 := K16.on hb
 replace K24 := K24.on hb
 replace M1 := M1.kp (Kept.of hb)
 replace M2 := M2.kp (Kept.of hb)
 replace N1 := N1.kp (Kept.of hb)
 replace BW := BW.trans (hb.mono BW.size)
 clear hb
 clear hHeld
 refine hK.out _ _ (by exact ⟨K16, K24⟩) (fun hHeld => ?_)
 clear hK
 (try simp only [p0, p1, p2, p3])
 refine pR1 16 (fun K hK => ?_)
 go_simp
 (go_at_call 22; with_reducible refine (b_small (X := (-2)) (Y := 1) (by decide) (by decide) (by decide) (by decide) (by decide) (sm_fits (by decide +kernel) (by decide +kernel))).mono ?_)
 rintro _ w40 ⟨g3, rfl, N3, hb⟩
 (try go_wp2_with fail)
 replace K16 := K16.on hb
 replace K24 := K24.on hb
 replace M1 := M1.kp (Kept.of hb)
 replace M2 := M2.kp (Kept.of hb)
 replace N1 := N1.kp (Kept.of hb)
 replace N2 := N2.kp (Kept.of hb)
 replace BW := BW.trans (hb.mono BW.size)
 clear hb
 clear hHeld
 refine hK.out _ _ (by exact ⟨K16, K24⟩) (fun hHeld => ?_)
 clear hK
 (try simp only [p0, p1, p2, p3])
 refine pR1 17 (fun K hK => ?_)
 go_simp
 (go_at_call 22; with_reducible refine (b_small (X := 0) (Y := 1) (by decide) (by decide) (by decide) (by decide) (by decide) (sm_fits (by decide +kernel) (by decide +kernel))).mono ?_)
 rintro _ w41 ⟨g4, rfl, N4, hb⟩
 (try go_wp2_with fail)
 replace K16 := K16.on hb
 replace K24 := K24.on hb
 replace M1 := M1.kp (Kept.of hb)
 replace M2 := M2.kp (Kept.of hb)
 replace N1 := N1.kp (Kept.of hb)
 replace N2 := N2.kp (Kept.of hb)
 replace N3 := N3.kp (Kept.of hb)
 replace BW := BW.trans (hb.mono BW.size)
 clear hb
 clear hHeld
 refine hK.out _ _ (by exact ⟨K16, K24⟩) (fun hHeld => ?_)
 clear hK
 (try simp only [p0, p1, p2, p3])
 refine pT 18 ?_
 (try simp only [p0, p1, p2, p3])
 refine pR1 19 (fun K hK => ?_)
 go_simp
 (go_at_call 13; with_reducible refine (y_sameM (M1.to alz_eq) (n := ⟨g1, g2, g3, g4⟩) (fm_mk N1 N2 N3 N4)).mono ?_)
 rintro _ w42 ⟨rfl, hb⟩
 (try go_wp2_with fail)
 replace K16 := K16.on hb
 replace K24 := K24.on hb
 replace M2 := M2.kp (Kept.of hb)
 replace BW := BW.trans (hb.mono BW.size)
 clear hb
 clear hHeld
 refine hK.out _ _ (by exact ⟨K16, K24⟩) (fun hHeld => ?_)
 clear hK
 (try simp only [p0, p1, p2, p3])
 refine pT 20 ?_
 (try simp only [p0, p1, p2, p3])
 refine pT 21 ?_
 (try simp only [p0, p1, p2, p3])
 refine pT 22 ?_ (hy := fun wt hSw => ldM rfl rfl hSw.2)
 (try simp only [p0, p1, p2, p3])
 refine pR1 23 (fun K hK => ?_)
 go_simp
 (go_at_call 33; with_reducible refine (y_One).mono ?_)
 rintro _ w43 ⟨o1, rfl, O1, hb⟩
 (try go_wp2_with fail)
 replace K16 := K16.on hb
 replace K24 := K24.on hb
 replace M2 := M2.kp (Kept.of hb)
 replace BW := BW.trans (hb.mono BW.size)
 clear hb
 clear hHeld
 refine hK.out _ _ (by exact ⟨K16, K24⟩) (fun hHeld => ?_)
 clear hK
 (try simp only [p0, p1, p2, p3])
 refine pR1 24 (fun K hK => ?_)
 go_simp
 (go_at_call 13; with_reducible refine (y_sameM M2 O1).mono ?_)
 rintro _ w44 ⟨rfl, hb⟩
 (try go_wp2_with fail)
 replace K16 := K16.on hb
 replace K24 := K24.on hb
 replace BW := BW.trans (hb.mono BW.size)
 clear hb
 clear hHeld
 refine hK.out _ _ (by exact ⟨K16, K24⟩) (fun hHeld => ?_)
 clear hK
 (try simp only [p0, p1, p2, p3])
 refine pT 25 ?_
 (try simp only [p0, p1, p2, p3])
 refine pT 26 ?_
 (try simp only [p0, p1, p2])
 refine wpAnyH_done (by kernel_rfl) (NoPanic.normal ?_) _
 go_wp2
 exact bodyPost_ret (v := .bool true) (by simp [results, Tryz.results8, go_sem]) rfl ⟨rfl, BW⟩
end Go.Proofs.YtjamfkafgfpobaaGreat
