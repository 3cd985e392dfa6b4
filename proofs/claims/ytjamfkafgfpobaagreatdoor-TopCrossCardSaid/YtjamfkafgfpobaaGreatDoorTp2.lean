/-
  A bench that may not be is refused. Conditions: as each theorem states.
-/
import Derived.Test.YtjamfkafgfpobaaGreatDoorTp0
import Derived.Deep.RegionHeld3
import Derived.Deep.DeepCutAuto
import Derived.BigRegion
namespace Go.Proofs.YtjamfkafgfpobaaGreatDoor
open Go.RowKit Nb

set_option maxHeartbeats 16000000 in
set_option maxRecDepth 100000 in
theorem b_MatrixNo {a : Option Addr} {c : Nat} {es : List Ev} {w : World} (S : Sle w a c es) (hn : ¬ (es.length ≤ 4096 ∧ MayL w es)) :
    Calls Tryz.prog 10 #[.slice a es.length c] w (fun e w' => ∃ (f : Mv) (e1 : Int), e = .returned (.tuple #[mv f, .int .i64 e1]) ∧ e1 ≠ 0 ∧ Below w.heap.size w w') := by
 have HS := Lib.hid S
 have HN := Lib.hid hn
 clear S hn
 have BW : Below w.heap.size w w := Below.refl _ _
 obtain ⟨V1, e2, hb3, K4, Z5, -⟩ := alloc_new w [.bool false, .slice none 0 0, .bool false, .slice none 0 0, .bool false, .slice none 0 0, .bool false, .slice none 0 0, .bool false, .slice none 0 0, .bool false, .slice none 0 0, .bool false, .slice none 0 0, .bool false, .slice none 0 0] 37
 replace K4 : Box V1 (w.heap.size) (zcs16) := K4
 have g6 : w.heap.size ≤ w.heap.size := BW.size
 replace BW := BW.trans (hb3.mono BW.size)
 clear hb3
 go_enter Tryz.func10, Tryz.ntmps10
 go_wp2_with fail
 rw [← e2]
 clear e2
 have X0 := Lib.hid BW
 refine (b_check (HS.out.on BW)).mono ?_
 rintro _ w7 ⟨r0, rfl, hr, hb⟩
 replace K4 := K4.on hb
 replace Z5 := Z5.on hb
 replace BW := BW.trans (hb.mono BW.size)
 clear hb
 have hr0 : r0 ≠ 0 := fun h => HN.out ⟨(hr.zero h).1, (hr.zero h).2.at HS.out.2.2.1⟩
 have hrb : (r0 == 0) = false := by simpa using hr0
 clear hr
 obtain ⟨c8, c9, c10, c11, c12, c13, c14, c15, c16, c17, c18, c19, c20, c21, c22, c23⟩ := K4.c16
 obtain ⟨c24, c25, c26, c27, c28, c29, c30, c31, c32, c33, c34, c35, c36, c37, c38, c39⟩ := Z5.f16
 obtain ⟨V40, hk42⟩ : ∃ V40, V40 = w7.setCells (w.heap.size) 0 [.bool false, .slice none 0 0, .bool false, .slice none 0 0, .bool false, .slice none 0 0, .bool false, .slice none 0 0, .bool false, .slice none 0 0, .bool false, .slice none 0 0, .bool false, .slice none 0 0, .bool false, .slice none 0 0] := ⟨_, rfl⟩
 have e41 := hk42
 simp only [World.setCells, Nat.zero_add, Nat.reduceAdd] at e41
 have hk43 := Kept.overE hk42 K4 rfl (Nat.le_of_ble_eq_true rfl)
 replace K4 := K4.overE hk42 rfl
 replace Z5 := Z5.putE hk42
 replace BW := Below.putE BW hk42 g6
 clear hk42 hk43
 replace K4 : Box V40 (w.heap.size) (zcs16) := K4
 go_wp2_with fail
 clear c8 c9 c10 c11 c12 c13 c14 c15 c16 c17 c18 c19 c20 c21 c22 c23 c24 c25 c26 c27 c28 c29 c30 c31 c32 c33 c34 c35 c36 c37 c38 c39
 rw [← e41]
 clear e41
 exact bodyPost_ret (v := .tuple #[mv mv0, .int .i64 r0]) (res_M2 Tryz.results10 (by rfl) (by rfl) K4 rfl) rfl ⟨mv0, r0, rfl, hr0, BW⟩
set_option maxHeartbeats 16000000 in
set_option maxRecDepth 100000 in
theorem b_ReverseNo {a : Option Addr} {c : Nat} {es : List Ev} {w : World} (S : Sle w a c es) (hn : ¬ (es.length ≤ 4096 ∧ MayL w es)) :
    Calls Tryz.prog 18 #[.slice a es.length c] w (fun e w' => ∃ (e1 : Int), e = .returned (.tuple #[.slice none 0 0, .int .i64 e1]) ∧ e1 ≠ 0 ∧ Below w.heap.size w w') := by
 have HS := Lib.hid S
 have HN := Lib.hid hn
 clear S hn
 have BW : Below w.heap.size w w := Below.refl _ _
 go_enter Tryz.func18, Tryz.ntmps18
 go_wp2_with fail
 have X0 := Lib.hid BW
 refine (b_check (HS.out.on BW)).mono ?_
 rintro _ w1 ⟨r0, rfl, hr, hb⟩
 replace BW := BW.trans (hb.mono BW.size)
 clear hb
 have hr0 : r0 ≠ 0 := fun h => HN.out ⟨(hr.zero h).1, (hr.zero h).2.at HS.out.2.2.1⟩
 have hrb : (r0 == 0) = false := by simpa using hr0
 clear hr
 go_wp2_with fail
 exact bodyPost_ret (v := .tuple #[.slice none 0 0, .int .i64 r0]) (by simp [results, Tryz.results18, go_sem]) rfl ⟨r0, rfl, hr0, BW⟩
end Go.Proofs.YtjamfkafgfpobaaGreatDoor
