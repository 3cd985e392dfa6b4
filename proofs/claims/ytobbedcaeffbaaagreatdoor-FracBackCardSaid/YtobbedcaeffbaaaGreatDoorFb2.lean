/-
  What fractions' calls answer of what may not be; floats, texts and what is read of them. Conditions: as each theorem states.
-/
import Derived.Test.YtobbedcaeffbaaaGreatDoorFyl
import Derived.Test.YtobbedcaeffbaaaGreatDoorFpr
import Derived.Test.YtobbedcaeffbaaaGreatDoorFrt
import Derived.Test.YtobbedcaeffbaaaGreatDoorFtx
import Derived.Test.YtobbedcaeffbaaaGreatDoorFp1
import Derived.Deep.RegionHeld3
import Derived.Deep.DeepCutAuto
import Derived.BigRegion
namespace Go.Proofs.YtobbedcaeffbaaaGreatDoor
open Go.RowKit Nb
open Fl Ieee
set_option maxHeartbeats 2000000 in
theorem beyond_two {g l : Nat} {k1 k2 : Int} {w : World} (K : Box w g [.int .i64 k1, .int .i64 k2]) :
  Calls Tryz.prog 7 #[.slice (some ⟨g, 0, none⟩) 2 l] w fun e w' => (∃ b : Bool, e = .returned (.bool b)) ∧ Below w.heap.size w w' := by
 have c0 := K.c 0 _ rfl
 have c1 := K.c 1 _ rfl
 clear K
 go_enter Tryz.func7, Tryz.ntmps7
 go_wp2
 refine wp_loop_rounds 3 ?_
 rw [rounds_succ]
 go_wp2
 all_goals try (go_ret; exact ⟨⟨_, rfl⟩, Below.refl _ _⟩)
 all_goals rw [rounds_succ]
 all_goals go_wp2
 all_goals try (go_ret; exact ⟨⟨_, rfl⟩, Below.refl _ _⟩)
 all_goals rw [rounds_succ]
 all_goals go_wp2
 all_goals (go_ret; exact ⟨⟨_, rfl⟩, Below.refl _ _⟩)
/-- What FromFloat answers of any float. -/
def FFl (W : World) (v : Nat) (f : Fv) (er : Int) : Prop := (mg v < 9218868437227405312 ∧ er = 0 ∧ Ff W (fl v) f) ∨ (9218868437227405312 ≤ mg v ∧ er = 6)
theorem FFl.kp {W W' : World} {v : Nat} {f : Fv} {er : Int} (h : FFl W v f er) (k : Kept W W') : FFl W' v f er := by
 rcases h with ⟨h1, h2, h3⟩ | h
 ·exact .inl ⟨h1, h2, h3.kp k⟩
 ·exact .inr h
theorem ff_any {v : Nat} {w : World} (hv : v < 18446744073709551616) : Calls Tryz.prog 9 #[.float .f64 v] w (fun e w' => ∃ (f : Fv) (er : Int), e = .returned (.tuple #[fv f, .int .i64 er]) ∧ FFl w' v f er ∧ Below w.heap.size w w') := by
 rcases Nat.lt_or_ge (mg v) 9218868437227405312 with h | h
 ·refine (from_fl hv h).mono ?_
  rintro _ w1 ⟨f, rfl, L, hb⟩
  exact ⟨f, 0, rfl, .inl ⟨h, rfl, L⟩, hb⟩
 ·refine (from_no hv h).mono ?_
  rintro _ w1 ⟨rfl, hb⟩
  exact ⟨fv0, 6, rfl, .inr ⟨h, rfl⟩, hb⟩
theorem nanb {x : Nat} {w : World} {b : Bool} (h : decide (9218868437227405312 < mg x) = b) : Calls Tryz.prog 10 #[.float .f64 x] w fun e w' => e = .returned (.bool b) ∧ Below w.heap.size w w' :=
 (isNaN_any x w).mono fun _ _ ⟨h1, h2⟩ => ⟨by rw [h1, h], h2 ▸ Below.refl _ _⟩
theorem signb {x : Nat} {w : World} (hx : x < 18446744073709551616) {b : Bool} (h : ng x = b) : Calls Tryz.prog 13 #[.float .f64 x] w fun e w' => e = .returned (.bool b) ∧ Below w.heap.size w w' :=
 (signbit_any x w hx).mono fun _ _ ⟨h1, h2⟩ => ⟨by rw [h1, h], h2 ▸ Below.refl _ _⟩
theorem mg0 : mg 0 = 0 ∧ key 0 = 0 := by decide
theorem lt_zero {v : Nat} (h : mg v < 9218868437227405312) : (FloatKind.f64.format.order v 0 == some .lt) = decide (key v < 0) := by
 rw [ord_lt, mg0.1, mg0.2]
 exact decide_eq_decide.2 ⟨fun k => k.2.2, fun k => ⟨by omega, by omega, k⟩⟩
theorem eq_key {u v : Nat} (h : mg u < 9218868437227405312) (h2 : mg v < 9218868437227405312) (hk : key u = key v) : (FloatKind.f64.format.order u v != some .eq) = false := by
 have : (FloatKind.f64.format.order u v == some .eq) = true := by rw [ord_eq]; exact decide_eq_true ⟨by omega, by omega, hk⟩
 unfold bne
 rw [this]
 rfl
/-- What Text answers of any fraction. -/
def TextR (W : World) (f : Fv) (t : ByteArray) (er : Int) : Prop := (∃ q, Ff W q f ∧ er = 0 ∧ t.data.toList = ftxt q ∧ (ftxt q).length ≤ 65536) ∨ er ≠ 0
theorem TextR.kp {W W' : World} {f : Fv} {t : ByteArray} {er : Int} (h : TextR W f t er) (k : Kept W W') : TextR W' f t er := by
 rcases h with ⟨q, h1, h2⟩ | h
 ·exact .inl ⟨q, h1.kp k, h2⟩
 ·exact .inr h
/-- What Parse answered, of a text. -/
def ParR (W : World) (s : ByteArray) (g : Fv) (er : Int) : Prop := (er = 0 ∧ s.size ≤ 65536 ∧ IsFr s.data.toList ∧ Ff W (frV s.data.toList) g) ∨ (er ≠ 0 ∧ ¬ (s.size ≤ 65536 ∧ IsFr s.data.toList ∧ FitsQ (frV s.data.toList)))
theorem ParR.kp {W W' : World} {s : ByteArray} {g : Fv} {er : Int} (h : ParR W s g er) (k : Kept W W') : ParR W' s g er := by
 rcases h with ⟨h1, h2, h3, h4⟩ | h
 ·exact .inl ⟨h1, h2, h3, h4.kp k⟩
 ·exact .inr h
theorem parse_all {s : ByteArray} {w : World} (hM : Mxl w) : Calls Tryz.prog 15 #[.string s] w (fun e w' => ∃ (g : Fv) (er : Int), e = .returned (.tuple #[fv g, .int .i64 er]) ∧ ParR w' s g er ∧ Below w.heap.size w w') := by
 by_cases h : s.size ≤ 65536
 ·refine (r_parse_short (by omega) hM).mono ?_
  rintro _ w1 ⟨⟨g, er, rfl, ⟨h1, h2, h3, h4, h5⟩ | ⟨h1, h2, h3⟩ | ⟨h1, h2, h3⟩ | ⟨h1, h2, h3⟩⟩, hb⟩
  ·exact ⟨g, er, rfl, .inl ⟨h1, h2, h3, h5⟩, hb⟩
  ·exact ⟨g, er, rfl, .inr ⟨by omega, fun k => by omega⟩, hb⟩
  ·exact ⟨g, er, rfl, .inr ⟨by omega, fun k => h2 k.2.1⟩, hb⟩
  ·exact ⟨g, er, rfl, .inr ⟨by omega, fun k => h2 k.2.2⟩, hb⟩
 ·refine (r_parse_long (by omega)).mono ?_
  rintro _ w1 ⟨⟨g, er, rfl, ⟨h1, h2, h3, h4, h5⟩ | ⟨h1, h2, h3⟩ | ⟨h1, h2, h3⟩ | ⟨h1, h2, h3⟩⟩, hb⟩
  ·omega
  ·exact ⟨g, er, rfl, .inr ⟨by omega, fun k => by omega⟩, hb⟩
  ·exact ⟨g, er, rfl, .inr ⟨by omega, fun k => h2 k.2.1⟩, hb⟩
  ·exact ⟨g, er, rfl, .inr ⟨by omega, fun k => h2 k.2.2⟩, hb⟩
theorem size_list (t : ByteArray) : t.data.toList.length = t.size := Array.length_toList
/-- A fraction's text is read as the fraction. -/
theorem ParR.text {W : World} {t : ByteArray} {q : Rat} {g : Fv} {er : Int} (h : ParR W t g er) (ht : t.data.toList = ftxt q) (hl : (ftxt q).length ≤ 65536) (hf : FitsQ q) : er = 0 ∧ Ff W q g := by
 have h1 := ftxt_fr q
 rcases h with ⟨h0, _, _, h4⟩ | ⟨_, h⟩
 ·exact ⟨h0, by rwa [ht, h1.2] at h4⟩
 ·exact absurd ⟨by rw [← size_list, ht]; exact hl, by rw [ht]; exact h1.1, by rw [ht, h1.2]; exact hf⟩ h
theorem sgn_nn {q : Rat} (h : ¬ q.num < 0) : 0 ≤ sgnQ q := by
 unfold sgnQ
 rcases Int.lt_trichotomy q.num 0 with h1 | h1 | h1
 ·exact absurd h1 h
 ·rw [h1]; decide
 ·rw [Int.sign_eq_one_of_pos h1]; decide
theorem sgn_lt {q : Rat} (h : q.num < 0) : sgnQ q < 0 := by
 unfold sgnQ
 rw [Int.sign_eq_neg_one_of_neg h]; decide
theorem bytes_eq {s t : ByteArray} (h : s.data.toList = t.data.toList) : s = t := by
 cases s; cases t
 simp only [ByteArray.mk.injEq]
 exact Array.toList_inj.1 h
theorem text_of {s t : ByteArray} {er : Int} (hs : s.size ≤ 65536) (hfr : IsFr s.data.toList) (hx : (er = 0 ∧ t.data.toList = ftxt (frV s.data.toList) ∧ (ftxt (frV s.data.toList)).length ≤ 65536) ∨ (er = 4 ∧ 65536 < (ftxt (frV s.data.toList)).length)) : er = 0 ∧ t = s := by
 rw [ftxt_back hfr] at hx
 rcases hx with ⟨h1, h2, _⟩ | ⟨_, h⟩
 ·exact ⟨h1, bytes_eq h2⟩
 ·rw [size_list] at h; omega
set_option maxHeartbeats 8000000 in
set_option maxRecDepth 20000 in
theorem r_text_bad {f : Fv} {w : World} (X : Fx w f) (hn : ¬ okv f) :
    Calls Tryz.prog 14 #[fv f] w (fun e w' => e = .returned (.tuple #[.string ⟨#[]⟩, .int .i64 1]) ∧ Below w.heap.size w w') := by
 have HB := Lib.hid (chkv_bad hn)
 clear hn
 have BW : Below w.heap.size w w := Below.refl _ _
 obtain ⟨V1, e2, hb3, K4, -, -⟩ := alloc_new w [.bool f.n, .slice f.A f.xs.length f.c, .bool f.m, .slice f.B f.ds.length f.d] 27
 replace X := X.kp (Kept.of hb3)
 replace BW := BW.trans (hb3.mono BW.size)
 clear hb3
 go_enter Tryz.func14, Tryz.ntmps14
 go_wp2_with fail
 rw [← e2]
 clear e2
 refine (r_check X).mono ?_
 rintro _ w5 ⟨rfl, hb⟩
 replace BW := BW.trans (hb.mono BW.size)
 clear hb
 rw [HB.out]
 go_wp2_with fail
 exact bodyPost_ret (v := .tuple #[.string ⟨#[]⟩, .int .i64 1]) (by simp [results, Tryz.results14, go_sem]) rfl ⟨rfl, BW⟩
theorem f_chk2 {a b : Fv} {g l : Nat} {w : World} (Fa : Fx w a) (Fb : Fx w b) (K : Box w g [.bool a.n, .slice a.A a.xs.length a.c, .bool a.m, .slice a.B a.ds.length a.d, .bool b.n, .slice b.A b.xs.length b.c, .bool b.m, .slice b.B b.ds.length b.d]) : Calls Tryz.prog 87 #[.slice (some ⟨g, 0, none⟩) 2 l] w fun e w' => e = .returned (.int .i64 (if chkv a = 0 then chkv b else 1)) ∧ Below w.heap.size w w' := by
 obtain ⟨c0, c1, c2, c3, c4, c5, c6, c7⟩ := K.c8
 exact fcheck_two g a.n a.m b.n b.m a.A a.B b.A b.B a.xs a.ds b.xs b.ds l a.c a.d b.c b.d w Fa Fb K.lt c0 c1 c2 c3 c4 c5 c6 c7
set_option maxHeartbeats 8000000 in
set_option maxRecDepth 20000 in
theorem r_reckon_bad {f : Fv} {v : Value} {w : World} (X : Fx w f) (hn : ¬ okv f) :
    Calls Tryz.prog 75 #[fv f, fv f, v] w (fun e w' => e = .returned (.tuple #[.agg #[.bool false, .slice none 0 0, .bool false, .slice none 0 0], .int .i64 1]) ∧ Below w.heap.size w w') := by
 have HB := Lib.hid (chkv_bad hn)
 clear hn
 have BW : Below w.heap.size w w := Below.refl _ _
 obtain ⟨V2, e3, hb4, K5, -, z1⟩ := alloc_new w [.bool f.n, .slice f.A f.xs.length f.c, .bool f.m, .slice f.B f.ds.length f.d] 27
 replace X := X.kp (Kept.of hb4)
 replace BW := BW.trans (hb4.mono BW.size)
 clear hb4
 obtain ⟨V7, e8, hb9, K10, -, z6⟩ := alloc_new V2 [.bool f.n, .slice f.A f.xs.length f.c, .bool f.m, .slice f.B f.ds.length f.d] 27
 rw [z1] at K10 z6
 replace K5 := K5.on hb9
 replace X := X.kp (Kept.of hb9)
 replace BW := BW.trans (hb9.mono BW.size)
 clear hb9
 obtain ⟨V12, e13, hb14, K15, Z16, z11⟩ := alloc_new V7 [.bool false, .slice none 0 0, .bool false, .slice none 0 0] 27
 rw [z6] at K15 Z16 z11
 have n17 : w.heap.size ≠ w.heap.size + 1 + 1 := Nat.ne_of_lt (z6 ▸ K5.lt)
 have n18 : w.heap.size + 1 ≠ w.heap.size + 1 + 1 := Nat.ne_of_lt (z6 ▸ K10.lt)
 have g19 : w.heap.size ≤ w.heap.size + 1 + 1 := z6 ▸ BW.size
 replace X := X.kp (Kept.of hb14)
 replace BW := BW.trans (hb14.mono BW.size)
 clear hb14
 obtain ⟨V20, e21, hb22, K23, -, -⟩ := alloc_new V12 [.bool f.n, .slice f.A f.xs.length f.c, .bool f.m, .slice f.B f.ds.length f.d, .bool f.n, .slice f.A f.xs.length f.c, .bool f.m, .slice f.B f.ds.length f.d] 27
 rw [z11] at K23
 have n24 : w.heap.size + 1 + 1 ≠ w.heap.size + 1 + 1 + 1 := Nat.ne_of_lt (z11 ▸ K15.lt)
 replace K15 := K15.on hb22
 replace Z16 := Z16.on hb22
 replace X := X.kp (Kept.of hb22)
 replace BW := BW.trans (hb22.mono BW.size)
 clear hb22
 clear z1 z6 z11
 go_enter Tryz.func75, Tryz.ntmps75
 go_wp2_with fail
 rw [← e3, ← e8, ← e13, ← e21]
 clear e3 e8 e13 e21
 refine (f_chk2 X X K23).mono ?_
 rintro _ w25 ⟨rfl, hb⟩
 replace K15 := K15.on hb
 replace Z16 := Z16.on hb
 replace BW := BW.trans (hb.mono BW.size)
 clear hb
 rw [HB.out, if_neg (by decide)]
 obtain ⟨c26, c27, c28, c29⟩ := K15.c4
 obtain ⟨c30, c31, c32, c33⟩ := Z16.f4
 obtain ⟨V34, hk36⟩ : ∃ V34, V34 = w25.setCells (w.heap.size + 1 + 1) 0 [.bool false, .slice none 0 0, .bool false, .slice none 0 0] := ⟨_, rfl⟩
 have e35 := hk36
 simp only [World.setCells, Nat.zero_add, Nat.reduceAdd] at e35
 have hk37 := Kept.overE hk36 K15 rfl (Nat.le_of_ble_eq_true rfl)
 replace K15 := K15.overE hk36 rfl
 replace BW := Below.putE BW hk36 g19
 clear hk36 hk37
 go_wp2_with fail
 clear c26 c27 c28 c29 c30 c31 c32 c33
 rw [← e35]
 clear e35
 obtain ⟨c38, c39, c40, c41⟩ := K15.c4
 exact bodyPost_ret (v := .tuple #[.agg #[.bool false, .slice none 0 0, .bool false, .slice none 0 0], .int .i64 1]) (by simp [results, Tryz.results75, go_sem, c38, c39, c40, c41]) rfl ⟨rfl, BW⟩
set_option maxHeartbeats 8000000 in
set_option maxRecDepth 20000 in
theorem r_mul_bad {f : Fv} {w : World} (X : Fx w f) (hn : ¬ okv f) :
    Calls Tryz.prog 18 #[fv f, fv f] w (fun e w' => e = .returned (.tuple #[.agg #[.bool false, .slice none 0 0, .bool false, .slice none 0 0], .int .i64 1]) ∧ Below w.heap.size w w') := by
 have HB := Lib.hid hn
 clear hn
 have BW : Below w.heap.size w w := Below.refl _ _
 obtain ⟨V2, e3, hb4, K5, -, z1⟩ := alloc_new w [.bool f.n, .slice f.A f.xs.length f.c, .bool f.m, .slice f.B f.ds.length f.d] 27
 replace X := X.kp (Kept.of hb4)
 replace BW := BW.trans (hb4.mono BW.size)
 clear hb4
 obtain ⟨V7, e8, hb9, K10, -, z6⟩ := alloc_new V2 [.bool f.n, .slice f.A f.xs.length f.c, .bool f.m, .slice f.B f.ds.length f.d] 27
 rw [z1] at K10 z6
 replace K5 := K5.on hb9
 replace X := X.kp (Kept.of hb9)
 replace BW := BW.trans (hb9.mono BW.size)
 clear hb9
 obtain ⟨V11, e12, hb13, K14, Z15, -⟩ := alloc_new V7 [.bool false, .slice none 0 0, .bool false, .slice none 0 0] 27
 rw [z6] at K14 Z15
 have n16 : w.heap.size ≠ w.heap.size + 1 + 1 := Nat.ne_of_lt (z6 ▸ K5.lt)
 have n17 : w.heap.size + 1 ≠ w.heap.size + 1 + 1 := Nat.ne_of_lt (z6 ▸ K10.lt)
 have g18 : w.heap.size ≤ w.heap.size + 1 + 1 := z6 ▸ BW.size
 replace X := X.kp (Kept.of hb13)
 replace BW := BW.trans (hb13.mono BW.size)
 clear hb13
 clear z1 z6
 go_enter Tryz.func18, Tryz.ntmps18
 go_wp2_with fail
 rw [← e3, ← e8, ← e12]
 clear e3 e8 e12
 refine (r_reckon_bad X HB.out).mono ?_
 rintro _ w19 ⟨rfl, hb⟩
 replace K14 := K14.on hb
 replace Z15 := Z15.on hb
 replace BW := BW.trans (hb.mono BW.size)
 clear hb
 obtain ⟨c20, c21, c22, c23⟩ := K14.c4
 obtain ⟨c24, c25, c26, c27⟩ := Z15.f4
 obtain ⟨V28, hk30⟩ : ∃ V28, V28 = w19.setCells (w.heap.size + 1 + 1) 0 [.bool false, .slice none 0 0, .bool false, .slice none 0 0] := ⟨_, rfl⟩
 have e29 := hk30
 simp only [World.setCells, Nat.zero_add, Nat.reduceAdd] at e29
 have hk31 := Kept.overE hk30 K14 rfl (Nat.le_of_ble_eq_true rfl)
 replace K14 := K14.overE hk30 rfl
 replace BW := Below.putE BW hk30 g18
 clear hk30 hk31
 go_wp2_with fail
 clear c20 c21 c22 c23 c24 c25 c26 c27
 rw [← e29]
 clear e29
 obtain ⟨c32, c33, c34, c35⟩ := K14.c4
 exact bodyPost_ret (v := .tuple #[.agg #[.bool false, .slice none 0 0, .bool false, .slice none 0 0], .int .i64 1]) (by simp [results, Tryz.results18, go_sem, c32, c33, c34, c35]) rfl ⟨rfl, BW⟩
theorem text_all {f : Fv} {w : World} (X : Fx w f) (htab : Tab w) : Calls Tryz.prog 14 #[fv f] w (fun e w' => ∃ (t : ByteArray) (er : Int), e = .returned (.tuple #[.string t, .int .i64 er]) ∧ TextR w' f t er ∧ Below w.heap.size w w') := by
 by_cases h : okv f
 ·obtain ⟨q, L⟩ := h.ff X
  refine (r_text L htab).mono ?_
  rintro _ w1 ⟨⟨t, er, rfl, ⟨h1, h2, h3⟩ | ⟨h1, h2⟩⟩, hb⟩
  ·exact ⟨t, er, rfl, .inl ⟨q, L.kp (Kept.of hb), h1, h2, h3⟩, hb⟩
  ·exact ⟨t, er, rfl, .inr (by omega), hb⟩
 ·refine (r_text_bad X h).mono ?_
  rintro _ w1 ⟨rfl, hb⟩
  exact ⟨_, 1, rfl, .inr (by decide), hb⟩
end Go.Proofs.YtobbedcaeffbaaaGreatDoor
