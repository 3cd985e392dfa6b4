/-
  Matrices of numbers that wrap round keep the laws of matrices (MatRing): the walk. Condition: numbers of 64 bits.
-/
import Derived.Test.YtgoackkfjieahaaMrl
namespace Go.Proofs.Ytgoackkfjieahaa.W
open Go.RowKit
set_option maxHeartbeats 20000000 in
set_option maxRecDepth 100000 in
theorem ring0 (X Y Z XY YZ T YX TX : Mz) (d e dy t : Int) (w : World) (E1 : Hid (R.mul X Y = XY)) (E2 : Hid (R.mul XY Z = T)) (E3 : Hid (R.mul Y Z = YZ)) (E4 : Hid (R.mul X YZ = T)) (E5 : Hid (R.mul X ⟨1, 0, 0, 1⟩ = X)) (E6 : Hid (R.mul ⟨1, 0, 0, 1⟩ X = X)) (D1 : Hid (R.det X = d)) (D2 : Hid (R.det XY = e)) (D3 : Hid (R.det Y = dy)) (T1 : Hid (R.tr XY = t)) (E7 : Hid (R.mul Y X = YX)) (T2 : Hid (R.tr YX = t)) (U1 : Hid (R.turned X = TX)) (E8 : Hid (R.mul X TX = ⟨d, 0, 0, d⟩)) (E9 : Hid (R.mul TX X = ⟨d, 0, 0, d⟩)) (U2 : Hid (R.turned TX = X)) (EW : IntKind.i64.wrap (d * dy) = e) :
    Calls Try.prog 6 #[mv X, mv Y, mv Z] w (fun e w' => e = .returned (.bool true) ∧ Below w.heap.size w w') := by
  have BW : Below w.heap.size w w := Below.refl _ _
  obtain ⟨V2, e3, hb4, K5, -, z1⟩ := alloc_new w [.int .i64 X.a, .int .i64 X.b, .int .i64 X.c, .int .i64 X.d] 23
  replace BW := BW.trans (hb4.mono BW.size)
  clear hb4
  obtain ⟨V7, e8, hb9, K10, -, z6⟩ := alloc_new V2 [.int .i64 Y.a, .int .i64 Y.b, .int .i64 Y.c, .int .i64 Y.d] 23
  rw [z1] at K10 z6
  replace BW := BW.trans (hb9.mono BW.size)
  clear hb9
  obtain ⟨V11, e12, hb13, K14, -, -⟩ := alloc_new V7 [.int .i64 Z.a, .int .i64 Z.b, .int .i64 Z.c, .int .i64 Z.d] 23
  rw [z6] at K14
  replace K10 := K10.on hb13
  replace BW := BW.trans (hb13.mono BW.size)
  clear hb13
  clear z1 z6
  go_enter Try.func6, Try.ntmps6
  go_wp2_with fail
  rw [← e3, ← e8, ← e12]
  clear e3 e8 e12
  refine (wrapw X _).mono ?_
  rintro _ w15 ⟨rfl, hb⟩
  replace K10 := K10.on hb
  replace K14 := K14.on hb
  replace BW := BW.trans (hb.mono BW.size)
  clear hb
  obtain ⟨V16, e17, hb18, K19, -, -⟩ := alloc_new w15 [.int .i64 X.a, .int .i64 X.b, .int .i64 X.c, .int .i64 X.d] 31
  replace K10 := K10.on hb18
  replace K14 := K14.on hb18
  replace BW := BW.trans (hb18.mono BW.size)
  clear hb18
  obtain ⟨c20, c21, c22, c23⟩ := K10.c4
  rw [e17] at c20 c21 c22 c23
  go_wp2_with fail
  clear c20 c21 c22 c23
  rw [← e17]
  clear e17
  generalize w15.heap.size = b24 at *
  refine (wrapw Y _).mono ?_
  rintro _ w25 ⟨rfl, hb⟩
  replace K14 := K14.on hb
  replace K19 := K19.on hb
  replace BW := BW.trans (hb.mono BW.size)
  clear hb
  obtain ⟨V26, e27, hb28, K29, -, -⟩ := alloc_new w25 [.int .i64 Y.a, .int .i64 Y.b, .int .i64 Y.c, .int .i64 Y.d] 31
  replace K14 := K14.on hb28
  replace K19 := K19.on hb28
  replace BW := BW.trans (hb28.mono BW.size)
  clear hb28
  obtain ⟨c30, c31, c32, c33⟩ := K14.c4
  rw [e27] at c30 c31 c32 c33
  go_wp2_with fail
  clear c30 c31 c32 c33
  rw [← e27]
  clear e27
  generalize w25.heap.size = b34 at *
  refine (wrapw Z _).mono ?_
  rintro _ w35 ⟨rfl, hb⟩
  replace K19 := K19.on hb
  replace K29 := K29.on hb
  replace BW := BW.trans (hb.mono BW.size)
  clear hb
  obtain ⟨V36, e37, hb38, K39, -, -⟩ := alloc_new w35 [.int .i64 Z.a, .int .i64 Z.b, .int .i64 Z.c, .int .i64 Z.d] 31
  replace K19 := K19.on hb38
  replace K29 := K29.on hb38
  replace BW := BW.trans (hb38.mono BW.size)
  clear hb38
  go_wp2_with fail
  rw [← e37]
  clear e37
  generalize w35.heap.size = b40 at *
  refine (wrapw ⟨1, 0, 0, 1⟩ _).mono ?_
  rintro _ w41 ⟨rfl, hb⟩
  replace K19 := K19.on hb
  replace K29 := K29.on hb
  replace K39 := K39.on hb
  replace BW := BW.trans (hb.mono BW.size)
  clear hb
  obtain ⟨V42, e43, hb44, K45, -, -⟩ := alloc_new w41 [.int .i64 1, .int .i64 0, .int .i64 0, .int .i64 1] 31
  replace K19 := K19.on hb44
  replace K29 := K29.on hb44
  replace K39 := K39.on hb44
  replace BW := BW.trans (hb44.mono BW.size)
  clear hb44
  obtain ⟨c46, c47, c48, c49⟩ := K19.c4
  obtain ⟨c50, c51, c52, c53⟩ := K29.c4
  rw [e43] at c46 c47 c48 c49 c50 c51 c52 c53
  go_wp2_with fail
  clear c46 c47 c48 c49 c50 c51 c52 c53
  rw [← e43]
  clear e43
  generalize w41.heap.size = b54 at *
  refine (mulT E1.out).mono ?_
  rintro _ w55 ⟨rfl, hb⟩
  replace K19 := K19.on hb
  replace K29 := K29.on hb
  replace K39 := K39.on hb
  replace K45 := K45.on hb
  replace BW := BW.trans (hb.mono BW.size)
  clear hb
  obtain ⟨V56, e57, hb58, K59, -, -⟩ := alloc_new w55 [.int .i64 XY.a, .int .i64 XY.b, .int .i64 XY.c, .int .i64 XY.d] 31
  replace K19 := K19.on hb58
  replace K29 := K29.on hb58
  replace K39 := K39.on hb58
  replace K45 := K45.on hb58
  replace BW := BW.trans (hb58.mono BW.size)
  clear hb58
  obtain ⟨c60, c61, c62, c63⟩ := K19.c4
  rw [e57] at c60 c61 c62 c63
  go_wp2_with fail
  clear c60 c61 c62 c63
  rw [← e57]
  clear e57
  generalize w55.heap.size = b64 at *
  refine (detT D1.out).mono ?_
  rintro _ w65 ⟨rfl, hb⟩
  replace K19 := K19.on hb
  replace K29 := K29.on hb
  replace K39 := K39.on hb
  replace K45 := K45.on hb
  replace K59 := K59.on hb
  replace BW := BW.trans (hb.mono BW.size)
  clear hb
  go_wp2_with fail
  refine wp_region_noPanic ?_
  have hb : Below w65.heap.size w65 w65.drew := (Below.refl _ _).drew
  replace K19 := K19.on hb
  replace K29 := K29.on hb
  replace K39 := K39.on hb
  replace K45 := K45.on hb
  replace K59 := K59.on hb
  replace BW := BW.trans (hb.mono BW.size)
  clear hb
  refine wp_region_held_drew (S := (fun wx => Cs wx (b24) 0 [.int .i64 X.a, .int .i64 X.b, .int .i64 X.c, .int .i64 X.d] ∧ Cs wx (b34) 0 [.int .i64 Y.a, .int .i64 Y.b, .int .i64 Y.c, .int .i64 Y.d] ∧ Cs wx (b40) 0 [.int .i64 Z.a, .int .i64 Z.b, .int .i64 Z.c, .int .i64 Z.d] ∧ Cs wx (b54) 0 [.int .i64 1, .int .i64 0, .int .i64 0, .int .i64 1] ∧ Cs wx (b64) 0 [.int .i64 XY.a, .int .i64 XY.b, .int .i64 XY.c, .int .i64 XY.d])) (by kernel_rfl) (by exact ⟨K19.cs, K29.cs, K39.cs, K45.cs, K59.cs⟩) (fun hHeld => ?_)
  generalize w65.drew = Vd66 at *
  refine pT 0 ?_
  (try simp only [p0, p1, p2, p3])
  refine pT 1 ?_
  (try simp only [p0, p1, p2, p3])
  refine pT 3 ?_
  (try simp only [p0, p1, p2, p3])
  refine pT 4 ?_
  (try simp only [p0, p1, p2, p3])
  refine pT 5 ?_
  (try simp only [p0, p1, p2, p3])
  refine pR1 2 (fun K hK => ?_)
  go_simp
  (go_at_call 13; with_reducible refine (mulT E2.out).mono ?_)
  rintro _ w67 ⟨rfl, hb⟩
  (try go_wp2_with fail)
  replace K19 := K19.on hb
  replace K29 := K29.on hb
  replace K39 := K39.on hb
  replace K45 := K45.on hb
  replace K59 := K59.on hb
  replace BW := BW.trans (hb.mono BW.size)
  clear hb
  refine hK.out _ _ (by exact ⟨K19.cs, K29.cs, K39.cs, K45.cs, K59.cs⟩) (fun hHeld => ?_)
  clear hK
  (try simp only [p0, p1, p2, p3])
  refine pR1 6 (fun K hK => ?_)
  go_simp
  (go_at_call 13; with_reducible refine (mulT E3.out).mono ?_)
  rintro _ w68 ⟨rfl, hb⟩
  (try go_wp2_with fail)
  replace K19 := K19.on hb
  replace K29 := K29.on hb
  replace K39 := K39.on hb
  replace K45 := K45.on hb
  replace K59 := K59.on hb
  replace BW := BW.trans (hb.mono BW.size)
  clear hb
  refine hK.out _ _ (by exact ⟨K19.cs, K29.cs, K39.cs, K45.cs, K59.cs⟩) (fun hHeld => ?_)
  clear hK
  (try simp only [p0, p1, p2, p3])
  refine pR1 7 (fun K hK => ?_)
  go_simp
  (go_at_call 13; with_reducible refine (mulT E4.out).mono ?_)
  rintro _ w69 ⟨rfl, hb⟩
  (try go_wp2_with fail)
  replace K19 := K19.on hb
  replace K29 := K29.on hb
  replace K39 := K39.on hb
  replace K45 := K45.on hb
  replace K59 := K59.on hb
  replace BW := BW.trans (hb.mono BW.size)
  clear hb
  refine hK.out _ _ (by exact ⟨K19.cs, K29.cs, K39.cs, K45.cs, K59.cs⟩) (fun hHeld => ?_)
  clear hK
  (try simp only [p0, p1, p2, p3])
  refine pT 8 ?_
  (try simp only [p0, p1, p2, p3])
  refine pT 9 ?_
  (try simp only [p0, p1, p2, p3])
  refine pT 10 ?_
  (try simp only [p0, p1, p2, p3])
  refine pT 11 ?_
  (try simp only [p0, p1, p2, p3])
  refine pT 13 ?_
  (try simp only [p0, p1, p2, p3])
  refine pR1 12 (fun K hK => ?_)
  go_simp
  (go_at_call 13; with_reducible refine (mulT E5.out).mono ?_)
  rintro _ w70 ⟨rfl, hb⟩
  (try go_wp2_with fail)
  replace K19 := K19.on hb
  replace K29 := K29.on hb
  replace K39 := K39.on hb
  replace K45 := K45.on hb
  replace K59 := K59.on hb
  replace BW := BW.trans (hb.mono BW.size)
  clear hb
  refine hK.out _ _ (by exact ⟨K19.cs, K29.cs, K39.cs, K45.cs, K59.cs⟩) (fun hHeld => ?_)
  clear hK
  (try simp only [p0, p1, p2, p3])
  refine pT 14 ?_
  (try simp only [p0, p1, p2, p3])
  refine pT 15 ?_
  (try simp only [p0, p1, p2, p3])
  refine pT 16 ?_
  (try simp only [p0, p1, p2, p3])
  refine pT 17 ?_
  (try simp only [p0, p1, p2, p3])
  refine pT 18 ?_
  (try simp only [p0, p1, p2, p3])
  refine pT 20 ?_
  (try simp only [p0, p1, p2, p3])
  refine pR1 19 (fun K hK => ?_)
  go_simp
  (go_at_call 13; with_reducible refine (mulT E6.out).mono ?_)
  rintro _ w71 ⟨rfl, hb⟩
  (try go_wp2_with fail)
  replace K19 := K19.on hb
  replace K29 := K29.on hb
  replace K39 := K39.on hb
  replace K45 := K45.on hb
  replace K59 := K59.on hb
  replace BW := BW.trans (hb.mono BW.size)
  clear hb
  refine hK.out _ _ (by exact ⟨K19.cs, K29.cs, K39.cs, K45.cs, K59.cs⟩) (fun hHeld => ?_)
  clear hK
  (try simp only [p0, p1, p2, p3])
  refine pT 21 ?_
  (try simp only [p0, p1, p2, p3])
  refine pT 22 ?_
  (try simp only [p0, p1, p2, p3])
  refine wpAnyH_done (by kernel_rfl) (NoPanic.normal ?_) _
  go_wp2_with fail
  refine wp_region_noPanic ?_
  have hb : Below w71.heap.size w71 w71.drew := (Below.refl _ _).drew
  replace K19 := K19.on hb
  replace K29 := K29.on hb
  replace K59 := K59.on hb
  replace BW := BW.trans (hb.mono BW.size)
  clear hb
  refine wp_region_held_drew (S := (fun wx => Cs wx (b24) 0 [.int .i64 X.a, .int .i64 X.b, .int .i64 X.c, .int .i64 X.d] ∧ Cs wx (b34) 0 [.int .i64 Y.a, .int .i64 Y.b, .int .i64 Y.c, .int .i64 Y.d] ∧ Cs wx (b64) 0 [.int .i64 XY.a, .int .i64 XY.b, .int .i64 XY.c, .int .i64 XY.d])) (by kernel_rfl) (by exact ⟨K19.cs, K29.cs, K59.cs⟩) (fun hHeld => ?_)
  generalize w71.drew = Vd72 at *
  refine pT 0 ?_
  (try simp only [p0, p1, p2, p3])
  refine pT 2 ?_
  (try simp only [p0, p1, p2, p3])
  refine pT 3 ?_
  (try simp only [p0, p1, p2, p3])
  refine pR1 1 (fun K hK => ?_)
  go_simp
  (go_at_call 15; with_reducible refine (detT D2.out).mono ?_)
  rintro _ w73 ⟨rfl, hb⟩
  (try go_wp2_with fail)
  replace K19 := K19.on hb
  replace K29 := K29.on hb
  replace K59 := K59.on hb
  replace BW := BW.trans (hb.mono BW.size)
  clear hb
  refine hK.out _ _ (by exact ⟨K19.cs, K29.cs, K59.cs⟩) (fun hHeld => ?_)
  clear hK
  (try simp only [p0, p1, p2, p3])
  refine pR1 4 (fun K hK => ?_)
  go_simp
  (go_at_call 15; with_reducible refine (detT D3.out).mono ?_)
  rintro _ w74 ⟨rfl, hb⟩
  (try go_wp2_with fail)
  replace K19 := K19.on hb
  replace K29 := K29.on hb
  replace K59 := K59.on hb
  replace BW := BW.trans (hb.mono BW.size)
  clear hb
  refine hK.out _ _ (by exact ⟨K19.cs, K29.cs, K59.cs⟩) (fun hHeld => ?_)
  clear hK
  (try simp only [p0, p1, p2, p3])
  refine pT 5 ?_
  (try simp only [p0, p1, p2, p3])
  refine pT 6 ?_
  (try simp only [p0, p1, p2, p3])
  refine pT 7 ?_
  (try simp only [p0, p1, p2, p3])
  refine pT 8 ?_
  (try simp only [p0, p1, p2, p3])
  refine pT 10 ?_
  (try simp only [p0, p1, p2, p3])
  refine pT 11 ?_
  (try simp only [p0, p1, p2, p3])
  refine pR1 9 (fun K hK => ?_)
  go_simp
  (go_at_call 17; with_reducible refine (traceT T1.out).mono ?_)
  rintro _ w75 ⟨rfl, hb⟩
  (try go_wp2_with fail)
  replace K19 := K19.on hb
  replace K29 := K29.on hb
  replace K59 := K59.on hb
  replace BW := BW.trans (hb.mono BW.size)
  clear hb
  refine hK.out _ _ (by exact ⟨K19.cs, K29.cs, K59.cs⟩) (fun hHeld => ?_)
  clear hK
  (try simp only [p0, p1, p2, p3])
  refine pR1 12 (fun K hK => ?_)
  go_simp
  (go_at_call 13; with_reducible refine (mulT E7.out).mono ?_)
  rintro _ w76 ⟨rfl, hb⟩
  (try go_wp2_with fail)
  replace K19 := K19.on hb
  replace K29 := K29.on hb
  replace K59 := K59.on hb
  replace BW := BW.trans (hb.mono BW.size)
  clear hb
  refine hK.out _ _ (by exact ⟨K19.cs, K29.cs, K59.cs⟩) (fun hHeld => ?_)
  clear hK
  (try simp only [p0, p1, p2, p3])
  refine pR1 13 (fun K hK => ?_)
  go_simp
  (go_at_call 17; with_reducible refine (traceT T2.out).mono ?_)
  rintro _ w77 ⟨rfl, hb⟩
  (try go_wp2_with fail)
  replace K19 := K19.on hb
  replace K29 := K29.on hb
  replace K59 := K59.on hb
  replace BW := BW.trans (hb.mono BW.size)
  clear hb
  refine hK.out _ _ (by exact ⟨K19.cs, K29.cs, K59.cs⟩) (fun hHeld => ?_)
  clear hK
  (try simp only [p0, p1, p2, p3])
  refine pT 14 ?_
  (try simp only [p0, p1, p2, p3])
  refine pT 15 ?_
  (try simp only [p0, p1, p2, p3])
  refine wpAnyH_done (by kernel_rfl) (NoPanic.normal ?_) _
  go_wp2_with fail
  refine (wrapw ⟨d, 0, 0, d⟩ _).mono ?_
  rintro _ w78 ⟨rfl, hb⟩
  replace K19 := K19.on hb
  replace BW := BW.trans (hb.mono BW.size)
  clear hb
  obtain ⟨V79, e80, hb81, K82, -, -⟩ := alloc_new w78 [.int .i64 d, .int .i64 0, .int .i64 0, .int .i64 d] 31
  replace K19 := K19.on hb81
  replace BW := BW.trans (hb81.mono BW.size)
  clear hb81
  go_wp2_with fail
  rw [← e80]
  clear e80
  generalize w78.heap.size = b83 at *
  refine wp_region_noPanic ?_
  have hb : Below V79.heap.size V79 V79.drew := (Below.refl _ _).drew
  replace K19 := K19.on hb
  replace K82 := K82.on hb
  replace BW := BW.trans (hb.mono BW.size)
  clear hb
  refine wp_region_held_drew (S := (fun wx => Cs wx (b24) 0 [.int .i64 X.a, .int .i64 X.b, .int .i64 X.c, .int .i64 X.d] ∧ Cs wx (b83) 0 [.int .i64 d, .int .i64 0, .int .i64 0, .int .i64 d])) (by kernel_rfl) (by exact ⟨K19.cs, K82.cs⟩) (fun hHeld => ?_)
  generalize V79.drew = Vd84 at *
  refine pT 0 ?_
  (try simp only [p0, p1, p2, p3])
  refine pT 1 ?_
  (try simp only [p0, p1, p2, p3])
  refine pT 4 ?_
  (try simp only [p0, p1, p2, p3])
  refine pR1 2 (fun K hK => ?_)
  go_simp
  (go_at_call 19; with_reducible refine (turnedT U1.out).mono ?_)
  rintro _ w85 ⟨rfl, hb⟩
  (try go_wp2_with fail)
  replace K19 := K19.on hb
  replace K82 := K82.on hb
  replace BW := BW.trans (hb.mono BW.size)
  clear hb
  refine hK.out _ _ (by exact ⟨K19.cs, K82.cs⟩) (fun hHeld => ?_)
  clear hK
  (try simp only [p0, p1, p2, p3])
  refine pR1 3 (fun K hK => ?_)
  go_simp
  (go_at_call 13; with_reducible refine (mulT E8.out).mono ?_)
  rintro _ w86 ⟨rfl, hb⟩
  (try go_wp2_with fail)
  replace K19 := K19.on hb
  replace K82 := K82.on hb
  replace BW := BW.trans (hb.mono BW.size)
  clear hb
  refine hK.out _ _ (by exact ⟨K19.cs, K82.cs⟩) (fun hHeld => ?_)
  clear hK
  (try simp only [p0, p1, p2, p3])
  refine pT 5 ?_
  (try simp only [p0, p1, p2, p3])
  refine pT 6 ?_
  (try simp only [p0, p1, p2, p3])
  refine pT 7 ?_
  (try simp only [p0, p1, p2, p3])
  refine pT 9 ?_
  (try simp only [p0, p1, p2, p3])
  refine pT 11 ?_
  (try simp only [p0, p1, p2, p3])
  refine pR1 8 (fun K hK => ?_)
  go_simp
  (go_at_call 19; with_reducible refine (turnedT U1.out).mono ?_)
  rintro _ w87 ⟨rfl, hb⟩
  (try go_wp2_with fail)
  replace K19 := K19.on hb
  replace K82 := K82.on hb
  replace BW := BW.trans (hb.mono BW.size)
  clear hb
  refine hK.out _ _ (by exact ⟨K19.cs, K82.cs⟩) (fun hHeld => ?_)
  clear hK
  (try simp only [p0, p1, p2, p3])
  refine pR1 10 (fun K hK => ?_)
  go_simp
  (go_at_call 13; with_reducible refine (mulT E9.out).mono ?_)
  rintro _ w88 ⟨rfl, hb⟩
  (try go_wp2_with fail)
  replace K19 := K19.on hb
  replace K82 := K82.on hb
  replace BW := BW.trans (hb.mono BW.size)
  clear hb
  refine hK.out _ _ (by exact ⟨K19.cs, K82.cs⟩) (fun hHeld => ?_)
  clear hK
  (try simp only [p0, p1, p2, p3])
  refine pT 12 ?_
  (try simp only [p0, p1, p2, p3])
  refine pT 13 ?_
  (try simp only [p0, p1, p2, p3])
  refine pT 14 ?_
  (try simp only [p0, p1, p2, p3])
  refine pT 15 ?_
  (try simp only [p0, p1, p2, p3])
  refine pT 18 ?_
  (try simp only [p0, p1, p2, p3])
  refine pR1 16 (fun K hK => ?_)
  go_simp
  (go_at_call 19; with_reducible refine (turnedT U1.out).mono ?_)
  rintro _ w89 ⟨rfl, hb⟩
  (try go_wp2_with fail)
  replace K19 := K19.on hb
  replace K82 := K82.on hb
  replace BW := BW.trans (hb.mono BW.size)
  clear hb
  refine hK.out _ _ (by exact ⟨K19.cs, K82.cs⟩) (fun hHeld => ?_)
  clear hK
  (try simp only [p0, p1, p2, p3])
  refine pR1 17 (fun K hK => ?_)
  go_simp
  (go_at_call 19; with_reducible refine (turnedT U2.out).mono ?_)
  rintro _ w90 ⟨rfl, hb⟩
  (try go_wp2_with fail)
  replace K19 := K19.on hb
  replace K82 := K82.on hb
  replace BW := BW.trans (hb.mono BW.size)
  clear hb
  refine hK.out _ _ (by exact ⟨K19.cs, K82.cs⟩) (fun hHeld => ?_)
  clear hK
  (try simp only [p0, p1, p2, p3])
  refine pT 19 ?_
  (try simp only [p0, p1, p2, p3])
  refine pT 20 ?_
  (try simp only [p0, p1, p2, p3])
  refine pT 21 ?_
  (try simp only [p0, p1, p2, p3])
  refine pR1 22 (fun K hK => ?_)
  go_simp
  (go_at_call 27; with_reducible refine (lives _).mono ?_)
  rintro _ w91 ⟨rfl, hb⟩
  (try go_wp2_with fail)
  replace K19 := K19.on hb
  replace K82 := K82.on hb
  replace BW := BW.trans (hb.mono BW.size)
  clear hb
  refine hK.out _ _ (by exact ⟨K19.cs, K82.cs⟩) (fun hHeld => ?_)
  clear hK
  (try simp only [p0, p1, p2, p3])
  refine pT 23 ?_
  (try simp only [p0, p1, p2, p3])
  refine pT 24 ?_
  (try simp only [p0, p1, p2, p3])
  refine wpAnyH_done (by kernel_rfl) (NoPanic.normal ?_) _
  go_wp2
  go_ret; exact ⟨rfl, BW⟩

theorem ring_walk (X Y Z : Mz) (w : World) (hX : X.Ok 9223372036854775808) : Calls Try.prog 6 #[mv X, mv Y, mv Z] w fun e w' => e = .returned (.bool true) ∧ Below w.heap.size w w' := by
  have hH : (1 : Int) < 9223372036854775808 := by decide
  exact ring0 X Y Z _ _ (R.mul X (R.mul Y Z)) _ _ _ _ _ (R.tr (R.mul X Y)) w (Lib.hid rfl) (Lib.hid Mz.assoc) (Lib.hid rfl) (Lib.hid rfl) (Lib.hid (Mz.mul_one hX)) (Lib.hid (Mz.one_mul hX)) (Lib.hid rfl) (Lib.hid Mz.det_mul) (Lib.hid rfl) (Lib.hid rfl) (Lib.hid rfl) (Lib.hid Mz.tr_mul) (Lib.hid rfl) (Lib.hid (Mz.mul_turned hH)) (Lib.hid (Mz.turned_mul hH)) (Lib.hid (Mz.turned2 hX)) (wz_64k _)
end Go.Proofs.Ytgoackkfjieahaa.W
