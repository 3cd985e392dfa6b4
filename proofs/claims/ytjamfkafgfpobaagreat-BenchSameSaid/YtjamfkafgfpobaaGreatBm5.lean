/-
  A matrix of any size, handed on if its numbers are not too long. Conditions: as each theorem states.
-/
import Derived.Test.YtjamfkafgfpobaaGreatBm4
import Derived.Test.YtjamfkafgfpobaaGreatBl2
import Derived.Deep.RegionHeld3
import Derived.Deep.DeepCutAuto
import Derived.BigRegion
namespace Go.Proofs.YtjamfkafgfpobaaGreat
open Go.RowKit Nb
set_option maxHeartbeats 16000000 in
set_option maxRecDepth 100000 in
theorem b_fit4 {q : Mq} {m : Mv} {C g : Nat} {w : World} (G : Gm w q m C) (Kg : Box w g (mcs m)) (hC : C ≤ 1759218604390) :
    Calls Tryz.prog 78 #[.slice (some ⟨g, 0, none⟩) 4 4] w (fun e w' => ∃ (v : Value) (er : Int), e = .returned (.tuple #[v, .int .i64 er]) ∧ ((er = 0 ∧ FitsM q ∧ ∃ (f : Mv) (h : Nat), v = .slice (some ⟨h, 0, none⟩) 4 4 ∧ Fm w' q f ∧ Box w' h (mcs f) ∧ w.heap.size ≤ h) ∨ (er = 4 ∧ ¬ FitsM q ∧ v = .slice none 0 0)) ∧ Below w.heap.size w w') := by
 have BW : Below w.heap.size w w := Below.refl _ _
 obtain ⟨V1, e2, hb3, K4, Z5, -⟩ := alloc_new w [.bool false, .slice none 0 0, .bool false, .slice none 0 0, .bool false, .slice none 0 0, .bool false, .slice none 0 0, .bool false, .slice none 0 0, .bool false, .slice none 0 0, .bool false, .slice none 0 0, .bool false, .slice none 0 0] 29
 replace K4 : Box V1 (w.heap.size) (zcs16) := K4
 have n6 : g ≠ w.heap.size := Nat.ne_of_lt (Kg.lt)
 have g7 : w.heap.size ≤ w.heap.size := BW.size
 replace Kg := Kg.on hb3
 replace G := G.kp (Kept.of hb3)
 replace BW := BW.trans (hb3.mono BW.size)
 clear hb3
 go_enter Tryz.func78, Tryz.ntmps78
 go_wp2_with (first | (refine wpList_makeF4 (by rfl) (by rfl) (by rfl) (by rfl) ?_))
 rw [← e2]
 clear e2
 have gz : w.heap.size ≤ w.heap.size := Nat.le_refl _
 refine wp_loop_rounds 5 ?_
 rw [rounds_succ]
 obtain ⟨c8, c9, c10, c11, c12, c13, c14, c15, c16, c17, c18, c19, c20, c21, c22, c23⟩ := Kg.c16
 obtain ⟨V24, e25, hb26, K27, Z28, -⟩ := alloc_new V1 [.bool m.A.n, .slice m.A.A m.A.xs.length m.A.c, .bool m.A.m, .slice m.A.B m.A.ds.length m.A.d] 74
 have n29 : g ≠ V1.heap.size := Nat.ne_of_lt (Kg.lt)
 have n30 : w.heap.size ≠ V1.heap.size := Nat.ne_of_lt (K4.lt)
 have g31 : w.heap.size ≤ V1.heap.size := BW.size
 replace Kg := Kg.on hb26
 replace K4 := K4.on hb26
 replace Z5 := Z5.on hb26
 replace G := G.kp (Kept.of hb26)
 replace BW := BW.trans (hb26.mono BW.size)
 clear hb26
 go_wp2_with fail
 clear c8 c9 c10 c11 c12 c13 c14 c15 c16 c17 c18 c19 c20 c21 c22 c23
 rw [← e25]
 clear e25
 generalize V1.heap.size = b32 at *
 obtain ⟨c33, c34, c35, c36⟩ := K27.c4
 go_wp2_with fail
 clear c33 c34 c35 c36
 refine (q_fit G.gA hC).mono ?_
 rintro _ w37 ⟨f0, er0, rfl, k0, hb⟩
 replace Kg := Kg.on hb
 replace K4 := K4.on hb
 replace K27 := K27.on hb
 replace Z5 := Z5.on hb
 replace G := G.kp (Kept.of hb)
 replace BW := BW.trans (hb.mono BW.size)
 clear hb
 rcases k0 with ⟨_, F0, rfl, L0⟩ | ⟨⟨hh, _⟩ | ⟨_, N0, rfl⟩, -⟩
 · obtain ⟨c38, c39, c40, c41, c42, c43, c44, c45, c46, c47, c48, c49, c50, c51, c52, c53⟩ := K4.c16
   obtain ⟨c54, c55, c56, c57, c58, c59, c60, c61, c62, c63, c64, c65, c66, c67, c68, c69⟩ := Z5.f16
   obtain ⟨V70, hk72⟩ : ∃ V70, V70 = w37.setCells (w.heap.size) 0 [.bool f0.n, .slice f0.A f0.xs.length f0.c, .bool f0.m, .slice f0.B f0.ds.length f0.d] := ⟨_, rfl⟩
   have e71 := hk72
   simp only [World.setCells, Nat.zero_add, Nat.reduceAdd] at e71
   have hk73 := Kept.overE hk72 K4 rfl (Nat.le_of_ble_eq_true rfl)
   replace Kg := Kg.awayE hk72 n6
   replace K4 := K4.part (us' := [.bool f0.n, .slice f0.A f0.xs.length f0.c, .bool f0.m, .slice f0.B f0.ds.length f0.d, .bool false, .slice none 0 0, .bool false, .slice none 0 0, .bool false, .slice none 0 0, .bool false, .slice none 0 0, .bool false, .slice none 0 0, .bool false, .slice none 0 0]) hk72 rfl (Nat.le_of_ble_eq_true rfl)
   replace K27 := K27.awayE hk72 n30.symm
   replace Z5 := Z5.putE hk72
   replace G := G.kp hk73
   replace L0 := L0.kp hk73
   replace BW := Below.putE BW hk72 gz
   clear hk72 hk73
   go_wp2_with fail
   clear c38 c39 c40 c41 c42 c43 c44 c45 c46 c47 c48 c49 c50 c51 c52 c53 c54 c55 c56 c57 c58 c59 c60 c61 c62 c63 c64 c65 c66 c67 c68 c69
   rw [← e71]
   clear e71
   rw [rounds_succ]
   obtain ⟨c74, c75, c76, c77, c78, c79, c80, c81, c82, c83, c84, c85, c86, c87, c88, c89⟩ := Kg.c16
   obtain ⟨V90, e91, hb92, K93, Z94, -⟩ := alloc_new V70 [.bool m.B.n, .slice m.B.A m.B.xs.length m.B.c, .bool m.B.m, .slice m.B.B m.B.ds.length m.B.d] 74
   have n95 : g ≠ V70.heap.size := Nat.ne_of_lt (Kg.lt)
   have n96 : w.heap.size ≠ V70.heap.size := Nat.ne_of_lt (K4.lt)
   have n97 : b32 ≠ V70.heap.size := Nat.ne_of_lt (K27.lt)
   have g98 : w.heap.size ≤ V70.heap.size := BW.size
   replace Kg := Kg.on hb92
   replace K4 := K4.on hb92
   replace K27 := K27.on hb92
   replace Z5 := Z5.on hb92
   replace G := G.kp (Kept.of hb92)
   replace L0 := L0.kp (Kept.of hb92)
   replace BW := BW.trans (hb92.mono BW.size)
   clear hb92
   go_wp2_with fail
   clear c74 c75 c76 c77 c78 c79 c80 c81 c82 c83 c84 c85 c86 c87 c88 c89
   rw [← e91]
   clear e91
   generalize V70.heap.size = b99 at *
   obtain ⟨c100, c101, c102, c103⟩ := K93.c4
   go_wp2_with fail
   clear c100 c101 c102 c103
   refine (q_fit G.gB hC).mono ?_
   rintro _ w104 ⟨f1, er1, rfl, k1, hb⟩
   replace Kg := Kg.on hb
   replace K4 := K4.on hb
   replace K27 := K27.on hb
   replace K93 := K93.on hb
   replace Z5 := Z5.on hb
   replace G := G.kp (Kept.of hb)
   replace L0 := L0.kp (Kept.of hb)
   replace BW := BW.trans (hb.mono BW.size)
   clear hb
   rcases k1 with ⟨_, F1, rfl, L1⟩ | ⟨⟨hh, _⟩ | ⟨_, N1, rfl⟩, -⟩
   · obtain ⟨c105, c106, c107, c108, c109, c110, c111, c112, c113, c114, c115, c116, c117, c118, c119, c120⟩ := K4.c16
     obtain ⟨c121, c122, c123, c124, c125, c126, c127, c128, c129, c130, c131, c132, c133, c134, c135, c136⟩ := Z5.f16
     obtain ⟨V137, hk139⟩ : ∃ V137, V137 = w104.setCells (w.heap.size) 4 [.bool f1.n, .slice f1.A f1.xs.length f1.c, .bool f1.m, .slice f1.B f1.ds.length f1.d] := ⟨_, rfl⟩
     have e138 := hk139
     simp only [World.setCells, Nat.reduceAdd] at e138
     have hk140 := Kept.overE hk139 K4 rfl (Nat.le_of_ble_eq_true rfl)
     replace Kg := Kg.awayE hk139 n6
     replace K4 := K4.part (us' := [.bool f0.n, .slice f0.A f0.xs.length f0.c, .bool f0.m, .slice f0.B f0.ds.length f0.d, .bool f1.n, .slice f1.A f1.xs.length f1.c, .bool f1.m, .slice f1.B f1.ds.length f1.d, .bool false, .slice none 0 0, .bool false, .slice none 0 0, .bool false, .slice none 0 0, .bool false, .slice none 0 0]) hk139 rfl (Nat.le_of_ble_eq_true rfl)
     replace K27 := K27.awayE hk139 n30.symm
     replace K93 := K93.awayE hk139 n96.symm
     replace Z5 := Z5.putE hk139
     replace G := G.kp hk140
     replace L0 := L0.kp hk140
     replace L1 := L1.kp hk140
     replace BW := Below.putE BW hk139 gz
     clear hk139 hk140
     go_wp2_with fail
     clear c105 c106 c107 c108 c109 c110 c111 c112 c113 c114 c115 c116 c117 c118 c119 c120 c121 c122 c123 c124 c125 c126 c127 c128 c129 c130 c131 c132 c133 c134 c135 c136
     rw [← e138]
     clear e138
     rw [rounds_succ]
     obtain ⟨c141, c142, c143, c144, c145, c146, c147, c148, c149, c150, c151, c152, c153, c154, c155, c156⟩ := Kg.c16
     obtain ⟨V157, e158, hb159, K160, Z161, -⟩ := alloc_new V137 [.bool m.C.n, .slice m.C.A m.C.xs.length m.C.c, .bool m.C.m, .slice m.C.B m.C.ds.length m.C.d] 74
     have n162 : g ≠ V137.heap.size := Nat.ne_of_lt (Kg.lt)
     have n163 : w.heap.size ≠ V137.heap.size := Nat.ne_of_lt (K4.lt)
     have n164 : b32 ≠ V137.heap.size := Nat.ne_of_lt (K27.lt)
     have n165 : b99 ≠ V137.heap.size := Nat.ne_of_lt (K93.lt)
     have g166 : w.heap.size ≤ V137.heap.size := BW.size
     replace Kg := Kg.on hb159
     replace K4 := K4.on hb159
     replace K27 := K27.on hb159
     replace K93 := K93.on hb159
     replace Z5 := Z5.on hb159
     replace G := G.kp (Kept.of hb159)
     replace L0 := L0.kp (Kept.of hb159)
     replace L1 := L1.kp (Kept.of hb159)
     replace BW := BW.trans (hb159.mono BW.size)
     clear hb159
     go_wp2_with fail
     clear c141 c142 c143 c144 c145 c146 c147 c148 c149 c150 c151 c152 c153 c154 c155 c156
     rw [← e158]
     clear e158
     generalize V137.heap.size = b167 at *
     obtain ⟨c168, c169, c170, c171⟩ := K160.c4
     go_wp2_with fail
     clear c168 c169 c170 c171
     refine (q_fit G.gC hC).mono ?_
     rintro _ w172 ⟨f2, er2, rfl, k2, hb⟩
     replace Kg := Kg.on hb
     replace K4 := K4.on hb
     replace K27 := K27.on hb
     replace K93 := K93.on hb
     replace K160 := K160.on hb
     replace Z5 := Z5.on hb
     replace G := G.kp (Kept.of hb)
     replace L0 := L0.kp (Kept.of hb)
     replace L1 := L1.kp (Kept.of hb)
     replace BW := BW.trans (hb.mono BW.size)
     clear hb
     rcases k2 with ⟨_, F2, rfl, L2⟩ | ⟨⟨hh, _⟩ | ⟨_, N2, rfl⟩, -⟩
     · obtain ⟨c173, c174, c175, c176, c177, c178, c179, c180, c181, c182, c183, c184, c185, c186, c187, c188⟩ := K4.c16
       obtain ⟨c189, c190, c191, c192, c193, c194, c195, c196, c197, c198, c199, c200, c201, c202, c203, c204⟩ := Z5.f16
       obtain ⟨V205, hk207⟩ : ∃ V205, V205 = w172.setCells (w.heap.size) 8 [.bool f2.n, .slice f2.A f2.xs.length f2.c, .bool f2.m, .slice f2.B f2.ds.length f2.d] := ⟨_, rfl⟩
       have e206 := hk207
       simp only [World.setCells, Nat.reduceAdd] at e206
       have hk208 := Kept.overE hk207 K4 rfl (Nat.le_of_ble_eq_true rfl)
       replace Kg := Kg.awayE hk207 n6
       replace K4 := K4.part (us' := [.bool f0.n, .slice f0.A f0.xs.length f0.c, .bool f0.m, .slice f0.B f0.ds.length f0.d, .bool f1.n, .slice f1.A f1.xs.length f1.c, .bool f1.m, .slice f1.B f1.ds.length f1.d, .bool f2.n, .slice f2.A f2.xs.length f2.c, .bool f2.m, .slice f2.B f2.ds.length f2.d, .bool false, .slice none 0 0, .bool false, .slice none 0 0]) hk207 rfl (Nat.le_of_ble_eq_true rfl)
       replace K27 := K27.awayE hk207 n30.symm
       replace K93 := K93.awayE hk207 n96.symm
       replace K160 := K160.awayE hk207 n163.symm
       replace Z5 := Z5.putE hk207
       replace G := G.kp hk208
       replace L0 := L0.kp hk208
       replace L1 := L1.kp hk208
       replace L2 := L2.kp hk208
       replace BW := Below.putE BW hk207 gz
       clear hk207 hk208
       go_wp2_with fail
       clear c173 c174 c175 c176 c177 c178 c179 c180 c181 c182 c183 c184 c185 c186 c187 c188 c189 c190 c191 c192 c193 c194 c195 c196 c197 c198 c199 c200 c201 c202 c203 c204
       rw [← e206]
       clear e206
       rw [rounds_succ]
       obtain ⟨c209, c210, c211, c212, c213, c214, c215, c216, c217, c218, c219, c220, c221, c222, c223, c224⟩ := Kg.c16
       obtain ⟨V225, e226, hb227, K228, Z229, -⟩ := alloc_new V205 [.bool m.D.n, .slice m.D.A m.D.xs.length m.D.c, .bool m.D.m, .slice m.D.B m.D.ds.length m.D.d] 74
       have n230 : g ≠ V205.heap.size := Nat.ne_of_lt (Kg.lt)
       have n231 : w.heap.size ≠ V205.heap.size := Nat.ne_of_lt (K4.lt)
       have n232 : b32 ≠ V205.heap.size := Nat.ne_of_lt (K27.lt)
       have n233 : b99 ≠ V205.heap.size := Nat.ne_of_lt (K93.lt)
       have n234 : b167 ≠ V205.heap.size := Nat.ne_of_lt (K160.lt)
       have g235 : w.heap.size ≤ V205.heap.size := BW.size
       replace K4 := K4.on hb227
       replace Z5 := Z5.on hb227
       replace G := G.kp (Kept.of hb227)
       replace L0 := L0.kp (Kept.of hb227)
       replace L1 := L1.kp (Kept.of hb227)
       replace L2 := L2.kp (Kept.of hb227)
       replace BW := BW.trans (hb227.mono BW.size)
       clear hb227
       go_wp2_with fail
       clear c209 c210 c211 c212 c213 c214 c215 c216 c217 c218 c219 c220 c221 c222 c223 c224
       rw [← e226]
       clear e226
       generalize V205.heap.size = b236 at *
       obtain ⟨c237, c238, c239, c240⟩ := K228.c4
       go_wp2_with fail
       clear c237 c238 c239 c240
       refine (q_fit G.gD hC).mono ?_
       rintro _ w241 ⟨f3, er3, rfl, k3, hb⟩
       replace K4 := K4.on hb
       replace Z5 := Z5.on hb
       replace L0 := L0.kp (Kept.of hb)
       replace L1 := L1.kp (Kept.of hb)
       replace L2 := L2.kp (Kept.of hb)
       replace BW := BW.trans (hb.mono BW.size)
       clear hb
       rcases k3 with ⟨_, F3, rfl, L3⟩ | ⟨⟨hh, _⟩ | ⟨_, N3, rfl⟩, -⟩
       · obtain ⟨c242, c243, c244, c245, c246, c247, c248, c249, c250, c251, c252, c253, c254, c255, c256, c257⟩ := K4.c16
         obtain ⟨c258, c259, c260, c261, c262, c263, c264, c265, c266, c267, c268, c269, c270, c271, c272, c273⟩ := Z5.f16
         obtain ⟨V274, hk276⟩ : ∃ V274, V274 = w241.setCells (w.heap.size) 12 [.bool f3.n, .slice f3.A f3.xs.length f3.c, .bool f3.m, .slice f3.B f3.ds.length f3.d] := ⟨_, rfl⟩
         have e275 := hk276
         simp only [World.setCells, Nat.reduceAdd] at e275
         have hk277 := Kept.overE hk276 K4 rfl (Nat.le_of_ble_eq_true rfl)
         replace K4 := K4.part (us' := [.bool f0.n, .slice f0.A f0.xs.length f0.c, .bool f0.m, .slice f0.B f0.ds.length f0.d, .bool f1.n, .slice f1.A f1.xs.length f1.c, .bool f1.m, .slice f1.B f1.ds.length f1.d, .bool f2.n, .slice f2.A f2.xs.length f2.c, .bool f2.m, .slice f2.B f2.ds.length f2.d, .bool f3.n, .slice f3.A f3.xs.length f3.c, .bool f3.m, .slice f3.B f3.ds.length f3.d]) hk276 rfl (Nat.le_of_ble_eq_true rfl)
         replace Z5 := Z5.putE hk276
         replace L0 := L0.kp hk277
         replace L1 := L1.kp hk277
         replace L2 := L2.kp hk277
         replace L3 := L3.kp hk277
         replace BW := Below.putE BW hk276 gz
         clear hk276 hk277
         go_wp2_with fail
         clear c242 c243 c244 c245 c246 c247 c248 c249 c250 c251 c252 c253 c254 c255 c256 c257 c258 c259 c260 c261 c262 c263 c264 c265 c266 c267 c268 c269 c270 c271 c272 c273
         rw [← e275]
         clear e275
         rw [rounds_succ]
         go_wp2_with fail
         exact bodyPost_ret (v := .tuple #[.slice (some ⟨w.heap.size, 0, none⟩) 4 4, .int .i64 0]) (by simp [results, Tryz.results78, go_sem]) rfl ⟨_, _, rfl, .inl ⟨rfl, ⟨F0, F1, F2, F3⟩, ⟨f0, f1, f2, f3⟩, w.heap.size, rfl, ⟨L0, L1, L2, L3⟩, K4, Nat.le_refl _⟩, BW⟩
       · exact hh.elim
       · obtain ⟨c242, c243, c244, c245, c246, c247, c248, c249, c250, c251, c252, c253, c254, c255, c256, c257⟩ := K4.c16
         obtain ⟨c258, c259, c260, c261, c262, c263, c264, c265, c266, c267, c268, c269, c270, c271, c272, c273⟩ := Z5.f16
         obtain ⟨V274, hk276⟩ : ∃ V274, V274 = w241.setCells (w.heap.size) 12 [.bool f3.n, .slice f3.A f3.xs.length f3.c, .bool f3.m, .slice f3.B f3.ds.length f3.d] := ⟨_, rfl⟩
         have e275 := hk276
         simp only [World.setCells, Nat.reduceAdd] at e275
         have hk277 := Kept.overE hk276 K4 rfl (Nat.le_of_ble_eq_true rfl)
         replace K4 := K4.part (us' := [.bool f0.n, .slice f0.A f0.xs.length f0.c, .bool f0.m, .slice f0.B f0.ds.length f0.d, .bool f1.n, .slice f1.A f1.xs.length f1.c, .bool f1.m, .slice f1.B f1.ds.length f1.d, .bool f2.n, .slice f2.A f2.xs.length f2.c, .bool f2.m, .slice f2.B f2.ds.length f2.d, .bool f3.n, .slice f3.A f3.xs.length f3.c, .bool f3.m, .slice f3.B f3.ds.length f3.d]) hk276 rfl (Nat.le_of_ble_eq_true rfl)
         replace Z5 := Z5.putE hk276
         replace BW := Below.putE BW hk276 gz
         clear hk276 hk277
         go_wp2_with fail
         clear c242 c243 c244 c245 c246 c247 c248 c249 c250 c251 c252 c253 c254 c255 c256 c257 c258 c259 c260 c261 c262 c263 c264 c265 c266 c267 c268 c269 c270 c271 c272 c273
         rw [← e275]
         clear e275
         exact bodyPost_ret (v := .tuple #[.slice none 0 0, .int .i64 4]) (by simp [results, Tryz.results78, go_sem]) rfl ⟨_, _, rfl, .inr ⟨rfl, fun h => N3 h.2.2.2, rfl⟩, BW⟩
     · exact hh.elim
     · obtain ⟨c173, c174, c175, c176, c177, c178, c179, c180, c181, c182, c183, c184, c185, c186, c187, c188⟩ := K4.c16
       obtain ⟨c189, c190, c191, c192, c193, c194, c195, c196, c197, c198, c199, c200, c201, c202, c203, c204⟩ := Z5.f16
       obtain ⟨V205, hk207⟩ : ∃ V205, V205 = w172.setCells (w.heap.size) 8 [.bool f2.n, .slice f2.A f2.xs.length f2.c, .bool f2.m, .slice f2.B f2.ds.length f2.d] := ⟨_, rfl⟩
       have e206 := hk207
       simp only [World.setCells, Nat.reduceAdd] at e206
       have hk208 := Kept.overE hk207 K4 rfl (Nat.le_of_ble_eq_true rfl)
       replace K4 := K4.part (us' := [.bool f0.n, .slice f0.A f0.xs.length f0.c, .bool f0.m, .slice f0.B f0.ds.length f0.d, .bool f1.n, .slice f1.A f1.xs.length f1.c, .bool f1.m, .slice f1.B f1.ds.length f1.d, .bool f2.n, .slice f2.A f2.xs.length f2.c, .bool f2.m, .slice f2.B f2.ds.length f2.d, .bool false, .slice none 0 0, .bool false, .slice none 0 0]) hk207 rfl (Nat.le_of_ble_eq_true rfl)
       replace Z5 := Z5.putE hk207
       replace BW := Below.putE BW hk207 gz
       clear hk207 hk208
       go_wp2_with fail
       clear c173 c174 c175 c176 c177 c178 c179 c180 c181 c182 c183 c184 c185 c186 c187 c188 c189 c190 c191 c192 c193 c194 c195 c196 c197 c198 c199 c200 c201 c202 c203 c204
       rw [← e206]
       clear e206
       exact bodyPost_ret (v := .tuple #[.slice none 0 0, .int .i64 4]) (by simp [results, Tryz.results78, go_sem]) rfl ⟨_, _, rfl, .inr ⟨rfl, fun h => N2 h.2.2.1, rfl⟩, BW⟩
   · exact hh.elim
   · obtain ⟨c105, c106, c107, c108, c109, c110, c111, c112, c113, c114, c115, c116, c117, c118, c119, c120⟩ := K4.c16
     obtain ⟨c121, c122, c123, c124, c125, c126, c127, c128, c129, c130, c131, c132, c133, c134, c135, c136⟩ := Z5.f16
     obtain ⟨V137, hk139⟩ : ∃ V137, V137 = w104.setCells (w.heap.size) 4 [.bool f1.n, .slice f1.A f1.xs.length f1.c, .bool f1.m, .slice f1.B f1.ds.length f1.d] := ⟨_, rfl⟩
     have e138 := hk139
     simp only [World.setCells, Nat.reduceAdd] at e138
     have hk140 := Kept.overE hk139 K4 rfl (Nat.le_of_ble_eq_true rfl)
     replace K4 := K4.part (us' := [.bool f0.n, .slice f0.A f0.xs.length f0.c, .bool f0.m, .slice f0.B f0.ds.length f0.d, .bool f1.n, .slice f1.A f1.xs.length f1.c, .bool f1.m, .slice f1.B f1.ds.length f1.d, .bool false, .slice none 0 0, .bool false, .slice none 0 0, .bool false, .slice none 0 0, .bool false, .slice none 0 0]) hk139 rfl (Nat.le_of_ble_eq_true rfl)
     replace Z5 := Z5.putE hk139
     replace BW := Below.putE BW hk139 gz
     clear hk139 hk140
     go_wp2_with fail
     clear c105 c106 c107 c108 c109 c110 c111 c112 c113 c114 c115 c116 c117 c118 c119 c120 c121 c122 c123 c124 c125 c126 c127 c128 c129 c130 c131 c132 c133 c134 c135 c136
     rw [← e138]
     clear e138
     exact bodyPost_ret (v := .tuple #[.slice none 0 0, .int .i64 4]) (by simp [results, Tryz.results78, go_sem]) rfl ⟨_, _, rfl, .inr ⟨rfl, fun h => N1 h.2.1, rfl⟩, BW⟩
 · exact hh.elim
 · obtain ⟨c38, c39, c40, c41, c42, c43, c44, c45, c46, c47, c48, c49, c50, c51, c52, c53⟩ := K4.c16
   obtain ⟨c54, c55, c56, c57, c58, c59, c60, c61, c62, c63, c64, c65, c66, c67, c68, c69⟩ := Z5.f16
   obtain ⟨V70, hk72⟩ : ∃ V70, V70 = w37.setCells (w.heap.size) 0 [.bool f0.n, .slice f0.A f0.xs.length f0.c, .bool f0.m, .slice f0.B f0.ds.length f0.d] := ⟨_, rfl⟩
   have e71 := hk72
   simp only [World.setCells, Nat.zero_add, Nat.reduceAdd] at e71
   have hk73 := Kept.overE hk72 K4 rfl (Nat.le_of_ble_eq_true rfl)
   replace K4 := K4.part (us' := [.bool f0.n, .slice f0.A f0.xs.length f0.c, .bool f0.m, .slice f0.B f0.ds.length f0.d, .bool false, .slice none 0 0, .bool false, .slice none 0 0, .bool false, .slice none 0 0, .bool false, .slice none 0 0, .bool false, .slice none 0 0, .bool false, .slice none 0 0]) hk72 rfl (Nat.le_of_ble_eq_true rfl)
   replace BW := Below.putE BW hk72 gz
   clear hk72 hk73
   go_wp2_with fail
   clear c38 c39 c40 c41 c42 c43 c44 c45 c46 c47 c48 c49 c50 c51 c52 c53 c54 c55 c56 c57 c58 c59 c60 c61 c62 c63 c64 c65 c66 c67 c68 c69
   rw [← e71]
   clear e71
   exact bodyPost_ret (v := .tuple #[.slice none 0 0, .int .i64 4]) (by simp [results, Tryz.results78, go_sem]) rfl ⟨_, _, rfl, .inr ⟨rfl, fun h => N0 h.1, rfl⟩, BW⟩
set_option maxHeartbeats 16000000 in
set_option maxRecDepth 100000 in
theorem b_fit {q : Mq} {m : Mv} {C : Nat} {w : World} (G : Gm w q m C) (hC : C ≤ 1759218604390) :
    Calls Tryz.prog 36 #[mv m] w (fun e w' => ∃ (f : Mv) (e1 : Int), e = .returned (.tuple #[mv f, .int .i64 e1]) ∧ MIs w' q f e1 ∧ Below w.heap.size w w') := by
 have BW : Below w.heap.size w w := Below.refl _ _
 obtain ⟨V2, e3, hb4, K5, Z6, z1⟩ := alloc_new w [.bool m.A.n, .slice m.A.A m.A.xs.length m.A.c, .bool m.A.m, .slice m.A.B m.A.ds.length m.A.d, .bool m.B.n, .slice m.B.A m.B.xs.length m.B.c, .bool m.B.m, .slice m.B.B m.B.ds.length m.B.d, .bool m.C.n, .slice m.C.A m.C.xs.length m.C.c, .bool m.C.m, .slice m.C.B m.C.ds.length m.C.d, .bool m.D.n, .slice m.D.A m.D.xs.length m.D.c, .bool m.D.m, .slice m.D.B m.D.ds.length m.D.d] 76
 replace K5 : Box V2 (w.heap.size) (mcs m) := K5
 have g7 : w.heap.size ≤ w.heap.size := BW.size
 replace G := G.kp (Kept.of hb4)
 replace BW := BW.trans (hb4.mono BW.size)
 clear hb4
 obtain ⟨V9, e10, hb11, K12, Z13, z8⟩ := alloc_new V2 [.bool false, .slice none 0 0, .bool false, .slice none 0 0, .bool false, .slice none 0 0, .bool false, .slice none 0 0, .bool false, .slice none 0 0, .bool false, .slice none 0 0, .bool false, .slice none 0 0, .bool false, .slice none 0 0] 31
 rw [z1] at K12 Z13 z8
 replace K12 : Box V9 (w.heap.size + 1) (zcs16) := K12
 have n14 : w.heap.size ≠ w.heap.size + 1 := Nat.ne_of_lt (z1 ▸ K5.lt)
 have g15 : w.heap.size ≤ w.heap.size + 1 := z1 ▸ BW.size
 replace K5 := K5.on hb11
 replace G := G.kp (Kept.of hb11)
 replace BW := BW.trans (hb11.mono BW.size)
 clear hb11
 obtain ⟨V16, e17, hb18, K19, Z20, -⟩ := alloc_new V9 [.bool m.A.n, .slice m.A.A m.A.xs.length m.A.c, .bool m.A.m, .slice m.A.B m.A.ds.length m.A.d, .bool m.B.n, .slice m.B.A m.B.xs.length m.B.c, .bool m.B.m, .slice m.B.B m.B.ds.length m.B.d, .bool m.C.n, .slice m.C.A m.C.xs.length m.C.c, .bool m.C.m, .slice m.C.B m.C.ds.length m.C.d, .bool m.D.n, .slice m.D.A m.D.xs.length m.D.c, .bool m.D.m, .slice m.D.B m.D.ds.length m.D.d] 74
 rw [z8] at K19 Z20
 replace K19 : Box V16 (w.heap.size + 1 + 1) (mcs m) := K19
 have n21 : w.heap.size ≠ w.heap.size + 1 + 1 := Nat.ne_of_lt (z8 ▸ K5.lt)
 have n22 : w.heap.size + 1 ≠ w.heap.size + 1 + 1 := Nat.ne_of_lt (z8 ▸ K12.lt)
 have g23 : w.heap.size ≤ w.heap.size + 1 + 1 := z8 ▸ BW.size
 replace K12 := K12.on hb18
 replace Z13 := Z13.on hb18
 replace G := G.kp (Kept.of hb18)
 replace BW := BW.trans (hb18.mono BW.size)
 clear hb18
 clear z1 z8
 go_enter Tryz.func36, Tryz.ntmps36
 go_wp2_with fail
 rw [← e3, ← e10, ← e17]
 clear e3 e10 e17
 have hl0 := K12.lt
 refine (b_fit4 G K19 hC).mono ?_
 rintro _ w24 ⟨v, er, rfl, hv, hb⟩
 replace K12 := K12.on hb
 replace Z13 := Z13.on hb
 replace BW := BW.trans (hb.mono BW.size)
 clear hb
 rcases hv with ⟨rfl, hF, f, h, rfl, L, Kh, hge⟩ | ⟨rfl, hN, rfl⟩
 · go_wp2_with fail
   have gz : w.heap.size ≤ w.heap.size + 1 := by omega
   have nh : h ≠ w.heap.size + 1 := by omega
   refine wp_region_noPanic ?_
   have hb : Below w24.heap.size w24 w24.drew := (Below.refl _ _).drew
   replace K12 := K12.on hb
   replace Kh := Kh.on hb
   replace Z13 := Z13.on hb
   replace L := L.kp (Kept.of hb)
   replace BW := BW.trans (hb.mono BW.size)
   clear hb
   refine wp_region_held_drew (S := (fun wx => Cs wx (h) 0 [.bool f.A.n, .slice f.A.A f.A.xs.length f.A.c, .bool f.A.m, .slice f.A.B f.A.ds.length f.A.d, .bool f.B.n, .slice f.B.A f.B.xs.length f.B.c, .bool f.B.m, .slice f.B.B f.B.ds.length f.B.d, .bool f.C.n, .slice f.C.A f.C.xs.length f.C.c, .bool f.C.m, .slice f.C.B f.C.ds.length f.C.d, .bool f.D.n, .slice f.D.A f.D.xs.length f.D.c, .bool f.D.m, .slice f.D.B f.D.ds.length f.D.d])) (by kernel_rfl) (by exact Kh.cs) (fun hHeld => ?_)
   generalize w24.drew = Vd25 at *
   refine pT 0 ?_
   (try simp only [p0, p1, p2, p3])
   refine pT 1 ?_
   (try simp only [p0, p1, p2, p3])
   refine pT 2 ?_
   (try simp only [p0, p1, p2, p3])
   refine pT 3 ?_
   (try simp only [p0, p1, p2, p3])
   refine pT 4 ?_
   (try simp only [p0, p1, p2, p3])
   refine pT 5 ?_
   (try simp only [p0, p1, p2, p3])
   refine pT 6 ?_
   (try simp only [p0, p1, p2, p3])
   refine pT 7 ?_
   (try simp only [p0, p1, p2, p3])
   refine pT 8 ?_
   (try simp only [p0, p1, p2, p3])
   refine pT 9 ?_
   (try simp only [p0, p1, p2, p3])
   refine pT 10 ?_
   (try simp only [p0, p1, p2, p3])
   refine pT 11 ?_
   (try simp only [p0, p1, p2, p3])
   refine pT 12 ?_
   (try simp only [p0, p1, p2, p3])
   refine pR1 13 (fun K hK => ?_)
   refine ite_yes (by rfl) (wp_stM rfl rfl rfl K12 Z13 rfl rfl rfl ?_)
   obtain ⟨V26, hk28⟩ : ∃ V26, V26 = Vd25.setCells (w.heap.size + 1) 0 [.bool f.A.n, .slice f.A.A f.A.xs.length f.A.c, .bool f.A.m, .slice f.A.B f.A.ds.length f.A.d, .bool f.B.n, .slice f.B.A f.B.xs.length f.B.c, .bool f.B.m, .slice f.B.B f.B.ds.length f.B.d, .bool f.C.n, .slice f.C.A f.C.xs.length f.C.c, .bool f.C.m, .slice f.C.B f.C.ds.length f.C.d, .bool f.D.n, .slice f.D.A f.D.xs.length f.D.c, .bool f.D.m, .slice f.D.B f.D.ds.length f.D.d] := ⟨_, rfl⟩
   have e27 := hk28
   have hk29 := Kept.overE hk28 K12 rfl (Nat.le_of_ble_eq_true rfl)
   replace K12 := K12.overE hk28 rfl
   replace Kh := Kh.awayE hk28 nh
   replace Z13 := Z13.putE hk28
   replace L := L.kp hk29
   replace BW := Below.putE BW hk28 gz
   clear hk28 hk29
   replace K12 : Box V26 (w.heap.size + 1) (mcs f) := K12
   rw [← e27]
   clear e27
   clear hHeld
   refine hK.out _ _ (by exact Kh.cs) (fun hHeld => ?_)
   clear hK
   (try simp only [p0])
   refine pT 14 ?_
   (try simp only [p0, p1, p2, p3])
   refine wpAnyH_done (by kernel_rfl) (NoPanic.normal ?_) _
   go_wp2
   exact bodyPost_ret (v := .tuple #[mv f, .int .i64 0]) (res_M2 Tryz.results36 (by rfl) (by rfl) K12 rfl) rfl ⟨f, 0, rfl, .inl ⟨rfl, hF, L⟩, BW⟩
 · obtain ⟨c25, c26, c27, c28, c29, c30, c31, c32, c33, c34, c35, c36, c37, c38, c39, c40⟩ := K12.c16
   obtain ⟨c41, c42, c43, c44, c45, c46, c47, c48, c49, c50, c51, c52, c53, c54, c55, c56⟩ := Z13.f16
   obtain ⟨V57, hk59⟩ : ∃ V57, V57 = w24.setCells (w.heap.size + 1) 0 [.bool false, .slice none 0 0, .bool false, .slice none 0 0, .bool false, .slice none 0 0, .bool false, .slice none 0 0, .bool false, .slice none 0 0, .bool false, .slice none 0 0, .bool false, .slice none 0 0, .bool false, .slice none 0 0] := ⟨_, rfl⟩
   have e58 := hk59
   simp only [World.setCells, Nat.zero_add, Nat.reduceAdd] at e58
   have hk60 := Kept.overE hk59 K12 rfl (Nat.le_of_ble_eq_true rfl)
   replace K12 := K12.overE hk59 rfl
   replace BW := Below.putE BW hk59 g15
   clear hk59 hk60
   replace K12 : Box V57 (w.heap.size + 1) (zcs16) := K12
   go_wp2_with fail
   clear c25 c26 c27 c28 c29 c30 c31 c32 c33 c34 c35 c36 c37 c38 c39 c40 c41 c42 c43 c44 c45 c46 c47 c48 c49 c50 c51 c52 c53 c54 c55 c56
   rw [← e58]
   clear e58
   exact bodyPost_ret (v := .tuple #[mv mv0, .int .i64 4]) (res_M2 Tryz.results36 (by rfl) (by rfl) K12 rfl) rfl ⟨mv0, 4, rfl, .inr ⟨rfl, hN⟩, BW⟩
end Go.Proofs.YtjamfkafgfpobaaGreat
