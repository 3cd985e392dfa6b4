/-
 The law's own plain. Conditions: as each theorem states.
-/
import Derived.Test.YtjamfkafgfpobaaGreatBea
import Derived.Test.YtjamfkafgfpobaaGreatXtr3
import Derived.Deep.RegionHeld3
import Derived.Deep.DeepCutAuto
import Derived.BigRegion
namespace Go.Proofs.YtjamfkafgfpobaaGreat
open Go.RowKit Nb
set_option maxHeartbeats 16000000 in
set_option maxRecDepth 100000 in
theorem b_plain {a : Option Addr} {c : Nat} {es : List Ev} {zs : List (Int × Rat)} {w : World} (S : Sle w a c es) (hF : Fes w (zs.map zeq) es) (hk : ∀ z ∈ zs, zkind z) (hne : ∀ z ∈ zs, zemp z = false) (hadj : ∀ (j : Nat) (y z : Int × Rat), zs[j]? = some y → zs[j + 1]? = some z → y.1 ≠ z.1) :
  Calls Tryz.prog 29 #[.slice a es.length c] w (fun e w' => e = .returned (.bool true) ∧ Below w.heap.size w w') := by
 have hlen : (es.length : Int) ≤ 9223372036854775807 := by have h1 := S.1; have h2 := S.2.1; omega
 have HS := Lib.hid S
 have HF := Lib.hid hF
 have HK := Lib.hid hk
 have HE := Lib.hid hne
 have HA := Lib.hid hadj
 clear S hF hk hne hadj
 have BW : Below w.heap.size w w := Below.refl _ _
 go_enter Tryz.func29, Tryz.ntmps29
 go_wp2_with fail
 go_loopw [3] (fun iv wr => ∃ k : Nat, iv = .int .i64 (k : Nat) ∧ k ≤ es.length ∧ Below w.heap.size w wr) (fun iv _ => es.length - (intOf iv).toNat)
 case atStart => exact ⟨0, rfl, by omega, BW⟩
 case round =>
  obtain ⟨k, rfl, hk, BW⟩ := hrel
  by_cases hlt : k < es.length
  ·have h2 : (k : Int) < (es.length : Int) := by omega
   have hzl : zs.length = es.length := by have := HF.out.1; simpa using this
   obtain ⟨e, he⟩ : ∃ e, es[k]? = some e := ⟨_, List.getElem?_eq_getElem hlt⟩
   obtain ⟨z, hz⟩ : ∃ z, zs[k]? = some z := ⟨_, List.getElem?_eq_getElem (by omega)⟩
   obtain ⟨g, o, ha, hg, hat0⟩ := HS.out.2.2.2 k e he
   have hfe := (HF.out.2 k (zeq z) e (by rw [List.getElem?_map, hz]; rfl) he).1
   have X : Ff wr z.2 e.P := hfe.2.1.kp (Kept.of BW)
   have hzk : z.1 = e.k := hfe.1
   have hzm := List.mem_of_getElem? hz
   have hkd := HK.out z hzm
   have hze := HE.out z hzm
   subst ha
   have HZK := Lib.hid hzk
   rcases hkd with kd | kd | kd
   ·have hek : e.k = 1 := by omega
    have HEK := Lib.hid hek
    have hz0 : z.2 ≠ 0 := fun h => by simp [zemp, h, kd] at hze
    have HZ0 := Lib.hid hz0
    clear hz0
    clear hek hze kd hzk hfe hzm
    rcases k with _ | j
    ·have hat := hat0.on hg BW
     have c0 : wr.cell? ⟨g, o, none⟩ = some (.int .u8 1) := hat 0 _ (by show some (Value.int .u8 e.k) = _; rw [HEK.out])
     have c1 : wr.cell? ⟨g, o + 1, none⟩ = some (.bool e.P.n) := hat 1 _ rfl
     have c2 : wr.cell? ⟨g, o + 2, none⟩ = some (.slice e.P.A e.P.xs.length e.P.c) := hat 2 _ rfl
     have c3 : wr.cell? ⟨g, o + 3, none⟩ = some (.bool e.P.m) := hat 3 _ rfl
     have c4 : wr.cell? ⟨g, o + 4, none⟩ = some (.slice e.P.B e.P.ds.length e.P.d) := hat 4 _ rfl
     go_wp2_with fail
     refine (r_sign X).mono ?_
     rintro _ w2 ⟨rfl, hb⟩
     have hsg : (sgnQ z.2 == 0) = false := by simpa using (fun h => HZ0.out (sgn_zero.1 h))
     replace BW := BW.trans (hb.mono BW.size)
     go_wp2_with fail
     (try go_wp2)
     go_roundw
     case rel => exact ⟨(0 : Nat) + 1, by go_num, by omega, BW⟩
     case measure => simp [intOf]; omega
    ·obtain ⟨e2, he2⟩ : ∃ e, es[j]? = some e := ⟨_, List.getElem?_eq_getElem (by omega)⟩
     obtain ⟨z2, hz2⟩ : ∃ z, zs[j]? = some z := ⟨_, List.getElem?_eq_getElem (by omega)⟩
     obtain ⟨g2, o2, ha2, _, hat2⟩ := HS.out.2.2.2 j e2 he2
     cases ha2
     have hk2 : z2.1 = e2.k := (HF.out.2 j (zeq z2) e2 (by rw [List.getElem?_map, hz2]; rfl) he2).1.1
     have hne2 : e2.k ≠ 1 := by have h9 := HA.out j z2 z hz2 hz; have h8 := HEK.out; have h7 := HZK.out; omega
     have HNE := Lib.hid hne2
     clear hne2 hk2 he2 hz2
     have hat := hat0.on hg BW
     have c0 : wr.cell? ⟨g, o + (j + 1) * 9, none⟩ = some (.int .u8 1) := hat 0 _ (by show some (Value.int .u8 e.k) = _; rw [HEK.out])
     have c1 : wr.cell? ⟨g, o + (j + 1) * 9 + 1, none⟩ = some (.bool e.P.n) := hat 1 _ rfl
     have c2 : wr.cell? ⟨g, o + (j + 1) * 9 + 2, none⟩ = some (.slice e.P.A e.P.xs.length e.P.c) := hat 2 _ rfl
     have c3 : wr.cell? ⟨g, o + (j + 1) * 9 + 3, none⟩ = some (.bool e.P.m) := hat 3 _ rfl
     have c4 : wr.cell? ⟨g, o + (j + 1) * 9 + 4, none⟩ = some (.slice e.P.B e.P.ds.length e.P.d) := hat 4 _ rfl
     have d0 : wr.cell? ⟨g, o + j * 9, none⟩ = some (.int .u8 e2.k) := (hat2.on hg BW) 0 _ rfl
     have hs1 : IntKind.i64.wrap (((j + 1 : Nat) : Int) - 1) = (j : Int) := by rw [wrap_small (by omega) (by omega)]; omega
     have hj1 : (0 : Int) < ((j + 1 : Nat) : Int) := by omega
     have hj2 : (j : Int) < (es.length : Int) := by omega
     have hne : (e2.k == 1) = false := by simpa using HNE.out
     go_wp2_with fail
     refine (r_sign X).mono ?_
     rintro _ w2 ⟨rfl, hb⟩
     have hsg : (sgnQ z.2 == 0) = false := by simpa using (fun h => HZ0.out (sgn_zero.1 h))
     replace BW := BW.trans (hb.mono BW.size)
     have d1 : w2.cell? ⟨g, o + j * 9, none⟩ = some (.int .u8 e2.k) := (hat2.on hg BW) 0 _ rfl
     go_wp2_with fail
     (try go_wp2)
     go_roundw
     case rel => exact ⟨(j + 1) + 1, by go_num, by omega, BW⟩
     case measure => simp [intOf]; omega
   ·have hek : e.k = 2 := by omega
    have HEK := Lib.hid hek
    have hz0 : z.2 ≠ 0 := fun h => by simp [zemp, h, kd] at hze
    have HZ0 := Lib.hid hz0
    clear hz0
    clear hek hze kd hzk hfe hzm
    rcases k with _ | j
    ·have hat := hat0.on hg BW
     have c0 : wr.cell? ⟨g, o, none⟩ = some (.int .u8 2) := hat 0 _ (by show some (Value.int .u8 e.k) = _; rw [HEK.out])
     have c1 : wr.cell? ⟨g, o + 1, none⟩ = some (.bool e.P.n) := hat 1 _ rfl
     have c2 : wr.cell? ⟨g, o + 2, none⟩ = some (.slice e.P.A e.P.xs.length e.P.c) := hat 2 _ rfl
     have c3 : wr.cell? ⟨g, o + 3, none⟩ = some (.bool e.P.m) := hat 3 _ rfl
     have c4 : wr.cell? ⟨g, o + 4, none⟩ = some (.slice e.P.B e.P.ds.length e.P.d) := hat 4 _ rfl
     go_wp2_with fail
     refine (r_sign X).mono ?_
     rintro _ w2 ⟨rfl, hb⟩
     have hsg : (sgnQ z.2 == 0) = false := by simpa using (fun h => HZ0.out (sgn_zero.1 h))
     replace BW := BW.trans (hb.mono BW.size)
     go_wp2_with fail
     (try go_wp2)
     go_roundw
     case rel => exact ⟨(0 : Nat) + 1, by go_num, by omega, BW⟩
     case measure => simp [intOf]; omega
    ·obtain ⟨e2, he2⟩ : ∃ e, es[j]? = some e := ⟨_, List.getElem?_eq_getElem (by omega)⟩
     obtain ⟨z2, hz2⟩ : ∃ z, zs[j]? = some z := ⟨_, List.getElem?_eq_getElem (by omega)⟩
     obtain ⟨g2, o2, ha2, _, hat2⟩ := HS.out.2.2.2 j e2 he2
     cases ha2
     have hk2 : z2.1 = e2.k := (HF.out.2 j (zeq z2) e2 (by rw [List.getElem?_map, hz2]; rfl) he2).1.1
     have hne2 : e2.k ≠ 2 := by have h9 := HA.out j z2 z hz2 hz; have h8 := HEK.out; have h7 := HZK.out; omega
     have HNE := Lib.hid hne2
     clear hne2 hk2 he2 hz2
     have hat := hat0.on hg BW
     have c0 : wr.cell? ⟨g, o + (j + 1) * 9, none⟩ = some (.int .u8 2) := hat 0 _ (by show some (Value.int .u8 e.k) = _; rw [HEK.out])
     have c1 : wr.cell? ⟨g, o + (j + 1) * 9 + 1, none⟩ = some (.bool e.P.n) := hat 1 _ rfl
     have c2 : wr.cell? ⟨g, o + (j + 1) * 9 + 2, none⟩ = some (.slice e.P.A e.P.xs.length e.P.c) := hat 2 _ rfl
     have c3 : wr.cell? ⟨g, o + (j + 1) * 9 + 3, none⟩ = some (.bool e.P.m) := hat 3 _ rfl
     have c4 : wr.cell? ⟨g, o + (j + 1) * 9 + 4, none⟩ = some (.slice e.P.B e.P.ds.length e.P.d) := hat 4 _ rfl
     have d0 : wr.cell? ⟨g, o + j * 9, none⟩ = some (.int .u8 e2.k) := (hat2.on hg BW) 0 _ rfl
     have hs1 : IntKind.i64.wrap (((j + 1 : Nat) : Int) - 1) = (j : Int) := by rw [wrap_small (by omega) (by omega)]; omega
     have hj1 : (0 : Int) < ((j + 1 : Nat) : Int) := by omega
     have hj2 : (j : Int) < (es.length : Int) := by omega
     have hne : (e2.k == 2) = false := by simpa using HNE.out
     go_wp2_with fail
     refine (r_sign X).mono ?_
     rintro _ w2 ⟨rfl, hb⟩
     have hsg : (sgnQ z.2 == 0) = false := by simpa using (fun h => HZ0.out (sgn_zero.1 h))
     replace BW := BW.trans (hb.mono BW.size)
     have d1 : w2.cell? ⟨g, o + j * 9, none⟩ = some (.int .u8 e2.k) := (hat2.on hg BW) 0 _ rfl
     go_wp2_with fail
     (try go_wp2)
     go_roundw
     case rel => exact ⟨(j + 1) + 1, by go_num, by omega, BW⟩
     case measure => simp [intOf]; omega
   ·have hek : e.k = 5 := by omega
    have HEK := Lib.hid hek
    clear hek hze kd hzk hfe hzm
    rcases k with _ | j
    ·have hat := hat0.on hg BW
     have c0 : wr.cell? ⟨g, o, none⟩ = some (.int .u8 5) := hat 0 _ (by show some (Value.int .u8 e.k) = _; rw [HEK.out])
     have c1 : wr.cell? ⟨g, o + 1, none⟩ = some (.bool e.P.n) := hat 1 _ rfl
     have c2 : wr.cell? ⟨g, o + 2, none⟩ = some (.slice e.P.A e.P.xs.length e.P.c) := hat 2 _ rfl
     have c3 : wr.cell? ⟨g, o + 3, none⟩ = some (.bool e.P.m) := hat 3 _ rfl
     have c4 : wr.cell? ⟨g, o + 4, none⟩ = some (.slice e.P.B e.P.ds.length e.P.d) := hat 4 _ rfl
     go_wp2_with fail
     (try go_wp2)
     go_roundw
     case rel => exact ⟨(0 : Nat) + 1, by go_num, by omega, BW⟩
     case measure => simp [intOf]; omega
    ·obtain ⟨e2, he2⟩ : ∃ e, es[j]? = some e := ⟨_, List.getElem?_eq_getElem (by omega)⟩
     obtain ⟨z2, hz2⟩ : ∃ z, zs[j]? = some z := ⟨_, List.getElem?_eq_getElem (by omega)⟩
     obtain ⟨g2, o2, ha2, _, hat2⟩ := HS.out.2.2.2 j e2 he2
     cases ha2
     have hk2 : z2.1 = e2.k := (HF.out.2 j (zeq z2) e2 (by rw [List.getElem?_map, hz2]; rfl) he2).1.1
     have hne2 : e2.k ≠ 5 := by have h9 := HA.out j z2 z hz2 hz; have h8 := HEK.out; have h7 := HZK.out; omega
     have HNE := Lib.hid hne2
     clear hne2 hk2 he2 hz2
     have hat := hat0.on hg BW
     have c0 : wr.cell? ⟨g, o + (j + 1) * 9, none⟩ = some (.int .u8 5) := hat 0 _ (by show some (Value.int .u8 e.k) = _; rw [HEK.out])
     have c1 : wr.cell? ⟨g, o + (j + 1) * 9 + 1, none⟩ = some (.bool e.P.n) := hat 1 _ rfl
     have c2 : wr.cell? ⟨g, o + (j + 1) * 9 + 2, none⟩ = some (.slice e.P.A e.P.xs.length e.P.c) := hat 2 _ rfl
     have c3 : wr.cell? ⟨g, o + (j + 1) * 9 + 3, none⟩ = some (.bool e.P.m) := hat 3 _ rfl
     have c4 : wr.cell? ⟨g, o + (j + 1) * 9 + 4, none⟩ = some (.slice e.P.B e.P.ds.length e.P.d) := hat 4 _ rfl
     have d0 : wr.cell? ⟨g, o + j * 9, none⟩ = some (.int .u8 e2.k) := (hat2.on hg BW) 0 _ rfl
     have hs1 : IntKind.i64.wrap (((j + 1 : Nat) : Int) - 1) = (j : Int) := by rw [wrap_small (by omega) (by omega)]; omega
     have hj1 : (0 : Int) < ((j + 1 : Nat) : Int) := by omega
     have hj2 : (j : Int) < (es.length : Int) := by omega
     have hne : (e2.k == 5) = false := by simpa using HNE.out
     go_wp2_with fail
     (try go_wp2)
     go_roundw
     case rel => exact ⟨(j + 1) + 1, by go_num, by omega, BW⟩
     case measure => simp [intOf]; omega
  ·obtain rfl : k = es.length := by omega
   go_wp2_with fail
   exact bodyPost_ret (v := .bool true) (by simp [results, Tryz.results29, go_sem]) rfl ⟨rfl, BW⟩
end Go.Proofs.YtjamfkafgfpobaaGreat
