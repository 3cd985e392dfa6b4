/-
  What the document's own mul and times of limbs return: the product. No conditions but that the lists are lists of limbs.
-/
import Derived.Test.YtiofglgpgjnonaaDoorRsh
import Derived.Test.YtiofglgpgjnonaaDoorProd2
import Derived.Deep.LoopGhost
import Derived.BigQuiet
namespace Go.Proofs.YtiofglgpgjnonaaDoor
open Go.RowKit Nb

theorem rat_get (b c : List Nat) (t : Nat) {i : Nat} (hb : b.length = i) (h : i < (b ++ (t :: c)).length) : (b ++ (t :: c))[i] = t := by
  subst hb; simp
theorem rat_set (b c : List Nat) (t v : Nat) {i : Nat} (hb : b.length = i) : (b ++ (t :: c)).set i v = b ++ (v :: c) := by
  subst hb; simp
theorem rat_lt (b c : List Nat) (t : Nat) {i : Nat} (hb : b.length = i) : i < (b ++ (t :: c)).length := by
  subst hb; simp
theorem rmul_val {B V T X x o i n : Nat} {ms ds pre : List Nat} (hp : pre.length = i) (hd : ds.length = n) (hm : val B ms = val B pre + B ^ i * V) (he : val B ds + B ^ n * o = V + T * x) (hv : val B ms = T * X) :
    val B (pre ++ ds ++ [o]) = T * (X + B ^ i * x) := by
  rw [val_snoc, val_append, List.length_append, hp, hd, Nat.pow_add, Nat.mul_assoc, Nat.add_assoc, ← Nat.mul_add, he, Nat.mul_add, Nat.mul_add, ← hv, hm]
  have : B ^ i * (T * x) = T * (B ^ i * x) := by rw [← Nat.mul_assoc, Nat.mul_comm (B ^ i), Nat.mul_assoc]
  omega

set_option maxHeartbeats 1600000 in
set_option maxRecDepth 20000 in
theorem rmul_any (A B : Option Addr) (xs ys : List Nat) (c d : Nat) (w : World) (hx : Sl .u32 w w.heap.size A xs) (hy : Sl .u32 w w.heap.size B ys) (dx : Dig W32 xs) (dy : Dig W32 ys)
    (hl : (xs.length + ys.length) * 4 ≤ 140737488351232) :
    Calls Tryd.prog 100 #[.slice A xs.length c, .slice B ys.length d] w fun e w' => ∃ v, e = .returned v ∧ Limbs w (val W32 ys * val W32 xs) (xs.length + ys.length) v w' := by
  go_enter Tryd.func100, Tryd.ntmps100
  go_wp2_with (at_make; refine wpList_make_row _ rfl _ _ 22 rfl 54 .u32 4 Tryd.underlying22 info_u32 _ _ _ _ (xs.length + ys.length) rfl rfl (by omega) (by omega) (by omega) (by unfold maxLen; omega) ?_
               intro w1 hrow1 hbel1)
  have hg : w.heap.size < w1.heap.size := hrow1.lt
  go_loopg [6] xs.length (fun g iv wr => ∃ (i : Nat) (ms : List Nat), iv = .int .i64 i ∧ i + g = xs.length ∧ ms.length = ys.length + i ∧ Dig W32 ms ∧ val W32 ms = val W32 ys * val W32 (xs.take i) ∧
      Row .u32 wr w.heap.size 54 (ms ++ List.replicate g 0) ∧ Upd w.heap.size w1 wr)
  case atStart => exact ⟨0, List.replicate ys.length 0, rfl, by omega, by simp, Dig.replicate (by decide) _, by rw [val_replicate]; simp [val], by rw [List.replicate_append_replicate, Nat.add_comm]; exact hrow1, Upd.refl _ _⟩
  case round =>
    obtain ⟨i, ms, rfl, hig, hml, hmd, hv, hrow, hu⟩ := hrel
    have HM := Lib.hid hml; clear hml
    have HV := Lib.hid hv; clear hv
    have HI := Lib.hid hig
    cases gk with
    | zero =>
      obtain rfl : i = xs.length := by omega
      clear hig HI
      rw [List.replicate_zero, List.append_nil] at hrow
      have h1 := HV.out
      rw [List.take_length] at h1
      have HV1 := Lib.hid h1
      have hsl := hrow.sl hrow.lt
      have hT : Calls Tryd.prog 75 #[.slice (some ⟨w.heap.size, 0, none⟩) (xs.length + ys.length) (xs.length + ys.length)] wr fun e w' => e = .returned (.slice (some ⟨w.heap.size, 0, none⟩) (trimL ms).length (xs.length + ys.length)) ∧ wr = w' := by
        have := rtrim_any (some ⟨w.heap.size, 0, none⟩) ms (xs.length + ys.length) wr hsl (by have := HM.out; omega) (by unfold maxLen; omega)
        rw [HM.out, Nat.add_comm ys.length] at this
        exact this
      have HT := Lib.hid hT
      clear hT h1
      go_wp2_with fail
      refine (HT.out).mono ?_
      rintro e w5 ⟨rfl, rfl⟩
      go_wp2_with fail
      go_ret
      have hln := trimL_len ms
      rw [HM.out] at hln
      exact ⟨_, rfl, _, _, _, rfl, sl_trimL hsl, dig_trimL hmd, norm_trimL _, by rw [val_trimL, HV1.out], by omega, Nat.le_refl _, hbel1.trans (hu.below (Nat.le_refl _))⟩
    | succ g1 =>
      have hlt : i < xs.length := by omega
      clear hig
      obtain ⟨ad, rfl, hb1, h1⟩ := (hx.below hbel1).at_ hlt
      have hxx := dx.get hlt
      have hty := val_take_succ W32 hlt
      generalize xs[i] = x at *
      have HX := Lib.hid h1
      have HTY := Lib.hid hty
      have hal : (ms.take i).length = i := by rw [List.length_take]; have := HM.out; omega
      have hbl : (ms.drop i).length = ys.length := by rw [List.length_drop]; have := HM.out; omega
      have hsp := val_take_drop W32 ms i (by have := HM.out; omega)
      have hrow2 : Row .u32 wr w.heap.size 54 (ms.take i ++ (ms.drop i ++ List.replicate (g1 + 1) 0)) := by rw [← List.append_assoc, List.take_append_drop]; exact hrow
      have hpd := hmd.take i
      have htd := hmd.drop i
      obtain ⟨pre, hpre⟩ : ∃ pre, ms.take i = pre := ⟨_, rfl⟩
      obtain ⟨zs, hzs⟩ : ∃ zs, ms.drop i = zs := ⟨_, rfl⟩
      obtain ⟨Z, hZ⟩ : ∃ Z, List.replicate (g1 + 1) 0 = Z := ⟨_, rfl⟩
      rw [hpre] at hal hsp hrow2 hpd
      rw [hzs] at hbl hsp hrow2 htd
      rw [hZ] at hrow2
      have HAL := Lib.hid hal
      have HBL := Lib.hid hbl
      have HSP := Lib.hid hsp
      have HZ := Lib.hid hZ
      clear hal hbl hsp hrow hpre hzs hZ hty h1
      have hji : (i : Int) < (xs.length : Int) := by omega
      have hxx' : x ≤ 4294967295 := by have : x < 4294967296 := hxx; omega
      go_wp2_with fail
      go_loopg [7, 8] ys.length (fun h cv kv wx => ∃ (k o : Nat) (ds : List Nat), kv = .int .i64 k ∧ k + h = ys.length ∧ cv = .int .u64 o ∧ o < W32 ∧ ds.length = k ∧ Dig W32 ds ∧ val W32 ds + W32 ^ k * o = val W32 (zs.take k) + val W32 (ys.take k) * x ∧
          Row .u32 wx w.heap.size 54 (pre ++ ((ds ++ zs.drop k) ++ Z)) ∧ Upd w.heap.size w1 wx)
      case atStart => exact ⟨0, 0, [], rfl, by omega, rfl, by decide, rfl, Dig.nil _, by simp [val], by simpa using hrow2, hu⟩
      case round =>
        clear hrow2 hu
        obtain ⟨k, o, ds, rfl, hkg, rfl, ho, hdl, hdd, he, hrow, hu⟩ := hrel
        have HD := Lib.hid hdl; clear hdl
        have HE := Lib.hid he; clear he
        have HK := Lib.hid hkg
        have h1 := (hu.cell (p := ad.add i) (Nat.ne_of_lt hb1)).trans HX.out
        cases gk with
        | zero =>
          obtain rfl : k = ys.length := by omega
          clear hkg HK
          have h3 : zs.drop ys.length = [] := by rw [← HBL.out, List.drop_length]
          rw [h3, List.append_nil, ← HZ.out, List.replicate_succ] at hrow
          have hpl : (pre ++ ds).length = i + ys.length := by rw [List.length_append, HAL.out, HD.out]
          rw [← List.append_assoc] at hrow
          have gf := hrow.frozen (i + ys.length)
          have gc := hrow.cell (i := i + ys.length) (rat_lt _ _ _ hpl)
          rw [rat_get _ _ _ hpl] at gc
          have hrs := hrow.set_ (i + ys.length) o
          rw [rat_set _ _ _ _ hpl] at hrs
          have hst : pre ++ ds ++ (o :: List.replicate g1 0) = (pre ++ ds ++ [o]) ++ List.replicate g1 0 := by simp
          rw [hst] at hrs
          have h4 := HE.out
          rw [List.take_length, show zs.take ys.length = zs by rw [← HBL.out, List.take_length]] at h4
          have hval := rmul_val HAL.out HD.out HSP.out h4 HV.out
          rw [← HTY.out] at hval
          have HVAL := Lib.hid hval
          have HRS := Lib.hid hrs
          have HPL := Lib.hid hpl
          have hi2 : (i : Int) + (ys.length : Int) < (xs.length : Int) + (ys.length : Int) := by omega
          have ho' : o < 4294967296 := ho
          clear hrow h3 hst h4 hval hrs hpl h1
          go_wp2
          go_roundg g1
          case measure => omega
          case rel => exact ⟨i + 1, _, by go_num, by have := HI.out; omega, by rw [List.length_append, HPL.out]; simp; omega, dig_snoc (hpd.append hdd) ho, HVAL.out, HRS.out, hu.setCell _ _⟩
        | succ h0 =>
          have hkl : k < ys.length := by omega
          have hkz : k < zs.length := by rw [HBL.out]; exact hkl
          clear hkg
          obtain ⟨bd, rfl, hb2, h2⟩ := ((hy.below hbel1).upd hu (Nat.le_refl _)).at_ hkl
          have hyy := dy.get hkl
          have hzz := htd.get hkz
          have gf := hrow.frozen (i + k)
          have gc := hrow.cell (i := i + k) (by have := HAL.out; have := HD.out; simp; omega)
          have hgz : (pre ++ ((ds ++ zs.drop k) ++ Z))[i + k]'(by have := HAL.out; have := HD.out; simp; omega) = zs[k] := by
            have h := get_mid pre (ds ++ zs.drop k) Z (k := k) (by rw [fill_length ds zs HD.out (by omega)]; exact hkz) (by have := HD.out; simp; omega)
            rw [fill_get ds zs HD.out hkz] at h
            rw [← h]
            congr 1
            rw [HAL.out]
          rw [hgz] at gc
          have hset : ∀ v : Nat, (pre ++ ((ds ++ zs.drop k) ++ Z)).set (i + k) v = pre ++ (((ds ++ [v]) ++ zs.drop (k + 1)) ++ Z) := fun v => by
            have h := set_mid pre (ds ++ zs.drop k) Z (k := k) v (by rw [fill_length ds zs HD.out (by omega)]; exact hkz)
            rw [fill_put ds zs v HD.out hkz] at h
            rw [← h]
            congr 1
            rw [HAL.out]
          have hrs := fun v => hrow.set_ (i + k) v
          have hstep := fun v o' => step_up (v := v) (c' := o') (t := zs[k] + ys[k] * x) HE.out HD.out
          have hty2 : val W32 (zs.take (k + 1)) + val W32 (ys.take (k + 1)) * x = val W32 (zs.take k) + val W32 (ys.take k) * x + W32 ^ k * (zs[k] + ys[k] * x) := by
            rw [val_take_succ W32 hkz, val_take_succ W32 hkl, Nat.mul_add, Nat.add_mul, Nat.mul_assoc]; omega
          generalize zs[k] = z at *
          generalize ys[k] = y at *
          have hyy' : y ≤ 4294967295 := by have : y < 4294967296 := hyy; omega
          have hzz' : z ≤ 4294967295 := by have : z < 4294967296 := hzz; omega
          have hoo' : o ≤ 4294967295 := by have : o < 4294967296 := ho; omega
          have hPb : x * y ≤ 18446744065119617025 := by
            have := Nat.mul_le_mul hxx' hyy'
            omega
          have hcm := Nat.mul_comm x y
          obtain ⟨P, hP⟩ : ∃ P, x * y = P := ⟨_, rfl⟩
          rw [hP] at hPb hcm
          have hPi : (x : Int) * (y : Int) = (P : Int) := by rw [← hP]; simp
          obtain ⟨Q, hQ⟩ : ∃ Q, (P + z + o) / 4294967296 = Q := ⟨_, rfl⟩
          obtain ⟨R, hR⟩ : ∃ R, (P + z + o) % 4294967296 = R := ⟨_, rfl⟩
          have hi1 : ((P : Int) + (z : Int) + (o : Int)) / 4294967296 = (Q : Int) := by omega
          have hi2 : ((P : Int) + (z : Int) + (o : Int)) % 4294967296 = (R : Int) := by omega
          have hQ1 : Q < W32 := by show Q < 4294967296; omega
          have hR1 : R < W32 := by show R < 4294967296; omega
          have hst' := hstep R Q (by rw [← hcm]; show R + 4294967296 * Q = _; omega)
          rw [← hty2] at hst'
          have hrs' := hrs R
          rw [hset R] at hrs'
          have HS := Lib.hid hst'
          have HR := Lib.hid hrs'
          have HQ1 := Lib.hid hQ1
          have HR1 := Lib.hid hR1
          clear hstep hset hrs hst' hrs' hQ hR hgz hty2 hcm hP hrow hxx hyy hzz hQ1 hR1
          have hki : (k : Int) < (ys.length : Int) := by omega
          have hi3 : (i : Int) + (k : Int) < (xs.length : Int) + (ys.length : Int) := by omega
          go_wp2
          go_quiet (fail)
          go_wp2
          go_roundg h0
          case measure => omega
          case rel => exact ⟨k + 1, Q, ds ++ [R], by go_num, by have := HK.out; omega, congrArg _ hi1, HQ1.out, by have := HD.out; simp; omega, dig_snoc hdd HR1.out, HS.out, (HR.out).drew _, by first | exact (hu.drewN _).setCell _ _ | exact (hu.setCell _ _).drewN _⟩
end Go.Proofs.YtiofglgpgjnonaaDoor
