/-
  What large.carry and large.sum return: the sum of two lists of words. No conditions but that the lists are lists of words.
-/
import Derived.Test.YtplgheabhekedaaGreatDoorCarry
import Derived.Test.YtplgheabhekedaaGreatDoorFrom
import Derived.Laws.CopyOwn
import Derived.Deep.RegionHeld3
namespace Go.Proofs.YtplgheabhekedaaGreatDoor
open Go.RowKit Nb

/-- A new list of words that tells a number. -/
def Words (w : World) (V C : Nat) (e : Ending) (w' : World) : Prop := ∃ (A : Option Addr) (zs : List Nat) (c : Nat), e = .returned (.slice A zs.length c) ∧ Sl .u64 w' w'.heap.size A zs ∧ Dig W64 zs ∧ Norm zs ∧ val W64 zs = V ∧ zs.length ≤ c ∧ c ≤ C ∧ Below w.heap.size w w'

set_option maxHeartbeats 400000 in
/-- 0 or 1 is added to z, which has room for it. -/
theorem carry_any (g off : Nat) (pre zs post : List Nat) (c o : Nat) (w : World) (hoff : pre.length = off) (hz : Row .u64 w g 182 (pre ++ (zs ++ post)))
    (dz : Dig W64 zs) (ho : o ≤ 1) (hroom : val W64 zs + o < W64 ^ zs.length) (hb : (off + zs.length) * 8 ≤ 140737488351232) :
    Calls Tryz.prog 173 #[.slice (some ⟨g, off, none⟩) zs.length c, .int .u64 o] w fun e w' => ∃ (zs' : List Nat), e = .returned (.tuple #[]) ∧ zs'.length = zs.length ∧ Dig W64 zs' ∧
      val W64 zs' = val W64 zs + o ∧ Row .u64 w' g 182 (pre ++ (zs' ++ post)) ∧ Upd g w w' := by
  have HO := Lib.hid hoff
  have HR := Lib.hid hroom
  clear hoff hroom
  go_enter Tryz.func173, Tryz.ntmps173
  go_wp2
  go_loopw [1, 4] (fun cv iv wr => ∃ (k p : Nat) (ds : List Nat), k ≤ zs.length ∧ iv = .int .i64 k ∧ cv = .int .u64 p ∧ p ≤ 1 ∧ ds.length = k ∧ Dig W64 ds ∧ val W64 ds + W64 ^ k * p = val W64 (zs.take k) + o ∧
      Row .u64 wr g 182 (pre ++ ((ds ++ zs.drop k) ++ post)) ∧ Upd g w wr) (fun _ iv _ => zs.length - (intOf iv).toNat)
  case atStart => exact ⟨0, o, [], Nat.zero_le _, rfl, rfl, ho, rfl, Dig.nil _, by simp [val], by simpa using hz, Upd.refl _ _⟩
  case round =>
    obtain ⟨k, p, ds, hk, rfl, rfl, hp, hdl, hdd, he, hrow, hu⟩ := hrel
    have HD := Lib.hid hdl; clear hdl
    have HE := Lib.hid he; clear he
    rcases (show p = 0 ∨ p = 1 by omega) with rfl | rfl
    · go_wp2
      go_end0
      have h1 := HE.out
      rw [Nat.mul_zero, Nat.add_zero] at h1
      refine ⟨ds ++ zs.drop k, rfl, fill_length ds zs HD.out hk, hdd.append (dz.drop k), ?_, hrow, hu⟩
      rw [val_append, HD.out, h1, val_take_drop W64 zs k hk]; omega
    · have hkz : k < zs.length := by
        rcases Nat.lt_or_ge k zs.length with h | h
        · exact h
        · obtain rfl : k = zs.length := by omega
          have h1 := HE.out
          rw [List.take_length] at h1
          have := carry_zero h1 HR.out
          omega
      have gf := hrow.frozen (off + k)
      have gc := hrow.cell (i := off + k) (by have := HO.out; have := HD.out; simp; omega)
      have hx := dz.get hkz
      have hgz : (pre ++ ((ds ++ zs.drop k) ++ post))[off + k]'(by have := HO.out; have := HD.out; simp; omega) = zs[k] := by
        have h := get_mid pre (ds ++ zs.drop k) post (k := k) (by rw [fill_length ds zs HD.out (by omega)]; exact hkz) (by have := HD.out; simp; omega)
        rw [fill_get ds zs HD.out hkz] at h
        rw [← h]
        congr 1
        rw [HO.out]
      rw [hgz] at gc
      have hset : ∀ v : Nat, (pre ++ ((ds ++ zs.drop k) ++ post)).set (off + k) v = pre ++ (((ds ++ [v]) ++ zs.drop (k + 1)) ++ post) := fun v => by
        have h := set_mid pre (ds ++ zs.drop k) post (k := k) v (by rw [fill_length ds zs HD.out (by omega)]; exact hkz)
        rw [fill_put ds zs v HD.out hkz] at h
        rw [← h]
        congr 1
        rw [HO.out]
      have hrs := fun v => hrow.set_ (off + k) v
      have hstep := fun v o' => step_up (v := v) (c' := o') (t := zs[k]) HE.out HD.out
      have hty : val W64 (zs.take (k + 1)) + o = val W64 (zs.take k) + o + W64 ^ k * zs[k] := by
        rw [val_take_succ W64 hkz]; omega
      generalize zs[k] = x at *
      obtain ⟨v, o', hadd, hv, ho', hvo⟩ := add64_ex x 0 1 hx (by decide) (by omega)
      have hrs' := hrs v
      rw [hset v] at hrs'
      have hst' := hstep v o' (by rw [hvo])
      rw [← hty] at hst'
      have HS := Lib.hid hst'
      have HR' := Lib.hid hrs'
      clear hgz hset hrs hstep hty hst' hrs' hvo hx
      have hji : (k : Int) < (zs.length : Int) := by omega
      have hadd' : ∀ w, (callFunc 180 #[.int .u64 x, .int .u64 0, .int .u64 1]).run Tryz.prog w = .ok (.value (.tuple #[.int .u64 v, .int .u64 o'])) w := hadd
      clear hadd
      go_wp2
      go_roundw
      case rel => exact ⟨k + 1, o', ds ++ [v], by omega, by go_num, rfl, ho', by have := HD.out; simp; omega, dig_snoc hdd hv, HS.out, HR'.out, hu.setCell _ _⟩
      case measure => simp [intOf]; omega

theorem wpList_copy_words {P : Program} (w : World) {ops : Array Oper} {rest : List Oper} {o : Oper} {a : Act} {Q : Exit → Act → World → Prop} (hgd : o.guard = none) (d s : Operand) (dT sT : TypeId)
    (ho : o.op = .call { callee := .builtin .copy, args := #[d, s], argTypes := #[dT, sT] }) (elem : TypeId) (hu : P.underlying dT = some (.slice elem)) (hsz : (P.info? elem).map (·.size) = some 1)
    (A : Option Addr) (k : IntKind) (g : Nat) (zs xs : List Nat) (dCap sCap : Nat) (hd : a.eval d = .slice (some ⟨g, 0, none⟩) zs.length dCap) (hs : a.eval s = .slice A xs.length sCap)
    (hz : Row k w g elem zs) (hx : Sl k w g A xs) (hl : xs.length ≤ zs.length)
    (hK : ∀ w', Row k w' g elem (xs ++ zs.drop xs.length) → Below g w w' → wpList P ops Q rest (a.put o.dst (goInt xs.length)) w') : wpList P ops Q (o :: rest) a w := by
  refine wpList_copy_splice hgd d s dT sT ho elem hu hsz _ _ _ _ _ _ hd hs g 0 (zs.map fun n : Nat => Value.int k n) elem hz (xs.map fun n : Nat => Value.int k n) (by rw [List.length_map]; exact (Nat.min_eq_left hl).symm) (fun hn => ⟨rfl, ?_⟩) (by simpa using hl) (fun v hv => ?_) g w (Below.refl _ _) (Nat.le_refl _) (fun w' h1 h2 => ?_)
  · obtain ⟨ad, e, _, hc⟩ := hx (by simpa using hn)
    refine ⟨ad, e, fun j v hv => ?_⟩
    rw [List.getElem?_map] at hv
    rcases hj : xs[j]? with _ | u
    · rw [hj] at hv; cases hv
    · rw [hj] at hv
      obtain ⟨hlt, rfl⟩ := List.getElem?_eq_some_iff.1 hj
      rw [hc j hlt]; exact hv
  · obtain ⟨n, _, rfl⟩ := List.mem_map.1 hv
    rfl
  · rw [List.length_map]
    refine hK w' ?_ h2
    have h3 := h1.out
    unfold Row
    rw [h3]
    simp [splice, List.map_drop]
theorem info_u64s : (Tryz.prog.info? 182).map (·.size) = some 1 := by kernel_rfl

theorem sum_room {B X Y P P' Q o n m : Nat} (hP : P' + B ^ n * o = P + Y) (hX : X = P + B ^ n * Q) (h : X + Y < B ^ (n + m)) : Q + o < B ^ m := by
  rw [Nat.pow_add] at h
  have h1 : B ^ n * (Q + o) < B ^ n * B ^ m := by rw [Nat.mul_add]; omega
  exact Nat.lt_of_mul_lt_mul_left h1
theorem sum_end {B X Y P P' Q Q' o n : Nat} (hP : P' + B ^ n * o = P + Y) (hX : X = P + B ^ n * Q) (h : Q' = Q + o) : P' + B ^ n * Q' = X + Y := by
  rw [h, Nat.mul_add]; omega

set_option maxHeartbeats 400000 in
set_option maxRecDepth 100000 in
theorem sum_ge (A B : Option Addr) (xs ys : List Nat) (c d : Nat) (w : World) (hx : Sl .u64 w w.heap.size A xs) (hy : Sl .u64 w w.heap.size B ys) (dx : Dig W64 xs) (dy : Dig W64 ys)
    (hl : (xs.length + 1) * 8 ≤ 140737488351232) (hk : (ys.length + 1) * 8 ≤ 140737488351232) (hlt : ys.length ≤ xs.length) :
    Calls Tryz.prog 156 #[.slice A xs.length c, .slice B ys.length d] w (Words w (val W64 xs + val W64 ys) (xs.length + 1)) := by
  go_enter Tryz.func156, Tryz.ntmps156
  go_wp2_with (first
    | (at_make; refine wpList_make_row _ rfl _ _ 83 rfl 182 .u64 8 Tryz.underlying83 info_u64 _ _ _ _ (xs.length + 1) rfl rfl (by omega) (by omega) (by omega) (by unfold maxLen; omega) ?_
       intro w1 hrow1 hbel1)
    | ((with_reducible refine wpList_copy_words _ rfl (.tmp 17) (.tmp 18) 83 83 rfl 182 Tryz.underlying83 info_u64s A .u64 w.heap.size (List.replicate (xs.length + 1) 0) xs (xs.length + 1) c (by simp [Act.eval]) rfl hrow1 (hx.below hbel1) (by simp) ?_)
       intro w2 hrow2 hbel2))
  have hb2 : Below w.heap.size w w2 := hbel1.trans hbel2
  have hg : w.heap.size < w2.heap.size := hrow2.lt
  obtain ⟨Z, hZ⟩ : ∃ Z, Z = xs ++ (List.replicate (xs.length + 1) 0).drop xs.length := ⟨_, rfl⟩
  rw [← hZ] at hrow2
  have hZl : Z.length = xs.length + 1 := by rw [hZ]; simp
  have hZd : Dig W64 Z := by rw [hZ]; exact dx.append ((Dig.replicate (by decide) _).drop _)
  have hZv : val W64 Z = val W64 xs := by rw [hZ, val_append, List.drop_replicate, val_replicate]; simp
  have hsplit := val_take_drop W64 Z ys.length (by omega)
  have hPl : (Z.take ys.length).length = ys.length := by rw [List.length_take]; omega
  have hQl : (Z.drop ys.length).length = xs.length + 1 - ys.length := by rw [List.length_drop]; omega
  have hrowP : Row .u64 w2.drew w.heap.size 182 ([] ++ (Z.take ys.length ++ Z.drop ys.length)) := by rw [List.nil_append, List.take_append_drop]; exact hrow2.drew1
  have hPB := putBack_any w.heap.size 0 [] (Z.take ys.length) (Z.drop ys.length) ys B (xs.length + 1) d w2.drew rfl hrowP (hy.below (hb2.drew)) hPl.symm (hZd.take _) dy (by rw [hPl]; omega)
  rw [hPl] at hPB
  have HPB := Lib.hid hPB
  have HS := Lib.hid hsplit
  have HV := Lib.hid hZv
  have HQ := Lib.hid hQl
  have HZL := Lib.hid hZl
  have HP := Lib.hid hPl
  have HW := Lib.hid hb2
  have HD := Lib.hid hZd
  clear hPB hsplit hZv hQl hZl hrowP hrow1 hbel1 hbel2 hrow2 hZ hPl hb2 hZd
  have hi1 : (ys.length : Int) ≤ (xs.length : Int) + 1 := by omega
  have hi2 : ys.length ≤ xs.length + 1 := by omega
  have hi3 : ¬ (xs.length + 1 = ys.length) := by omega
  go_region_held3 (fun _ => True) (first | exact True.intro | trivial)
    (first
    | (go_at_call 174; refine (HPB.out).mono ?_; rintro e w3 ⟨P, o, rfl, hPl', hPd, ho, hPv, hrow3, hu3⟩
       have hroom : val W64 (Z.drop ys.length) + o < W64 ^ (Z.drop ys.length).length := by
         refine sum_room (n := ys.length) hPv HS.out ?_
         rw [HQ.out, show ys.length + (xs.length + 1 - ys.length) = xs.length + 1 by omega, HV.out]
         have h1 := val_lt dx
         have h2 := val_lt dy
         have h3 : W64 ^ ys.length ≤ W64 ^ xs.length := Nat.pow_le_pow_right (by decide) hlt
         rw [Nat.pow_succ]
         simp only [W64] at *
         omega
       have hrowQ : Row .u64 w3 w.heap.size 182 (P ++ (Z.drop ys.length ++ [])) := by rw [List.append_nil]; simpa using hrow3
       have hCA := carry_any w.heap.size ys.length P (Z.drop ys.length) [] (xs.length + 1 - ys.length) o w3 hPl' hrowQ (HD.out.drop _) ho hroom (by rw [HQ.out]; omega)
       rw [HQ.out] at hCA
       have HCA := Lib.hid hCA
       have HPV := Lib.hid hPv
       clear hCA hrowQ hroom hPv)
    | (go_at_call 173; refine (HCA.out).mono ?_; rintro e w4 ⟨Q, rfl, hQl', hQd, hQv, hrow4, hu4⟩))
  rw [List.append_nil] at hrow4
  have hlen : (P ++ Q).length = xs.length + 1 := by rw [List.length_append, hPl', hQl']; omega
  have hval : val W64 (P ++ Q) = val W64 xs + val W64 ys := by
    rw [val_append, hPl']
    have := sum_end HPV.out HS.out hQv
    rw [this, HV.out]
  have hb4 : Below w.heap.size w w4 := (HW.out.drew).trans ((hu3.trans hu4).below (Nat.le_refl _))
  have hsz4 : w.heap.size < w4.heap.size := by have := hu3.size; have := hu4.size; simp at *; omega
  have hdig : Dig W64 (P ++ Q) := hPd.append hQd
  have hsl := hrow4.sl hsz4
  have hT := trim_any (some ⟨w.heap.size, 0, none⟩) (P ++ Q) (xs.length + 1) w4 hsl (by omega) (by unfold maxLen; omega)
  rw [hlen] at hT
  have HT := Lib.hid hT
  have HLN := Lib.hid hlen
  have HVL := Lib.hid hval
  clear hT hlen hval hPl' hQl' hQv
  go_wp2_with fail
  refine (HT.out).mono ?_
  rintro e w5 ⟨rfl, rfl⟩
  go_wp2_with fail
  go_ret
  have hln := trimL_len (P ++ Q)
  rw [HLN.out] at hln
  exact ⟨_, _, _, rfl, sl_trimL hsl, dig_trimL hdig, norm_trimL _, by rw [val_trimL, HVL.out], hln, Nat.le_refl _, hb4⟩

set_option maxHeartbeats 400000 in
set_option maxRecDepth 100000 in
theorem sum_lt (A B : Option Addr) (xs ys : List Nat) (c d : Nat) (w : World) (hx : Sl .u64 w w.heap.size A xs) (hy : Sl .u64 w w.heap.size B ys) (dx : Dig W64 xs) (dy : Dig W64 ys)
    (hl : (xs.length + 1) * 8 ≤ 140737488351232) (hk : (ys.length + 1) * 8 ≤ 140737488351232) (hlt : xs.length < ys.length) :
    Calls Tryz.prog 156 #[.slice A xs.length c, .slice B ys.length d] w (Words w (val W64 xs + val W64 ys) (ys.length + 1)) := by
  go_enter Tryz.func156, Tryz.ntmps156
  go_wp2_with (first
    | (at_make; refine wpList_make_row _ rfl _ _ 83 rfl 182 .u64 8 Tryz.underlying83 info_u64 _ _ _ _ (ys.length + 1) rfl rfl (by omega) (by omega) (by omega) (by unfold maxLen; omega) ?_
       intro w1 hrow1 hbel1)
    | ((with_reducible refine wpList_copy_words _ rfl (.tmp 17) (.tmp 18) 83 83 rfl 182 Tryz.underlying83 info_u64s B .u64 w.heap.size (List.replicate (ys.length + 1) 0) ys (ys.length + 1) d (by simp [Act.eval]) rfl hrow1 (hy.below hbel1) (by simp) ?_)
       intro w2 hrow2 hbel2))
  have hb2 : Below w.heap.size w w2 := hbel1.trans hbel2
  have hg : w.heap.size < w2.heap.size := hrow2.lt
  obtain ⟨Z, hZ⟩ : ∃ Z, Z = ys ++ (List.replicate (ys.length + 1) 0).drop ys.length := ⟨_, rfl⟩
  rw [← hZ] at hrow2
  have hZl : Z.length = ys.length + 1 := by rw [hZ]; simp
  have hZd : Dig W64 Z := by rw [hZ]; exact dy.append ((Dig.replicate (by decide) _).drop _)
  have hZv : val W64 Z = val W64 ys := by rw [hZ, val_append, List.drop_replicate, val_replicate]; simp
  have hsplit := val_take_drop W64 Z xs.length (by omega)
  have hPl : (Z.take xs.length).length = xs.length := by rw [List.length_take]; omega
  have hQl : (Z.drop xs.length).length = ys.length + 1 - xs.length := by rw [List.length_drop]; omega
  have hrowP : Row .u64 w2.drew w.heap.size 182 ([] ++ (Z.take xs.length ++ Z.drop xs.length)) := by rw [List.nil_append, List.take_append_drop]; exact hrow2.drew1
  have hPB := putBack_any w.heap.size 0 [] (Z.take xs.length) (Z.drop xs.length) xs A (ys.length + 1) c w2.drew rfl hrowP (hx.below (hb2.drew)) hPl.symm (hZd.take _) dx (by rw [hPl]; omega)
  rw [hPl] at hPB
  have HPB := Lib.hid hPB
  have HS := Lib.hid hsplit
  have HV := Lib.hid hZv
  have HQ := Lib.hid hQl
  have HZL := Lib.hid hZl
  have HP := Lib.hid hPl
  have HW := Lib.hid hb2
  have HD := Lib.hid hZd
  clear hPB hsplit hZv hQl hZl hrowP hrow1 hbel1 hbel2 hrow2 hZ hPl hb2 hZd
  have hi1 : (xs.length : Int) ≤ (ys.length : Int) + 1 := by omega
  have hi2 : xs.length ≤ ys.length + 1 := by omega
  have hi3 : ¬ (ys.length + 1 = xs.length) := by omega
  go_region_held3 (fun _ => True) (first | exact True.intro | trivial)
    (first
    | (go_at_call 174; refine (HPB.out).mono ?_; rintro e w3 ⟨P, o, rfl, hPl', hPd, ho, hPv, hrow3, hu3⟩
       have hroom : val W64 (Z.drop xs.length) + o < W64 ^ (Z.drop xs.length).length := by
         refine sum_room (n := xs.length) hPv HS.out ?_
         rw [HQ.out, show xs.length + (ys.length + 1 - xs.length) = ys.length + 1 by omega, HV.out]
         have h1 := val_lt dy
         have h2 := val_lt dx
         have h3 : W64 ^ xs.length ≤ W64 ^ ys.length := Nat.pow_le_pow_right (by decide) (Nat.le_of_lt hlt)
         rw [Nat.pow_succ]
         simp only [W64] at *
         omega
       have hrowQ : Row .u64 w3 w.heap.size 182 (P ++ (Z.drop xs.length ++ [])) := by rw [List.append_nil]; simpa using hrow3
       have hCA := carry_any w.heap.size xs.length P (Z.drop xs.length) [] (ys.length + 1 - xs.length) o w3 hPl' hrowQ (HD.out.drop _) ho hroom (by rw [HQ.out]; omega)
       rw [HQ.out] at hCA
       have HCA := Lib.hid hCA
       have HPV := Lib.hid hPv
       clear hCA hrowQ hroom hPv)
    | (go_at_call 173; refine (HCA.out).mono ?_; rintro e w4 ⟨Q, rfl, hQl', hQd, hQv, hrow4, hu4⟩))
  rw [List.append_nil] at hrow4
  have hlen : (P ++ Q).length = ys.length + 1 := by rw [List.length_append, hPl', hQl']; omega
  have hval : val W64 (P ++ Q) = val W64 xs + val W64 ys := by
    rw [val_append, hPl']
    have := sum_end HPV.out HS.out hQv
    rw [this, HV.out]; exact Nat.add_comm _ _
  have hb4 : Below w.heap.size w w4 := (HW.out.drew).trans ((hu3.trans hu4).below (Nat.le_refl _))
  have hsz4 : w.heap.size < w4.heap.size := by have := hu3.size; have := hu4.size; simp at *; omega
  have hdig : Dig W64 (P ++ Q) := hPd.append hQd
  have hsl := hrow4.sl hsz4
  have hT := trim_any (some ⟨w.heap.size, 0, none⟩) (P ++ Q) (ys.length + 1) w4 hsl (by omega) (by unfold maxLen; omega)
  rw [hlen] at hT
  have HT := Lib.hid hT
  have HLN := Lib.hid hlen
  have HVL := Lib.hid hval
  clear hT hlen hval hPl' hQl' hQv
  go_wp2_with fail
  refine (HT.out).mono ?_
  rintro e w5 ⟨rfl, rfl⟩
  go_wp2_with fail
  go_ret
  have hln := trimL_len (P ++ Q)
  rw [HLN.out] at hln
  exact ⟨_, _, _, rfl, sl_trimL hsl, dig_trimL hdig, norm_trimL _, by rw [val_trimL, HVL.out], hln, Nat.le_refl _, hb4⟩

theorem Words.mono {w : World} {V C C' : Nat} {e : Ending} {w' : World} (h : Words w V C e w') (hC : C ≤ C') : Words w V C' e w' := by
  obtain ⟨A, zs, c, h1, h2, h3, h4, h5, h6, h7, h8⟩ := h
  exact ⟨A, zs, c, h1, h2, h3, h4, h5, h6, by omega, h8⟩
theorem sum_any (A B : Option Addr) (xs ys : List Nat) (c d : Nat) (w : World) (hx : Sl .u64 w w.heap.size A xs) (hy : Sl .u64 w w.heap.size B ys) (dx : Dig W64 xs) (dy : Dig W64 ys)
    (hl : (xs.length + 1) * 8 ≤ 140737488351232) (hk : (ys.length + 1) * 8 ≤ 140737488351232) :
    Calls Tryz.prog 156 #[.slice A xs.length c, .slice B ys.length d] w (Words w (val W64 xs + val W64 ys) (max xs.length ys.length + 1)) := by
  by_cases h : ys.length ≤ xs.length
  · exact (sum_ge A B xs ys c d w hx hy dx dy hl hk h).mono fun _ _ h => h.mono (by omega)
  · exact (sum_lt A B xs ys c d w hx hy dx dy hl hk (by omega)).mono fun _ _ h => h.mono (by omega)
end Go.Proofs.YtplgheabhekedaaGreatDoor
