/-
  What large's sum, difference and product return. Conditions: that numbers are no longer than memory.
-/
import Derived.Test.YtjamfkafgfpobaaGreatOf
import Derived.Laws.CopyOwn
import Derived.Deep.RegionHeld3
import Derived.Test.YtjamfkafgfpobaaGreatShelf
import Derived.Deep.RegionLaw
namespace Go.Proofs.YtjamfkafgfpobaaGreat
open Go.RowKit Nb
/-- A new list of words that tells a number. -/
def Words (w : World) (V C : Nat) (e : Ending) (w' : World) : Prop := ∃ (A : Option Addr) (zs : List Nat) (c : Nat), e = .returned (.slice A zs.length c) ∧ Sl .u64 w' w'.heap.size A zs ∧ Dig W64 zs ∧ Norm zs ∧ val W64 zs = V ∧ zs.length ≤ c ∧ c ≤ C ∧ Below w.heap.size w w'
set_option maxHeartbeats 400000 in
/-- 0 or 1 is added to z, which has room for it. -/
theorem carry_any (g off : Nat) (pre zs post : List Nat) (c o : Nat) (w : World) (hoff : pre.length = off) (hz : Row .u64 w g 160 (pre ++ (zs ++ post)))
    (dz : Dig W64 zs) (ho : o ≤ 1) (hroom : val W64 zs + o < W64 ^ zs.length) (hb : (off + zs.length) * 8 ≤ 140737488351232) :
    Calls Tryz.prog 141 #[.slice (some ⟨g, off, none⟩) zs.length c, .int .u64 o] w fun e w' => ∃ (zs' : List Nat), e = .returned (.tuple #[]) ∧ zs'.length = zs.length ∧ Dig W64 zs' ∧
      val W64 zs' = val W64 zs + o ∧ Row .u64 w' g 160 (pre ++ (zs' ++ post)) ∧ Upd g w w' := by
  have HO := Lib.hid hoff
  have HR := Lib.hid hroom
  clear hoff hroom
  go_enter Tryz.func141, Tryz.ntmps141
  go_wp2
  go_loopw [1, 4] (fun cv iv wr => ∃ (k p : Nat) (ds : List Nat), k ≤ zs.length ∧ iv = .int .i64 k ∧ cv = .int .u64 p ∧ p ≤ 1 ∧ ds.length = k ∧ Dig W64 ds ∧ val W64 ds + W64 ^ k * p = val W64 (zs.take k) + o ∧
      Row .u64 wr g 160 (pre ++ ((ds ++ zs.drop k) ++ post)) ∧ Upd g w wr) (fun _ iv _ => zs.length - (intOf iv).toNat)
  case atStart => exact ⟨0, o, [], Nat.zero_le _, rfl, rfl, ho, rfl, Dig.nil _, by simp [val], by simpa using hz, Upd.refl _ _⟩
  case round =>
    obtain ⟨k, p, ds, hk, rfl, rfl, hp, hdl, hdd, he, hrow, hu⟩ := hrel
    have HD := Lib.hid hdl; clear hdl
    have HE := Lib.hid he; clear he
    rcases (show p = 0 ∨ p = 1 by omega) with rfl | rfl
    · go_wp2
      go_end0
      have h1 := HE.out
      rw [Nat.mul_zero, Nat.add_zero] at h1
      refine ⟨ds ++ zs.drop k, rfl, fill_length ds zs HD.out hk, hdd.append (dz.drop k), ?_, hrow, hu⟩
      rw [val_append, HD.out, h1, val_take_drop W64 zs k hk]; omega
    · have hkz : k < zs.length := by
        rcases Nat.lt_or_ge k zs.length with h | h
        · exact h
        · obtain rfl : k = zs.length := by omega
          have h1 := HE.out
          rw [List.take_length] at h1
          have := carry_zero h1 HR.out
          omega
      have gf := hrow.frozen (off + k)
      have gc := hrow.cell (i := off + k) (by have := HO.out; have := HD.out; simp; omega)
      have hx := dz.get hkz
      have hgz : (pre ++ ((ds ++ zs.drop k) ++ post))[off + k]'(by have := HO.out; have := HD.out; simp; omega) = zs[k] := by
        have h := get_mid pre (ds ++ zs.drop k) post (k := k) (by rw [fill_length ds zs HD.out (by omega)]; exact hkz) (by have := HD.out; simp; omega)
        rw [fill_get ds zs HD.out hkz] at h
        rw [← h]
        congr 1
        rw [HO.out]
      rw [hgz] at gc
      have hset : ∀ v : Nat, (pre ++ ((ds ++ zs.drop k) ++ post)).set (off + k) v = pre ++ (((ds ++ [v]) ++ zs.drop (k + 1)) ++ post) := fun v => by
        have h := set_mid pre (ds ++ zs.drop k) post (k := k) v (by rw [fill_length ds zs HD.out (by omega)]; exact hkz)
        rw [fill_put ds zs v HD.out hkz] at h
        rw [← h]
        congr 1
        rw [HO.out]
      have hrs := fun v => hrow.set_ (off + k) v
      have hstep := fun v o' => step_up (v := v) (c' := o') (t := zs[k]) HE.out HD.out
      have hty : val W64 (zs.take (k + 1)) + o = val W64 (zs.take k) + o + W64 ^ k * zs[k] := by
        rw [val_take_succ W64 hkz]; omega
      generalize zs[k] = x at *
      obtain ⟨v, o', hadd, hv, ho', hvo⟩ := add64_ex x 0 1 hx (by decide) (by omega)
      have hrs' := hrs v
      rw [hset v] at hrs'
      have hst' := hstep v o' (by rw [hvo])
      rw [← hty] at hst'
      have HS := Lib.hid hst'
      have HR' := Lib.hid hrs'
      clear hgz hset hrs hstep hty hst' hrs' hvo hx
      have hji : (k : Int) < (zs.length : Int) := by omega
      have hadd' : ∀ w, (callFunc 146 #[.int .u64 x, .int .u64 0, .int .u64 1]).run Tryz.prog w = .ok (.value (.tuple #[.int .u64 v, .int .u64 o'])) w := hadd
      clear hadd
      go_wp2
      go_roundw
      case rel => exact ⟨k + 1, o', ds ++ [v], by omega, by go_num, rfl, ho', by have := HD.out; simp; omega, dig_snoc hdd hv, HS.out, HR'.out, hu.setCell _ _⟩
      case measure => simp [intOf]; omega
theorem wpList_copy_words {P : Program} (w : World) {ops : Array Oper} {rest : List Oper} {o : Oper} {a : Act} {Q : Exit → Act → World → Prop} (hgd : o.guard = none) (d s : Operand) (dT sT : TypeId)
    (ho : o.op = .call { callee := .builtin .copy, args := #[d, s], argTypes := #[dT, sT] }) (elem : TypeId) (hu : P.underlying dT = some (.slice elem)) (hsz : (P.info? elem).map (·.size) = some 1)
    (A : Option Addr) (k : IntKind) (g : Nat) (zs xs : List Nat) (dCap sCap : Nat) (hd : a.eval d = .slice (some ⟨g, 0, none⟩) zs.length dCap) (hs : a.eval s = .slice A xs.length sCap)
    (hz : Row k w g elem zs) (hx : Sl k w g A xs) (hl : xs.length ≤ zs.length)
    (hK : ∀ w', Row k w' g elem (xs ++ zs.drop xs.length) → Below g w w' → wpList P ops Q rest (a.put o.dst (goInt xs.length)) w') : wpList P ops Q (o :: rest) a w := by
  refine wpList_copy_splice hgd d s dT sT ho elem hu hsz _ _ _ _ _ _ hd hs g 0 (zs.map fun n : Nat => Value.int k n) elem hz (xs.map fun n : Nat => Value.int k n) (by rw [List.length_map]; exact (Nat.min_eq_left hl).symm) (fun hn => ⟨rfl, ?_⟩) (by simpa using hl) (fun v hv => ?_) g w (Below.refl _ _) (Nat.le_refl _) (fun w' h1 h2 => ?_)
  · obtain ⟨ad, e, _, hc⟩ := hx (by simpa using hn)
    refine ⟨ad, e, fun j v hv => ?_⟩
    rw [List.getElem?_map] at hv
    rcases hj : xs[j]? with _ | u
    · rw [hj] at hv; cases hv
    · rw [hj] at hv
      obtain ⟨hlt, rfl⟩ := List.getElem?_eq_some_iff.1 hj
      rw [hc j hlt]; exact hv
  · obtain ⟨n, _, rfl⟩ := List.mem_map.1 hv
    rfl
  · rw [List.length_map]
    refine hK w' ?_ h2
    have h3 := h1.out
    unfold Row
    rw [h3]
    simp [splice, List.map_drop]
theorem info_u64s : (Tryz.prog.info? 160).map (·.size) = some 1 := by kernel_rfl
theorem sum_room {B X Y P P' Q o n m : Nat} (hP : P' + B ^ n * o = P + Y) (hX : X = P + B ^ n * Q) (h : X + Y < B ^ (n + m)) : Q + o < B ^ m := by
  rw [Nat.pow_add] at h
  have h1 : B ^ n * (Q + o) < B ^ n * B ^ m := by rw [Nat.mul_add]; omega
  exact Nat.lt_of_mul_lt_mul_left h1
theorem sum_end {B X Y P P' Q Q' o n : Nat} (hP : P' + B ^ n * o = P + Y) (hX : X = P + B ^ n * Q) (h : Q' = Q + o) : P' + B ^ n * Q' = X + Y := by
  rw [h, Nat.mul_add]; omega
set_option maxHeartbeats 400000 in
set_option maxRecDepth 100000 in
theorem sum_ge (A B : Option Addr) (xs ys : List Nat) (c d : Nat) (w : World) (hx : Sl .u64 w w.heap.size A xs) (hy : Sl .u64 w w.heap.size B ys) (dx : Dig W64 xs) (dy : Dig W64 ys)
    (hl : (xs.length + 1) * 8 ≤ 140737488351232) (hk : (ys.length + 1) * 8 ≤ 140737488351232) (hlt : ys.length ≤ xs.length) :
    Calls Tryz.prog 125 #[.slice A xs.length c, .slice B ys.length d] w (Words w (val W64 xs + val W64 ys) (xs.length + 1)) := by
  go_enter Tryz.func125, Tryz.ntmps125
  go_wp2_with (first
    | (at_make; refine wpList_make_row _ rfl _ _ 70 rfl 160 .u64 8 Tryz.underlying70 info_u64 _ _ _ _ (xs.length + 1) rfl rfl (by omega) (by omega) (by omega) (by unfold maxLen; omega) ?_
       intro w1 hrow1 hbel1)
    | ((with_reducible refine wpList_copy_words _ rfl (.tmp 17) (.tmp 18) 70 70 rfl 160 Tryz.underlying70 info_u64s A .u64 w.heap.size (List.replicate (xs.length + 1) 0) xs (xs.length + 1) c (by simp [Act.eval]) rfl hrow1 (hx.below hbel1) (by simp) ?_)
       intro w2 hrow2 hbel2))
  have hb2 : Below w.heap.size w w2 := hbel1.trans hbel2
  have hg : w.heap.size < w2.heap.size := hrow2.lt
  obtain ⟨Z, hZ⟩ : ∃ Z, Z = xs ++ (List.replicate (xs.length + 1) 0).drop xs.length := ⟨_, rfl⟩
  rw [← hZ] at hrow2
  have hZl : Z.length = xs.length + 1 := by rw [hZ]; simp
  have hZd : Dig W64 Z := by rw [hZ]; exact dx.append ((Dig.replicate (by decide) _).drop _)
  have hZv : val W64 Z = val W64 xs := by rw [hZ, val_append, List.drop_replicate, val_replicate]; simp
  have hsplit := val_take_drop W64 Z ys.length (by omega)
  have hPl : (Z.take ys.length).length = ys.length := by rw [List.length_take]; omega
  have hQl : (Z.drop ys.length).length = xs.length + 1 - ys.length := by rw [List.length_drop]; omega
  have hrowP : Row .u64 w2.drew w.heap.size 160 ([] ++ (Z.take ys.length ++ Z.drop ys.length)) := by rw [List.nil_append, List.take_append_drop]; exact hrow2.drew1
  have hPB := putBack_any w.heap.size 0 [] (Z.take ys.length) (Z.drop ys.length) ys B (xs.length + 1) d w2.drew rfl hrowP (hy.below (hb2.drew)) hPl.symm (hZd.take _) dy (by rw [hPl]; omega)
  rw [hPl] at hPB
  have HPB := Lib.hid hPB
  have HS := Lib.hid hsplit
  have HV := Lib.hid hZv
  have HQ := Lib.hid hQl
  have HZL := Lib.hid hZl
  have HP := Lib.hid hPl
  have HW := Lib.hid hb2
  have HD := Lib.hid hZd
  clear hPB hsplit hZv hQl hZl hrowP hrow1 hbel1 hbel2 hrow2 hZ hPl hb2 hZd
  have hi1 : (ys.length : Int) ≤ (xs.length : Int) + 1 := by omega
  have hi2 : ys.length ≤ xs.length + 1 := by omega
  have hi3 : ¬ (xs.length + 1 = ys.length) := by omega
  go_region_held3 (fun _ => True) (first | exact True.intro | trivial)
    (first
    | (go_at_call 142; refine (HPB.out).mono ?_; rintro e w3 ⟨P, o, rfl, hPl', hPd, ho, hPv, hrow3, hu3⟩
       have hroom : val W64 (Z.drop ys.length) + o < W64 ^ (Z.drop ys.length).length := by
         refine sum_room (n := ys.length) hPv HS.out ?_
         rw [HQ.out, show ys.length + (xs.length + 1 - ys.length) = xs.length + 1 by omega, HV.out]
         have h1 := val_lt dx
         have h2 := val_lt dy
         have h3 : W64 ^ ys.length ≤ W64 ^ xs.length := Nat.pow_le_pow_right (by decide) hlt
         rw [Nat.pow_succ]
         simp only [W64] at *
         omega
       have hrowQ : Row .u64 w3 w.heap.size 160 (P ++ (Z.drop ys.length ++ [])) := by rw [List.append_nil]; simpa using hrow3
       have hCA := carry_any w.heap.size ys.length P (Z.drop ys.length) [] (xs.length + 1 - ys.length) o w3 hPl' hrowQ (HD.out.drop _) ho hroom (by rw [HQ.out]; omega)
       rw [HQ.out] at hCA
       have HCA := Lib.hid hCA
       have HPV := Lib.hid hPv
       clear hCA hrowQ hroom hPv)
    | (go_at_call 141; refine (HCA.out).mono ?_; rintro e w4 ⟨Q, rfl, hQl', hQd, hQv, hrow4, hu4⟩))
  rw [List.append_nil] at hrow4
  have hlen : (P ++ Q).length = xs.length + 1 := by rw [List.length_append, hPl', hQl']; omega
  have hval : val W64 (P ++ Q) = val W64 xs + val W64 ys := by
    rw [val_append, hPl']
    have := sum_end HPV.out HS.out hQv
    rw [this, HV.out]
  have hb4 : Below w.heap.size w w4 := (HW.out.drew).trans ((hu3.trans hu4).below (Nat.le_refl _))
  have hsz4 : w.heap.size < w4.heap.size := by have := hu3.size; have := hu4.size; simp at *; omega
  have hdig : Dig W64 (P ++ Q) := hPd.append hQd
  have hsl := hrow4.sl hsz4
  have hT := trim_any (some ⟨w.heap.size, 0, none⟩) (P ++ Q) (xs.length + 1) w4 hsl (by omega) (by unfold maxLen; omega)
  rw [hlen] at hT
  have HT := Lib.hid hT
  have HLN := Lib.hid hlen
  have HVL := Lib.hid hval
  clear hT hlen hval hPl' hQl' hQv
  go_wp2_with fail
  refine (HT.out).mono ?_
  rintro e w5 ⟨rfl, rfl⟩
  go_wp2_with fail
  go_ret
  have hln := trimL_len (P ++ Q)
  rw [HLN.out] at hln
  exact ⟨_, _, _, rfl, sl_trimL hsl, dig_trimL hdig, norm_trimL _, by rw [val_trimL, HVL.out], hln, Nat.le_refl _, hb4⟩
set_option maxHeartbeats 400000 in
set_option maxRecDepth 100000 in
theorem sum_lt (A B : Option Addr) (xs ys : List Nat) (c d : Nat) (w : World) (hx : Sl .u64 w w.heap.size A xs) (hy : Sl .u64 w w.heap.size B ys) (dx : Dig W64 xs) (dy : Dig W64 ys)
    (hl : (xs.length + 1) * 8 ≤ 140737488351232) (hk : (ys.length + 1) * 8 ≤ 140737488351232) (hlt : xs.length < ys.length) :
    Calls Tryz.prog 125 #[.slice A xs.length c, .slice B ys.length d] w (Words w (val W64 xs + val W64 ys) (ys.length + 1)) := by
  go_enter Tryz.func125, Tryz.ntmps125
  go_wp2_with (first
    | (at_make; refine wpList_make_row _ rfl _ _ 70 rfl 160 .u64 8 Tryz.underlying70 info_u64 _ _ _ _ (ys.length + 1) rfl rfl (by omega) (by omega) (by omega) (by unfold maxLen; omega) ?_
       intro w1 hrow1 hbel1)
    | ((with_reducible refine wpList_copy_words _ rfl (.tmp 17) (.tmp 18) 70 70 rfl 160 Tryz.underlying70 info_u64s B .u64 w.heap.size (List.replicate (ys.length + 1) 0) ys (ys.length + 1) d (by simp [Act.eval]) rfl hrow1 (hy.below hbel1) (by simp) ?_)
       intro w2 hrow2 hbel2))
  have hb2 : Below w.heap.size w w2 := hbel1.trans hbel2
  have hg : w.heap.size < w2.heap.size := hrow2.lt
  obtain ⟨Z, hZ⟩ : ∃ Z, Z = ys ++ (List.replicate (ys.length + 1) 0).drop ys.length := ⟨_, rfl⟩
  rw [← hZ] at hrow2
  have hZl : Z.length = ys.length + 1 := by rw [hZ]; simp
  have hZd : Dig W64 Z := by rw [hZ]; exact dy.append ((Dig.replicate (by decide) _).drop _)
  have hZv : val W64 Z = val W64 ys := by rw [hZ, val_append, List.drop_replicate, val_replicate]; simp
  have hsplit := val_take_drop W64 Z xs.length (by omega)
  have hPl : (Z.take xs.length).length = xs.length := by rw [List.length_take]; omega
  have hQl : (Z.drop xs.length).length = ys.length + 1 - xs.length := by rw [List.length_drop]; omega
  have hrowP : Row .u64 w2.drew w.heap.size 160 ([] ++ (Z.take xs.length ++ Z.drop xs.length)) := by rw [List.nil_append, List.take_append_drop]; exact hrow2.drew1
  have hPB := putBack_any w.heap.size 0 [] (Z.take xs.length) (Z.drop xs.length) xs A (ys.length + 1) c w2.drew rfl hrowP (hx.below (hb2.drew)) hPl.symm (hZd.take _) dx (by rw [hPl]; omega)
  rw [hPl] at hPB
  have HPB := Lib.hid hPB
  have HS := Lib.hid hsplit
  have HV := Lib.hid hZv
  have HQ := Lib.hid hQl
  have HZL := Lib.hid hZl
  have HP := Lib.hid hPl
  have HW := Lib.hid hb2
  have HD := Lib.hid hZd
  clear hPB hsplit hZv hQl hZl hrowP hrow1 hbel1 hbel2 hrow2 hZ hPl hb2 hZd
  have hi1 : (xs.length : Int) ≤ (ys.length : Int) + 1 := by omega
  have hi2 : xs.length ≤ ys.length + 1 := by omega
  have hi3 : ¬ (ys.length + 1 = xs.length) := by omega
  go_region_held3 (fun _ => True) (first | exact True.intro | trivial)
    (first
    | (go_at_call 142; refine (HPB.out).mono ?_; rintro e w3 ⟨P, o, rfl, hPl', hPd, ho, hPv, hrow3, hu3⟩
       have hroom : val W64 (Z.drop xs.length) + o < W64 ^ (Z.drop xs.length).length := by
         refine sum_room (n := xs.length) hPv HS.out ?_
         rw [HQ.out, show xs.length + (ys.length + 1 - xs.length) = ys.length + 1 by omega, HV.out]
         have h1 := val_lt dy
         have h2 := val_lt dx
         have h3 : W64 ^ xs.length ≤ W64 ^ ys.length := Nat.pow_le_pow_right (by decide) (Nat.le_of_lt hlt)
         rw [Nat.pow_succ]
         simp only [W64] at *
         omega
       have hrowQ : Row .u64 w3 w.heap.size 160 (P ++ (Z.drop xs.length ++ [])) := by rw [List.append_nil]; simpa using hrow3
       have hCA := carry_any w.heap.size xs.length P (Z.drop xs.length) [] (ys.length + 1 - xs.length) o w3 hPl' hrowQ (HD.out.drop _) ho hroom (by rw [HQ.out]; omega)
       rw [HQ.out] at hCA
       have HCA := Lib.hid hCA
       have HPV := Lib.hid hPv
       clear hCA hrowQ hroom hPv)
    | (go_at_call 141; refine (HCA.out).mono ?_; rintro e w4 ⟨Q, rfl, hQl', hQd, hQv, hrow4, hu4⟩))
  rw [List.append_nil] at hrow4
  have hlen : (P ++ Q).length = ys.length + 1 := by rw [List.length_append, hPl', hQl']; omega
  have hval : val W64 (P ++ Q) = val W64 xs + val W64 ys := by
    rw [val_append, hPl']
    have := sum_end HPV.out HS.out hQv
    rw [this, HV.out]; exact Nat.add_comm _ _
  have hb4 : Below w.heap.size w w4 := (HW.out.drew).trans ((hu3.trans hu4).below (Nat.le_refl _))
  have hsz4 : w.heap.size < w4.heap.size := by have := hu3.size; have := hu4.size; simp at *; omega
  have hdig : Dig W64 (P ++ Q) := hPd.append hQd
  have hsl := hrow4.sl hsz4
  have hT := trim_any (some ⟨w.heap.size, 0, none⟩) (P ++ Q) (ys.length + 1) w4 hsl (by omega) (by unfold maxLen; omega)
  rw [hlen] at hT
  have HT := Lib.hid hT
  have HLN := Lib.hid hlen
  have HVL := Lib.hid hval
  clear hT hlen hval hPl' hQl' hQv
  go_wp2_with fail
  refine (HT.out).mono ?_
  rintro e w5 ⟨rfl, rfl⟩
  go_wp2_with fail
  go_ret
  have hln := trimL_len (P ++ Q)
  rw [HLN.out] at hln
  exact ⟨_, _, _, rfl, sl_trimL hsl, dig_trimL hdig, norm_trimL _, by rw [val_trimL, HVL.out], hln, Nat.le_refl _, hb4⟩
theorem Words.mono {w : World} {V C C' : Nat} {e : Ending} {w' : World} (h : Words w V C e w') (hC : C ≤ C') : Words w V C' e w' := by
  obtain ⟨A, zs, c, h1, h2, h3, h4, h5, h6, h7, h8⟩ := h
  exact ⟨A, zs, c, h1, h2, h3, h4, h5, h6, by omega, h8⟩
theorem sum_any (A B : Option Addr) (xs ys : List Nat) (c d : Nat) (w : World) (hx : Sl .u64 w w.heap.size A xs) (hy : Sl .u64 w w.heap.size B ys) (dx : Dig W64 xs) (dy : Dig W64 ys)
    (hl : (xs.length + 1) * 8 ≤ 140737488351232) (hk : (ys.length + 1) * 8 ≤ 140737488351232) :
    Calls Tryz.prog 125 #[.slice A xs.length c, .slice B ys.length d] w (Words w (val W64 xs + val W64 ys) (max xs.length ys.length + 1)) := by
  by_cases h : ys.length ≤ xs.length
  · exact (sum_ge A B xs ys c d w hx hy dx dy hl hk h).mono fun _ _ h => h.mono (by omega)
  · exact (sum_lt A B xs ys c d w hx hy dx dy hl hk (by omega)).mono fun _ _ h => h.mono (by omega)
end Go.Proofs.YtjamfkafgfpobaaGreat
namespace Go.Proofs.YtjamfkafgfpobaaGreat
open Go.RowKit Nb
theorem val_take_more (B : Nat) (ys : List Nat) {k : Nat} (h : ys.length ≤ k) : val B (ys.take (k + 1)) = val B (ys.take k) + B ^ k * 0 := by
  rw [List.take_of_length_le (by omega), List.take_of_length_le h]; omega
set_option maxHeartbeats 800000 in
/-- x less y, which is not above it. -/
theorem difference_any (A B : Option Addr) (xs ys : List Nat) (c d : Nat) (w : World) (hx : Sl .u64 w w.heap.size A xs) (hy : Sl .u64 w w.heap.size B ys) (dx : Dig W64 xs) (dy : Dig W64 ys)
    (hl : xs.length * 8 ≤ 140737488351232) (hk : ys.length ≤ xs.length) (hle : val W64 ys ≤ val W64 xs) :
    Calls Tryz.prog 126 #[.slice A xs.length c, .slice B ys.length d] w (Words w (val W64 xs - val W64 ys) xs.length) := by
  go_enter Tryz.func126, Tryz.ntmps126
  go_wp2_with (at_make; refine wpList_make_row _ rfl _ _ 70 rfl 160 .u64 8 Tryz.underlying70 info_u64 _ _ _ _ xs.length rfl rfl (by omega) (by omega) (by omega) (by unfold maxLen; omega) ?_
               intro w1 hrow1 hbel1)
  have hg : w.heap.size < w1.heap.size := hrow1.lt
  have HLE := Lib.hid hle
  clear hle
  go_loopw [6, 14] (fun cv iv wr => ∃ (k o : Nat) (ds : List Nat), k ≤ xs.length ∧ iv = .int .i64 k ∧ cv = .int .u64 o ∧ o ≤ 1 ∧ ds.length = k ∧ Dig W64 ds ∧ val W64 ds + val W64 (ys.take k) = val W64 (xs.take k) + W64 ^ k * o ∧
      Row .u64 wr w.heap.size 160 (ds ++ (List.replicate xs.length 0).drop k) ∧ Upd w.heap.size w1 wr) (fun _ iv _ => xs.length - (intOf iv).toNat)
  case atStart => exact ⟨0, 0, [], Nat.zero_le _, rfl, rfl, by omega, rfl, Dig.nil _, by simp [val], by simpa using hrow1, Upd.refl _ _⟩
  case round =>
    obtain ⟨k, o, ds, hk', rfl, rfl, ho, hdl, hdd, he, hrow, hu⟩ := hrel
    have HD := Lib.hid hdl; clear hdl
    have HE := Lib.hid he; clear he
    by_cases hlt : k < xs.length
    · have hlr : k < (List.replicate xs.length 0).length := by simpa using hlt
      obtain ⟨ad, rfl, hb1, h1⟩ := ((hx.below hbel1).upd hu (Nat.le_refl _)).at_ hlt
      have gf := hrow.frozen k
      have gc := hrow.cell (i := k) (by have := HD.out; simp; omega)
      have hxx := dx.get hlt
      rw [fill_get ds _ HD.out hlr] at gc
      have hrs := fun v => hrow.set_ k v
      have hset := fun v => fill_put ds (List.replicate xs.length 0) v HD.out hlr
      have hji : (k : Int) < (xs.length : Int) := by omega
      by_cases hky : k < ys.length
      · obtain ⟨bd, rfl, hb2, h2⟩ := ((hy.below hbel1).upd hu (Nat.le_refl _)).at_ hky
        have hyy := dy.get hky
        have hjy : (k : Int) < (ys.length : Int) := by omega
        have hty : ∀ V T, V + (val W64 (ys.take k) + W64 ^ k * ys[k]) = val W64 (xs.take k) + W64 ^ k * xs[k] + T → V + val W64 (ys.take (k + 1)) = val W64 (xs.take (k + 1)) + T := fun V T h => by
          rw [val_take_succ W64 hlt, val_take_succ W64 hky]; exact h
        have hstep := fun v o' => step_sub (v := v) (c' := o') (x := xs[k]) (y := ys[k]) HE.out HD.out
        generalize xs[k] = x at *
        generalize ys[k] = y at *
        obtain ⟨v, o', hsub, hv, ho', hvo⟩ := sub64_ex x y o hxx hyy ho
        have hrs' := hrs v
        rw [hset v] at hrs'
        have hst' := hty _ _ (hstep v o' hvo)
        have HS := Lib.hid hst'
        have HR := Lib.hid hrs'
        clear hset hrs hstep hty hst' hrs' hvo hxx hyy
        go_wp2
        go_roundw
        case rel => exact ⟨k + 1, o', ds ++ [v], by omega, by go_num, rfl, ho', by have := HD.out; simp; omega, dig_snoc hdd hv, HS.out, HR.out, hu.setCell _ _⟩
        case measure => simp [intOf]; omega
      · have hty : ∀ V T, V + (val W64 (ys.take k) + W64 ^ k * 0) = val W64 (xs.take k) + W64 ^ k * xs[k] + T → V + val W64 (ys.take (k + 1)) = val W64 (xs.take (k + 1)) + T := fun V T h => by
          rw [val_take_succ W64 hlt, val_take_more W64 ys (by omega)]; exact h
        have hstep := fun v o' => step_sub (v := v) (c' := o') (x := xs[k]) (y := 0) HE.out HD.out
        have hjy : (ys.length : Int) ≤ (k : Int) := by omega
        have hyy : 0 < W64 := by decide
        generalize xs[k] = x at *
        obtain ⟨v, o', hsub, hv, ho', hvo⟩ := sub64_ex x 0 o hxx hyy ho
        have hrs' := hrs v
        rw [hset v] at hrs'
        have hst' := hty _ _ (hstep v o' hvo)
        have HS := Lib.hid hst'
        have HR := Lib.hid hrs'
        have hsub' : ∀ w, (callFunc 143 #[.int .u64 x, .int .u64 0, .int .u64 o]).run Tryz.prog w = .ok (.value (.tuple #[.int .u64 v, .int .u64 o'])) w := hsub
        clear hsub
        clear hset hrs hstep hty hst' hrs' hvo hxx hyy
        go_wp2
        go_roundw
        case rel => exact ⟨k + 1, o', ds ++ [v], by omega, by go_num, rfl, ho', by have := HD.out; simp; omega, dig_snoc hdd hv, HS.out, HR.out, hu.setCell _ _⟩
        case measure => simp [intOf]; omega
    · obtain rfl : k = xs.length := by omega
      have hnil : (List.replicate xs.length 0).drop xs.length = [] := by simp
      rw [hnil, List.append_nil] at hrow
      have hsz : w.heap.size < wr.heap.size := hrow.lt
      have hval : val W64 ds = val W64 xs - val W64 ys := by
        have h1 := HE.out
        rw [List.take_length, List.take_of_length_le hk] at h1
        have h2 := val_lt hdd
        rw [HD.out] at h2
        have h3 : o = 0 := by
          rcases (show o = 0 ∨ o = 1 by omega) with h | h
          · exact h
          · subst h; rw [Nat.mul_one] at h1
            have := HLE.out
            omega
        subst h3
        omega
      have hsl := hrow.sl hsz
      have hT := trim_any (some ⟨w.heap.size, 0, none⟩) ds xs.length wr hsl (by have := HD.out; omega) (by unfold maxLen; omega)
      rw [HD.out] at hT
      have HT := Lib.hid hT
      have HV := Lib.hid hval
      have hb4 : Below w.heap.size w wr := hbel1.trans (hu.below (Nat.le_refl _))
      clear hT hval
      go_wp2_with fail
      refine (HT.out).mono ?_
      rintro e w5 ⟨rfl, rfl⟩
      go_wp2_with fail
      go_ret
      have hln := trimL_len ds
      rw [HD.out] at hln
      exact ⟨_, _, _, rfl, sl_trimL hsl, dig_trimL hdd, norm_trimL _, by rw [val_trimL, HV.out], hln, Nat.le_refl _, hb4⟩
end Go.Proofs.YtjamfkafgfpobaaGreat
namespace Go.Proofs.YtjamfkafgfpobaaGreat
open Go.RowKit Nb
theorem mul64_ex (x y : Nat) (hx : x < W64) (hy : y < W64) : ∃ h l : Nat, (∀ w, Calls Tryz.prog 145 #[.int .u64 x, .int .u64 y] w fun e w' => e = .returned (.tuple #[.int .u64 h, .int .u64 l]) ∧ w = w') ∧ l < W64 ∧ l + W64 * h = x * y ∧ h + 2 ≤ W64 := by
  refine ⟨x * y / W64, x * y % W64, fun w => (Tryz.bits_Mul64 x y hx hy w).mono fun _ _ h => ⟨h.1, h.2.symm⟩, Nat.mod_lt _ (by decide), Nat.mod_add_div _ _, ?_⟩
  have h1 : x * y ≤ (W64 - 1) * (W64 - 1) := Nat.mul_le_mul (by omega) (by omega)
  have h2 : x * y / W64 ≤ (W64 - 1) * (W64 - 1) / W64 := Nat.div_le_div_right h1
  have h3 : (W64 - 1) * (W64 - 1) / W64 = W64 - 2 := by decide
  have h4 : 2 ≤ W64 := by decide
  omega
theorem mulad_eq {K v h l xw z d1 o1 o2 c : Nat} (h1 : l + K * h = xw) (h2 : d1 + K * o1 = l + z + 0) (h3 : v + K * o2 = d1 + c + 0) : v + K * (h + o1 + o2) = xw + z + c := by
  rw [Nat.mul_add, Nat.mul_add]; omega
set_option maxHeartbeats 800000 in
/-- x times one word is added to z, which has as many words. -/
theorem addTimes_any (g off : Nat) (pre zs post xs : List Nat) (A : Option Addr) (c d q : Nat) (w : World) (hoff : pre.length = off) (hz : Row .u64 w g 160 (pre ++ (zs ++ post))) (hx : Sl .u64 w g A xs)
    (hl : xs.length = zs.length) (hc : zs.length ≤ c) (dz : Dig W64 zs) (dx : Dig W64 xs) (hq : q < W64) (hb : (off + zs.length) * 8 ≤ 140737488351232) :
    Calls Tryz.prog 130 #[.slice (some ⟨g, off, none⟩) zs.length c, .slice A xs.length d, .int .u64 q] w fun e w' => ∃ (zs' : List Nat) (o : Nat), e = .returned (.int .u64 o) ∧ zs'.length = zs.length ∧ Dig W64 zs' ∧ o < W64 ∧
      val W64 zs' + W64 ^ zs.length * o = val W64 zs + val W64 xs * q ∧ Row .u64 w' g 160 (pre ++ (zs' ++ post)) ∧ Upd g w w' := by
  have HL := Lib.hid hl
  have HO := Lib.hid hoff
  have hxl : xs.length * 8 ≤ 140737488351232 := by omega
  have hxc : xs.length ≤ c := by omega
  have hxi : (xs.length : Int) ≤ (c : Int) := by omega
  rw [← hl]
  clear hl hoff
  go_enter Tryz.func130, Tryz.ntmps130
  go_wp2
  go_loopw [6, 18] (fun cv iv wr => ∃ (k o : Nat) (ds : List Nat), k ≤ xs.length ∧ iv = .int .i64 k ∧ cv = .int .u64 o ∧ o < W64 ∧ ds.length = k ∧ Dig W64 ds ∧ val W64 ds + W64 ^ k * o = val W64 (zs.take k) + val W64 (xs.take k) * q ∧
      Row .u64 wr g 160 (pre ++ ((ds ++ zs.drop k) ++ post)) ∧ Upd g w wr) (fun _ iv _ => xs.length - (intOf iv).toNat)
  case atStart => exact ⟨0, 0, [], Nat.zero_le _, rfl, rfl, by decide, rfl, Dig.nil _, by simp [val], by simpa using hz, Upd.refl _ _⟩
  case round =>
    obtain ⟨k, o, ds, hk, rfl, rfl, ho, hdl, hdd, he, hrow, hu⟩ := hrel
    have HD := Lib.hid hdl; clear hdl
    have HE := Lib.hid he; clear he
    by_cases hlt : k < xs.length
    · have hkz : k < zs.length := by have := HL.out; omega
      obtain ⟨ad, rfl, hb1, h1⟩ := (hx.upd hu (Nat.le_refl _)).at_ hlt
      have gf := hrow.frozen (off + k)
      have gc := hrow.cell (i := off + k) (by have := HO.out; have := HD.out; simp; omega)
      have hzz := dz.get hkz
      have hxx := dx.get hlt
      have hgz : (pre ++ ((ds ++ zs.drop k) ++ post))[off + k]'(by have := HO.out; have := HD.out; simp; omega) = zs[k] := by
        have h := get_mid pre (ds ++ zs.drop k) post (k := k) (by rw [fill_length ds zs HD.out (by omega)]; exact hkz) (by have := HD.out; simp; omega)
        rw [fill_get ds zs HD.out hkz] at h
        rw [← h]
        congr 1
        rw [HO.out]
      rw [hgz] at gc
      have hset : ∀ v : Nat, (pre ++ ((ds ++ zs.drop k) ++ post)).set (off + k) v = pre ++ (((ds ++ [v]) ++ zs.drop (k + 1)) ++ post) := fun v => by
        have h := set_mid pre (ds ++ zs.drop k) post (k := k) v (by rw [fill_length ds zs HD.out (by omega)]; exact hkz)
        rw [fill_put ds zs v HD.out hkz] at h
        rw [← h]
        congr 1
        rw [HO.out]
      have hrs := fun v => hrow.set_ (off + k) v
      have hstep := fun v o' => step_up (v := v) (c' := o') (t := zs[k] + xs[k] * q) HE.out HD.out
      have hty : val W64 (zs.take (k + 1)) + val W64 (xs.take (k + 1)) * q = val W64 (zs.take k) + val W64 (xs.take k) * q + W64 ^ k * (zs[k] + xs[k] * q) := by
        rw [val_take_succ W64 hkz, val_take_succ W64 hlt, Nat.mul_add, Nat.add_mul, Nat.mul_assoc]; omega
      generalize zs[k] = z at *
      generalize xs[k] = x at *
      obtain ⟨h, l, hmul, hll, hlo, hh⟩ := mul64_ex x q hxx hq
      obtain ⟨d1, o1, hadd1, hd1, ho1, hvo1⟩ := add64_ex l z 0 hll hzz (by omega)
      obtain ⟨v, o2, hadd2, hv, ho2, hvo2⟩ := add64_ex d1 o 0 hd1 ho (by omega)
      have htot := mulad_eq hlo hvo1 hvo2
      have hcarry := mul_carry hxx hq hzz ho htot
      have hrs' := hrs v
      rw [hset v] at hrs'
      have hst' := hstep v (h + o1 + o2) (by rw [htot, Nat.add_comm (x * q) z])
      rw [← hty] at hst'
      have HS := Lib.hid hst'
      have HR := Lib.hid hrs'
      have HC := Lib.hid hcarry
      have hc1 : (h : Int) + o1 ≤ 18446744073709551615 := by simp only [W64] at *; omega
      have hc2 : (h : Int) + o1 + o2 ≤ 18446744073709551615 := by simp only [W64] at *; omega
      have hadd1' : ∀ w, (callFunc 146 #[.int .u64 l, .int .u64 z, .int .u64 0]).run Tryz.prog w = .ok (.value (.tuple #[.int .u64 d1, .int .u64 o1])) w := hadd1
      have hadd2' : ∀ w, (callFunc 146 #[.int .u64 d1, .int .u64 o, .int .u64 0]).run Tryz.prog w = .ok (.value (.tuple #[.int .u64 v, .int .u64 o2])) w := hadd2
      clear hadd1 hadd2 hgz hset hrs hstep hty hst' hrs' hvo1 hvo2 htot hcarry hlo hll hzz hxx
      have hji : (k : Int) < (xs.length : Int) := by omega
      go_wp2_with (go_at_call 145; refine (hmul _).mono ?_; rintro e w' ⟨rfl, rfl⟩)
      go_roundw
      case rel => exact ⟨k + 1, h + o1 + o2, ds ++ [v], by omega, by go_num, by go_num, HC.out, by have := HD.out; simp; omega, dig_snoc hdd hv, HS.out, HR.out, hu.setCell _ _⟩
      case measure => simp [intOf]; omega
    · obtain rfl : k = xs.length := by omega
      go_wp2
      go_ret
      have h1 := HE.out
      rw [List.take_length, HL.out, List.take_length] at h1
      have h2 : zs.drop xs.length = [] := by rw [HL.out, List.drop_length]
      rw [h2, List.append_nil] at hrow
      exact ⟨ds, o, rfl, HD.out, hdd, ho, by rw [HL.out]; exact h1, hrow, hu⟩
end Go.Proofs.YtjamfkafgfpobaaGreat
namespace Go.Proofs.YtjamfkafgfpobaaGreat
open Go.RowKit Nb
theorem Words.nil {w : World} {C : Nat} {w' : World} (hb : Below w.heap.size w w') : Words w 0 C (.returned (.slice none 0 0)) w' :=
  ⟨none, [], 0, rfl, Sl.none_, Dig.nil _, Norm.nil, rfl, Nat.le_refl _, Nat.zero_le _, hb⟩
theorem replicate_split {n k : Nat} (h : k < n) : List.replicate (n - k) 0 = 0 :: List.replicate (n - (k + 1)) 0 := by
  rw [show n - k = n - (k + 1) + 1 by omega, List.replicate_succ]
set_option maxHeartbeats 800000 in
theorem product_nil (A B : Option Addr) (n m c d : Nat) (w : World) (h : n = 0 ∨ m = 0) :
    Calls Tryz.prog 119 #[.slice A n c, .slice B m d] w (Words w 0 0) := by
  rcases Nat.eq_zero_or_pos n with rfl | hn
  · clear h
    go_enter Tryz.func119, Tryz.ntmps119
    go_wp2
    go_ret
    exact Words.nil (Below.refl _ _)
  · obtain rfl : m = 0 := by omega
    clear h
    go_enter Tryz.func119, Tryz.ntmps119
    go_wp2
    go_ret
    exact Words.nil (Below.refl _ _)
set_option maxHeartbeats 800000 in
theorem product_pos (A B : Option Addr) (xs ys : List Nat) (c d : Nat) (w : World) (hx : Sl .u64 w w.heap.size A xs) (hy : Sl .u64 w w.heap.size B ys) (dx : Dig W64 xs) (dy : Dig W64 ys)
    (hl : (xs.length + ys.length) * 8 ≤ 140737488351232) (hn : 0 < xs.length) (hm : 0 < ys.length) :
    Calls Tryz.prog 119 #[.slice A xs.length c, .slice B ys.length d] w (Words w (val W64 xs * val W64 ys) (xs.length + ys.length)) := by
  have hn0 : ((xs.length : Int) == 0) = false := beq_false_of_ne (by omega)
  have hm0 : ((ys.length : Int) == 0) = false := beq_false_of_ne (by omega)
  go_enter Tryz.func119, Tryz.ntmps119
  go_wp2_with (at_make; refine wpList_make_row _ rfl _ _ 70 rfl 160 .u64 8 Tryz.underlying70 info_u64 _ _ _ _ (xs.length + ys.length) rfl rfl (by omega) (by omega) (by omega) (by unfold maxLen; omega) ?_
               intro w1 hrow1 hbel1)
  have hg : w.heap.size < w1.heap.size := hrow1.lt
  go_loopw [24] (fun iv wr => ∃ (k : Nat) (ms : List Nat), k ≤ ys.length ∧ iv = .int .i64 k ∧ ms.length = xs.length + k ∧ Dig W64 ms ∧ val W64 ms = val W64 xs * val W64 (ys.take k) ∧
      Row .u64 wr w.heap.size 160 (ms ++ List.replicate (ys.length - k) 0) ∧ Upd w.heap.size w1 wr) (fun iv _ => ys.length - (intOf iv).toNat)
  case atStart => exact ⟨0, List.replicate xs.length 0, Nat.zero_le _, rfl, by simp, Dig.replicate (by decide) _, by rw [val_replicate]; simp [val], by rw [List.replicate_append_replicate]; simpa using hrow1, Upd.refl _ _⟩
  case round =>
    obtain ⟨k, ms, hk', rfl, hml, hmd, hv, hrow, hu⟩ := hrel
    have HM := Lib.hid hml; clear hml
    have HV := Lib.hid hv; clear hv
    by_cases hlt : k < ys.length
    · obtain ⟨bd, rfl, hb2, h2⟩ := ((hy.below hbel1).upd hu (Nat.le_refl _)).at_ hlt
      have hq := dy.get hlt
      have hty := val_take_succ W64 hlt
      generalize ys[k] = q at *
      have hal : (ms.take k).length = k := by rw [List.length_take]; have := HM.out; omega
      have hbl : (ms.drop k).length = xs.length := by rw [List.length_drop]; have := HM.out; omega
      have hsp := val_take_drop W64 ms k (by have := HM.out; omega)
      have hrow2 : Row .u64 wr w.heap.size 160 (ms.take k ++ (ms.drop k ++ List.replicate (ys.length - k) 0)) := by rw [← List.append_assoc, List.take_append_drop]; exact hrow
      have hAT := addTimes_any w.heap.size k (ms.take k) (ms.drop k) (List.replicate (ys.length - k) 0) xs A (xs.length + ys.length - k) c q wr hal hrow2 ((hx.below hbel1).upd hu (Nat.le_refl _)) hbl.symm (by rw [hbl]; omega) (hmd.drop k) dx hq (by rw [hbl]; omega)
      rw [hbl] at hAT
      have HAT := Lib.hid hAT
      have HAL := Lib.hid hal
      have HTY := Lib.hid hty
      have HSP := Lib.hid hsp
      clear hAT hal hbl hty hsp hrow2 hrow
      have hji : (k : Int) < (ys.length : Int) := by omega
      have hi1 : (k : Int) + (xs.length : Int) ≤ (xs.length : Int) + (ys.length : Int) := by omega
      have hne : ¬ (xs.length + ys.length = k) := by omega
      go_wp2_with fail
      refine (HAT.out).mono ?_
      rintro e w3 ⟨b', o, rfl, hbl', hbd, ho, hbv, hrow3, hu3⟩
      rw [replicate_split hlt] at hrow3
      have hpl : (ms.take k ++ b').length = k + xs.length := by rw [List.length_append, HAL.out, hbl']
      have hrow4 : Row .u64 w3 w.heap.size 160 ((ms.take k ++ b') ++ (0 :: List.replicate (ys.length - (k + 1)) 0)) := by rw [List.append_assoc]; exact hrow3
      have gf := hrow4.frozen (k + xs.length)
      have gc := hrow4.cell (i := k + xs.length) (by rw [List.length_append, hpl]; simp)
      have hgz : ((ms.take k ++ b') ++ (0 :: List.replicate (ys.length - (k + 1)) 0))[k + xs.length]'(by rw [List.length_append, hpl]; simp) = 0 := by
        rw [List.getElem_append_right (by rw [hpl]; exact Nat.le_refl _)]
        simp only [hpl, Nat.sub_self, List.getElem_cons_zero]
      rw [hgz] at gc
      have hset : ((ms.take k ++ b') ++ (0 :: List.replicate (ys.length - (k + 1)) 0)).set (k + xs.length) o = (ms.take k ++ b' ++ [o]) ++ List.replicate (ys.length - (k + 1)) 0 := by
        rw [List.set_append_right _ _ (by rw [hpl]; exact Nat.le_refl _), hpl, Nat.sub_self, List.set_cons_zero, List.append_assoc _ [o]]; rfl
      have hrs := hrow4.set_ (k + xs.length) o
      rw [hset] at hrs
      have hval : val W64 (ms.take k ++ b' ++ [o]) = val W64 xs * val W64 (ys.take (k + 1)) := by
        rw [val_snoc, hpl, val_append, HAL.out, HTY.out, Nat.mul_add, ← HV.out, HSP.out, Nat.pow_add, Nat.mul_assoc, Nat.add_assoc, ← Nat.mul_add, hbv, Nat.mul_add, ← Nat.add_assoc]
        congr 1
        grind
      have hdg : Dig W64 (ms.take k ++ b' ++ [o]) := dig_snoc ((hmd.take k).append hbd) ho
      have hln : (ms.take k ++ b' ++ [o]).length = xs.length + (k + 1) := by rw [List.length_append, hpl]; simp; omega
      have HVL := Lib.hid hval
      have HLN := Lib.hid hln
      have HRS := Lib.hid hrs
      clear hgz hset hrs hval hln hpl hrow3 hrow4 hbv hbl'
      have hi2 : (k : Int) + (xs.length : Int) < (xs.length : Int) + (ys.length : Int) := by omega
      go_wp2
      go_roundw
      case rel => exact ⟨k + 1, _, by omega, by go_num, HLN.out, hdg, HVL.out, HRS.out, (hu.trans hu3).setCell _ _⟩
      case measure => simp [intOf]; omega
    · obtain rfl : k = ys.length := by omega
      rw [Nat.sub_self, List.replicate_zero, List.append_nil] at hrow
      have hsz : w.heap.size < wr.heap.size := hrow.lt
      have h1 := HV.out
      rw [List.take_length] at h1
      have HV1 := Lib.hid h1
      have hsl := hrow.sl hsz
      have hT := trim_any (some ⟨w.heap.size, 0, none⟩) ms (xs.length + ys.length) wr hsl (by have := HM.out; omega) (by unfold maxLen; omega)
      rw [HM.out] at hT
      have HT := Lib.hid hT
      have hb4 : Below w.heap.size w wr := hbel1.trans (hu.below (Nat.le_refl _))
      clear hT h1
      go_wp2_with fail
      refine (HT.out).mono ?_
      rintro e w5 ⟨rfl, rfl⟩
      go_wp2_with fail
      go_ret
      have hln := trimL_len ms
      rw [HM.out] at hln
      exact ⟨_, _, _, rfl, sl_trimL hsl, dig_trimL hmd, norm_trimL _, by rw [val_trimL, HV1.out], hln, Nat.le_refl _, hb4⟩
theorem product_any (A B : Option Addr) (xs ys : List Nat) (c d : Nat) (w : World) (hx : Sl .u64 w w.heap.size A xs) (hy : Sl .u64 w w.heap.size B ys) (dx : Dig W64 xs) (dy : Dig W64 ys)
    (hl : (xs.length + ys.length) * 8 ≤ 140737488351232) :
    Calls Tryz.prog 119 #[.slice A xs.length c, .slice B ys.length d] w (Words w (val W64 xs * val W64 ys) (xs.length + ys.length)) := by
  by_cases h : 0 < xs.length ∧ 0 < ys.length
  · exact product_pos A B xs ys c d w hx hy dx dy hl h.1 h.2
  · have h0 : val W64 xs * val W64 ys = 0 := by
      rcases Nat.eq_zero_or_pos xs.length with h1 | h1
      · rw [List.eq_nil_of_length_eq_zero h1]; simp [val]
      · rw [List.eq_nil_of_length_eq_zero (show ys.length = 0 by omega)]; simp [val]
    rw [h0]
    exact (product_nil A B xs.length ys.length c d w (by omega)).mono fun _ _ h => h.mono (Nat.zero_le _)
end Go.Proofs.YtjamfkafgfpobaaGreat
