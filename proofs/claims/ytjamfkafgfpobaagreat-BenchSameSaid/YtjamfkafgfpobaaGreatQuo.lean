/-
  What large.quotient returns where the divisor is above the number, or one word. Condition: the divisor is not nought.
-/
import Derived.Test.YtjamfkafgfpobaaGreatDivq2
namespace Go.Proofs.YtjamfkafgfpobaaGreat
open Go.RowKit Nb
theorem Upd.qu {g : Nat} {a w w' : World} (h : Upd g a w) (q : Qu w w') : Upd g a w' := by
  obtain ⟨n, rfl⟩ := q
  exact h.drewN n
set_option maxHeartbeats 800000 in
theorem byWord_any (g : Nat) (zs xs : List Nat) (A : Option Addr) (c d y : Nat) (w : World) (hz : Row .u64 w g 160 zs) (hx : A = some ⟨g, 0, none⟩ ∧ zs = xs ∨ Sl .u64 w g A xs) (hl : zs.length = xs.length)
    (dx : Dig W64 xs) (hy : 0 < y) (hy2 : y < W64) (hb : xs.length * 8 ≤ 140737488351232) :
    Calls Tryz.prog 139 #[.slice (some ⟨g, 0, none⟩) xs.length c, .slice A xs.length d, .int .u64 y] w fun e w' => ∃ qs : List Nat, e = .returned (.int .u64 (val W64 xs % y : Nat)) ∧ qs.length = xs.length ∧ Dig W64 qs ∧
      val W64 qs = val W64 xs / y ∧ Row .u64 w' g 160 qs ∧ Upd g w w' := by
  have HL := Lib.hid hl
  clear hl
  go_enter Tryz.func139, Tryz.ntmps139
  go_wp2
  go_loopw [6, 7] (fun rv iv wr => ∃ (k r : Nat) (q : Int) (qs : List Nat), k ≤ xs.length ∧ iv = .int .i64 q ∧ q + 1 = k ∧ rv = .int .u64 r ∧ r < y ∧ qs.length = xs.length - k ∧ Dig W64 qs ∧ val W64 qs * y + r = val W64 (xs.drop k) ∧
      Row .u64 wr g 160 (zs.take k ++ qs) ∧ Upd g w wr) (fun _ iv _ => (intOf iv + 1).toNat)
  case atStart => exact ⟨xs.length, 0, xs.length - 1, [], Nat.le_refl _, rfl, by omega, rfl, hy, by simp, Dig.nil _, by simp [val], by rw [← HL.out, List.take_length, List.append_nil]; exact hz, Upd.refl _ _⟩
  case round =>
    obtain ⟨k, r, q, qs, hk, rfl, hq, rfl, hr, hql, hqd, he, hrow, hu⟩ := hrel
    have HQ := Lib.hid hql; clear hql
    have HE := Lib.hid he; clear he
    rcases k with _ | j
    · obtain rfl : q = -1 := by omega
      clear hq
      go_wp2
      go_ret
      have h1 := HE.out
      rw [List.drop_zero, Nat.mul_comm] at h1
      rw [List.take_zero, List.nil_append] at hrow
      have h2 : val W64 xs / y = val W64 qs := by rw [← h1, Nat.mul_add_div hy, Nat.div_eq_of_lt hr]; rfl
      have h3 : val W64 xs % y = r := by rw [← h1, Nat.mul_add_mod, Nat.mod_eq_of_lt hr]
      exact ⟨qs, by rw [h3]; rfl, by have := HQ.out; omega, hqd, h2.symm, hrow, hu⟩
    · obtain rfl : q = j := by omega
      clear hq
      have hjz : j < zs.length := by have := HL.out; omega
      have hjx : j < xs.length := by omega
      have hlen : j < (zs.take (j + 1) ++ qs).length := by simp; omega
      have gf := hrow.frozen j
      have gc := hrow.cell hlen
      rw [down_get zs qs hjz hlen] at gc
      obtain ⟨ad, hA, h1⟩ : ∃ ad, A = some ad ∧ wr.cell? (ad.add j) = some (.int .u64 (xs[j] : Nat)) := by
        rcases hx with ⟨rfl, rfl⟩ | hs
        · exact ⟨_, rfl, by rw [add_zero_none]; exact gc⟩
        · obtain ⟨ad, e, _, h⟩ := (hs.upd hu (Nat.le_refl _)).at_ hjx
          exact ⟨ad, e, h⟩
      subst hA
      have hxx := dx.get hjx
      have hstep := fun q' r' => step_quo (q := q') (r' := r') (x := xs[j]) HE.out
      rw [← val_drop_pred W64 hjx] at hstep
      have hset := fun v => down_put zs qs v hjz
      have hrs := fun v => hrow.set_ j v
      generalize zs[j] = z at *
      generalize xs[j] = x at *
      have hdiv := fun w => div64_any r x y w hxx hr hy2
      have hqr : (r * W64 + x) / y * y + (r * W64 + x) % y = r * W64 + x := by rw [Nat.mul_comm]; exact Nat.div_add_mod _ _
      have hq1 : (r * W64 + x) / y < W64 := quo_lt hr hxx
      have hq2 : (r * W64 + x) % y < y := Nat.mod_lt _ hy
      obtain ⟨Q, hQ⟩ : ∃ Q, (r * W64 + x) / y = Q := ⟨_, rfl⟩
      obtain ⟨R, hR⟩ : ∃ R, (r * W64 + x) % y = R := ⟨_, rfl⟩
      rw [hQ] at hqr hq1
      rw [hR] at hqr hq2
      simp only [hQ, hR] at hdiv
      have hst' := hstep Q R hqr
      have hrs' := hrs Q
      rw [hset Q] at hrs'
      have HS := Lib.hid hst'
      have HR := Lib.hid hrs'
      have HD := Lib.hid hdiv
      clear hstep hset hrs hst' hrs' hdiv hqr hQ hR hlen hrow hx hxx
      have hji : (j : Int) < (xs.length : Int) := by omega
      go_wp2_with fail
      refine (HD.out _).mono ?_
      rintro e w2 ⟨rfl, nq, rfl⟩
      go_wp2_with fail
      go_roundw
      case rel => exact ⟨j, R, _, Q :: qs, by omega, rfl, by omega, rfl, hq2, by have := HQ.out; simp; omega, dig_cons hq1 hqd, HS.out, by first | exact HR.out | exact (HR.out).drew nq, by first | exact (hu.drewN nq).setCell _ _ | exact (hu.setCell _ _).drewN nq⟩
      case measure => simp [intOf]
end Go.Proofs.YtjamfkafgfpobaaGreat
namespace Go.Proofs.YtjamfkafgfpobaaGreat
open Go.RowKit Nb
/-- Two lists of words that tell two numbers. -/
def Words2 (w : World) (V U C : Nat) (e : Ending) (w' : World) : Prop := ∃ (A : Option Addr) (zs : List Nat) (c : Nat) (B : Option Addr) (rs : List Nat) (d : Nat), e = .returned (.tuple #[.slice A zs.length c, .slice B rs.length d]) ∧
  Sl .u64 w' w'.heap.size A zs ∧ Dig W64 zs ∧ Norm zs ∧ val W64 zs = V ∧ zs.length ≤ c ∧ c ≤ C ∧
  Sl .u64 w' w'.heap.size B rs ∧ Dig W64 rs ∧ Norm rs ∧ val W64 rs = U ∧ rs.length ≤ d ∧ d ≤ C ∧ Below w.heap.size w w'
theorem cmpI_ge {x y : Int} (h : y ≤ x) : ¬ cmpI x y < 0 := by
  unfold cmpI; rw [if_neg (by omega)]; split <;> omega
set_option maxHeartbeats 800000 in
theorem quotient_less (A B : Option Addr) (xs ys : List Nat) (c d C : Nat) (w : World) (hx : Sl .u64 w w.heap.size A xs) (hy : Sl .u64 w w.heap.size B ys) (dx : Dig W64 xs) (dy : Dig W64 ys) (nx : Norm xs) (ny : Norm ys)
    (hl : xs.length * 8 ≤ 140737488351232) (hk : ys.length * 8 ≤ 140737488351232) (hc : xs.length ≤ c) (hC : c ≤ C) (hlt : val W64 xs < val W64 ys) :
    Calls Tryz.prog 140 #[.slice A xs.length c, .slice B ys.length d] w (Words2 w (val W64 xs / val W64 ys) (val W64 xs % val W64 ys) C) := by
  have hcmp := compare_any A B xs ys c d w hx hy dx dy nx ny hl hk
  rw [cmpI_lt (by omega)] at hcmp
  have HC := Lib.hid hcmp
  clear hcmp
  go_enter Tryz.func140, Tryz.ntmps140
  go_wp2_with fail
  refine (HC.out).mono ?_
  rintro e w1 ⟨rfl, hq⟩
  go_wp2_with fail
  go_ret2
  have hb := hq.below w.heap.size
  refine ⟨none, [], 0, A, xs, c, rfl, Sl.none_, Dig.nil _, Norm.nil, ?_, Nat.le_refl _, Nat.zero_le _, (hx.below hb).more hb.size, dx, nx, ?_, hc, hC, hb⟩
  · rw [Nat.div_eq_of_lt hlt]; rfl
  · rw [Nat.mod_eq_of_lt hlt]
set_option maxHeartbeats 800000 in
theorem quotient_word (A B : Option Addr) (xs : List Nat) (y c d C : Nat) (w : World) (hx : Sl .u64 w w.heap.size A xs) (hy : Sl .u64 w w.heap.size B [y]) (dx : Dig W64 xs) (dy : y < W64) (nx : Norm xs) (hy0 : 0 < y)
    (hl : xs.length * 8 ≤ 140737488351232) (hC : xs.length ≤ C) (hge : y ≤ val W64 xs) :
    Calls Tryz.prog 140 #[.slice A xs.length c, .slice B 1 d] w (Words2 w (val W64 xs / y) (val W64 xs % y) C) := by
  have hcmp := compare_any A B xs [y] c d w hx hy dx (Dig.one dy) nx (by intro _; simp; omega) hl (by simp)
  have hv : val W64 [y] = y := by simp [val]
  rw [hv] at hcmp
  have hz := cmpI_ge (x := (val W64 xs : Nat)) (y := (y : Nat)) (by omega)
  generalize cmpI (val W64 xs : Nat) (y : Nat) = z at *
  have hpos : 0 < xs.length := by
    rcases Nat.eq_zero_or_pos xs.length with h | h
    · rw [List.eq_nil_of_length_eq_zero h] at hge; simp [val] at hge; omega
    · exact h
  have hC1 : 1 ≤ C := by omega
  have HC := Lib.hid hcmp
  clear hcmp hv hge
  have hcy := hy.at_ (i := 0) (by simp)
  obtain ⟨bd, rfl, hbb, h1⟩ := hcy
  rw [show bd.add 0 = bd from by simp [Addr.add]] at h1
  simp only [List.getElem_cons_zero] at h1
  go_enter Tryz.func140, Tryz.ntmps140
  go_wp2_with fail
  refine (HC.out).mono ?_
  rintro e w1 ⟨rfl, hq⟩
  have hb1 := hq.below w.heap.size
  go_wp2_with (at_make; refine wpList_make_row _ rfl _ _ 70 rfl 160 .u64 8 Tryz.underlying70 info_u64 _ _ _ _ xs.length rfl rfl (by omega) (by omega) (by omega) (by unfold maxLen; omega) ?_
               intro w2 hrow2 hbel2
               have hb2 := hb1.trans (hbel2.mono hb1.size)
               have h12 := (hb2.cell (p := bd) (by rw [← block_of_add bd 0]; exact hbb)).trans h1)
  have hg := hrow2.lt
  have hs1 := hb1.size
  have hbw := byWord_any w1.heap.size (List.replicate xs.length 0) xs A xs.length c y w2 hrow2 (.inr ((hx.below hb2).more hs1)) (by simp) dx hy0 dy hl
  have HBW := Lib.hid hbw
  clear hbw
  refine (HBW.out).mono ?_
  rintro e w3 ⟨qs, rfl, hql, hqd, hqv, hrow3, hu3⟩
  have HQL := Lib.hid hql
  have HQV := Lib.hid hqv
  clear hql hqv
  have hR : val W64 xs % y < W64 := Nat.lt_trans (Nat.mod_lt _ hy0) dy
  have hT : ∀ W, Sl .u64 W W.heap.size (some ⟨w1.heap.size, 0, none⟩) qs → Calls Tryz.prog 129 #[.slice (some ⟨w1.heap.size, 0, none⟩) xs.length xs.length] W fun e w' => e = .returned (.slice (some ⟨w1.heap.size, 0, none⟩) (trimL qs).length xs.length) ∧ W = w' := fun W h => by
    have := trim_any (some ⟨w1.heap.size, 0, none⟩) qs xs.length W h (by have := HQL.out; omega) (by unfold maxLen; omega)
    rw [HQL.out] at this
    exact this
  have hqT := trimL_len qs
  rw [HQL.out] at hqT
  generalize hRd : val W64 xs % y = R at *
  have HRD := Lib.hid hRd
  clear hRd
  have hb3 := hb2.trans (hu3.below (B := w.heap.size) hs1)
  go_wp2_with fail
  have hrow4 : Row .u64 (w3.alloc (.cells #[.int .u64 (R : Nat)] 160)) w3.heap.size 160 [R] := heap_alloc_new _ _
  have hrow4q : Row .u64 (w3.alloc (.cells #[.int .u64 (R : Nat)] 160)) w1.heap.size 160 qs := hrow3.alloc _
  have hb4 := hb3.alloc (o := .cells #[.int .u64 (R : Nat)] 160) (by have := hb3.size; omega)
  generalize hW : w3.alloc (.cells #[.int .u64 (R : Nat)] 160) = W at *
  clear hW
  refine (hT _ (hrow4q.sl hrow4q.lt)).mono ?_
  rintro e w5 ⟨rfl, rfl⟩
  go_wp2_with fail
  have hT2 : Calls Tryz.prog 129 #[.slice (some ⟨w3.heap.size, 0, none⟩) 1 1] W fun e w' => e = .returned (.slice (some ⟨w3.heap.size, 0, none⟩) (trimL [R]).length 1) ∧ W = w' :=
    trim_any (some ⟨w3.heap.size, 0, none⟩) [R] 1 W (hrow4.sl hrow4.lt) (Nat.le_refl _) (by unfold maxLen; omega)
  refine hT2.mono ?_
  rintro e w5 ⟨rfl, rfl⟩
  go_wp2_with fail
  go_ret2
  have hRl := trimL_len [R]
  exact ⟨_, _, _, _, _, _, rfl, sl_trimL (hrow4q.sl hrow4q.lt), dig_trimL hqd, norm_trimL _, by rw [val_trimL, HQV.out], hqT, hC, sl_trimL (hrow4.sl hrow4.lt), dig_trimL (Dig.one hR), norm_trimL _, by rw [val_trimL]; simp [val], hRl, hC1, hb4⟩
end Go.Proofs.YtjamfkafgfpobaaGreat
