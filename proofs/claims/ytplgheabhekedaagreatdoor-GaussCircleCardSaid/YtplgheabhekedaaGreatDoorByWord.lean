/-
  What large.byWord returns: a list of words by one word, in place or not, and what is left. Condition: the word is not nought.
-/
import Derived.Test.YtplgheabhekedaaGreatDoorDivq2
namespace Go.Proofs.YtplgheabhekedaaGreatDoor
open Go.RowKit Nb

theorem Upd.qu {g : Nat} {a w w' : World} (h : Upd g a w) (q : Qu w w') : Upd g a w' := by
  obtain ⟨n, rfl⟩ := q
  exact h.drewN n

set_option maxHeartbeats 800000 in
theorem byWord_any (g : Nat) (zs xs : List Nat) (A : Option Addr) (c d y : Nat) (w : World) (hz : Row .u64 w g 182 zs) (hx : A = some ⟨g, 0, none⟩ ∧ zs = xs ∨ Sl .u64 w g A xs) (hl : zs.length = xs.length)
    (dx : Dig W64 xs) (hy : 0 < y) (hy2 : y < W64) (hb : xs.length * 8 ≤ 140737488351232) :
    Calls Tryz.prog 165 #[.slice (some ⟨g, 0, none⟩) xs.length c, .slice A xs.length d, .int .u64 y] w fun e w' => ∃ qs : List Nat, e = .returned (.int .u64 (val W64 xs % y : Nat)) ∧ qs.length = xs.length ∧ Dig W64 qs ∧
      val W64 qs = val W64 xs / y ∧ Row .u64 w' g 182 qs ∧ Upd g w w' := by
  have HL := Lib.hid hl
  clear hl
  go_enter Tryz.func165, Tryz.ntmps165
  go_wp2
  go_loopw [6, 7] (fun rv iv wr => ∃ (k r : Nat) (q : Int) (qs : List Nat), k ≤ xs.length ∧ iv = .int .i64 q ∧ q + 1 = k ∧ rv = .int .u64 r ∧ r < y ∧ qs.length = xs.length - k ∧ Dig W64 qs ∧ val W64 qs * y + r = val W64 (xs.drop k) ∧
      Row .u64 wr g 182 (zs.take k ++ qs) ∧ Upd g w wr) (fun _ iv _ => (intOf iv + 1).toNat)
  case atStart => exact ⟨xs.length, 0, xs.length - 1, [], Nat.le_refl _, rfl, by omega, rfl, hy, by simp, Dig.nil _, by simp [val], by rw [← HL.out, List.take_length, List.append_nil]; exact hz, Upd.refl _ _⟩
  case round =>
    obtain ⟨k, r, q, qs, hk, rfl, hq, rfl, hr, hql, hqd, he, hrow, hu⟩ := hrel
    have HQ := Lib.hid hql; clear hql
    have HE := Lib.hid he; clear he
    rcases k with _ | j
    · obtain rfl : q = -1 := by omega
      clear hq
      go_wp2
      go_ret
      have h1 := HE.out
      rw [List.drop_zero, Nat.mul_comm] at h1
      rw [List.take_zero, List.nil_append] at hrow
      have h2 : val W64 xs / y = val W64 qs := by rw [← h1, Nat.mul_add_div hy, Nat.div_eq_of_lt hr]; rfl
      have h3 : val W64 xs % y = r := by rw [← h1, Nat.mul_add_mod, Nat.mod_eq_of_lt hr]
      exact ⟨qs, by rw [h3]; rfl, by have := HQ.out; omega, hqd, h2.symm, hrow, hu⟩
    · obtain rfl : q = j := by omega
      clear hq
      have hjz : j < zs.length := by have := HL.out; omega
      have hjx : j < xs.length := by omega
      have hlen : j < (zs.take (j + 1) ++ qs).length := by simp; omega
      have gf := hrow.frozen j
      have gc := hrow.cell hlen
      rw [down_get zs qs hjz hlen] at gc
      obtain ⟨ad, hA, h1⟩ : ∃ ad, A = some ad ∧ wr.cell? (ad.add j) = some (.int .u64 (xs[j] : Nat)) := by
        rcases hx with ⟨rfl, rfl⟩ | hs
        · exact ⟨_, rfl, by rw [add_zero_none]; exact gc⟩
        · obtain ⟨ad, e, _, h⟩ := (hs.upd hu (Nat.le_refl _)).at_ hjx
          exact ⟨ad, e, h⟩
      subst hA
      have hxx := dx.get hjx
      have hstep := fun q' r' => step_quo (q := q') (r' := r') (x := xs[j]) HE.out
      rw [← val_drop_pred W64 hjx] at hstep
      have hset := fun v => down_put zs qs v hjz
      have hrs := fun v => hrow.set_ j v
      generalize zs[j] = z at *
      generalize xs[j] = x at *
      have hdiv := fun w => div64_any r x y w hxx hr hy2
      have hqr : (r * W64 + x) / y * y + (r * W64 + x) % y = r * W64 + x := by rw [Nat.mul_comm]; exact Nat.div_add_mod _ _
      have hq1 : (r * W64 + x) / y < W64 := quo_lt hr hxx
      have hq2 : (r * W64 + x) % y < y := Nat.mod_lt _ hy
      obtain ⟨Q, hQ⟩ : ∃ Q, (r * W64 + x) / y = Q := ⟨_, rfl⟩
      obtain ⟨R, hR⟩ : ∃ R, (r * W64 + x) % y = R := ⟨_, rfl⟩
      rw [hQ] at hqr hq1
      rw [hR] at hqr hq2
      simp only [hQ, hR] at hdiv
      have hst' := hstep Q R hqr
      have hrs' := hrs Q
      rw [hset Q] at hrs'
      have HS := Lib.hid hst'
      have HR := Lib.hid hrs'
      have HD := Lib.hid hdiv
      clear hstep hset hrs hst' hrs' hdiv hqr hQ hR hlen hrow hx hxx
      have hji : (j : Int) < (xs.length : Int) := by omega
      go_wp2_with fail
      refine (HD.out _).mono ?_
      rintro e w2 ⟨rfl, nq, rfl⟩
      go_wp2_with fail
      go_roundw
      case rel => exact ⟨j, R, _, Q :: qs, by omega, rfl, by omega, rfl, hq2, by have := HQ.out; simp; omega, dig_cons hq1 hqd, HS.out, by first | exact HR.out | exact (HR.out).drew nq, by first | exact (hu.drewN nq).setCell _ _ | exact (hu.setCell _ _).drewN nq⟩
      case measure => simp [intOf]
end Go.Proofs.YtplgheabhekedaaGreatDoor
