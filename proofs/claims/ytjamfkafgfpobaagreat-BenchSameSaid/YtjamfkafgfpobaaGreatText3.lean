/-
  What large.Int.Text returns for a number that is not nought: its decimal numeral, with a sign ahead of what is below nought. Condition: the table of powers of ten reads as the program's text lays it.
-/
import Derived.Test.YtjamfkafgfpobaaGreatInt3
import Derived.Lib.AppendIntMem
import Derived.Lib.ItoaMem
import Derived.BigRegion
import Derived.Test.YtjamfkafgfpobaaGreatNums
import Derived.WalkSmall
import Derived.Lib.Repeat
import Derived.Deep.LoopGhost
namespace Go.Proofs.YtjamfkafgfpobaaGreat
open Go.RowKit Nb
/-- Block g begins with these numbers. -/
def RowV (k : IntKind) (w : World) (g : Nat) (e : TypeId) (xs : List Nat) (rest : List Value) : Prop := w.heap[g]? = some (.cells (xs.map (fun n : Nat => Value.int k n) ++ rest).toArray e (0, 0))
section
variable {k : IntKind} {w w' : World} {g : Nat} {e : TypeId} {xs ys : List Nat} {rest : List Value}
theorem RowV.lt (h : RowV k w g e xs rest) : g < w.heap.size := by
  rcases Nat.lt_or_ge g w.heap.size with hlt | hge
  · exact hlt
  · unfold RowV at h; rw [Array.getElem?_eq_none hge] at h; cases h
theorem RowV.cell (h : RowV k w g e xs rest) {i : Nat} (hi : i < xs.length) : w.cell? ⟨g, i, none⟩ = some (.int k (xs[i] : Nat)) := by
  unfold RowV at h
  rw [cell_of_row w g i _ _ _ h]
  simp [List.getElem?_append, hi]
theorem RowV.frozen (h : RowV k w g e xs rest) (i : Nat) : w.frozen? ⟨g, i, none⟩ = false := by
  unfold RowV at h
  simp [World.frozen?, h]
theorem RowV.set_ (h : RowV k w g e xs rest) {i n : Nat} (hi : i < xs.length) : RowV k (w.setCell ⟨g, i, none⟩ (.int k n)) g e (xs.set i n) rest := by
  unfold RowV at h ⊢
  simp only [World.setCell, Array.getElem?_modify, h, if_true, Option.map_some]
  congr 2
  simp [List.map_set, hi]
theorem RowV.drew (h : RowV k w g e xs rest) (n : Nat) : RowV k (w.drewN n) g e xs rest := h
theorem RowV.drew1 (h : RowV k w g e xs rest) : RowV k w.drew g e xs rest := h
theorem RowV.alloc (h : RowV k w g e xs rest) (o : Obj) : RowV k (w.alloc o) g e xs rest := (Below.heap_alloc w o g h.lt).trans h
theorem RowV.upd {g' : Nat} (h : RowV k w g e xs rest) (hu : Upd g' w w') (hne : g ≠ g') : RowV k w' g e xs rest := (hu.block g hne).trans h
theorem RowV.below {B : Nat} (h : RowV k w g e xs rest) (hb : Below B w w') (hg : g < B) : RowV k w' g e xs rest := (hb.block g hg).trans h
theorem RowV.grown {row : Option Nat} (h : RowV k w g e xs rest) (hg : w.grownBy w' row) (hne : some g ≠ row) : RowV k w' g e xs rest := (hg.block g h.lt hne).trans h
theorem RowV.shrink (h : RowV k w g e (xs ++ ys) rest) : RowV k w g e xs (ys.map (fun n : Nat => Value.int k n) ++ rest) := by
  unfold RowV at h ⊢
  rw [h]
  simp [List.append_assoc]
theorem RowV.sl {B : Nat} (h : RowV k w g e xs rest) (hB : g < B) : Sl k w B (some ⟨g, 0, none⟩) xs := fun _ =>
  ⟨_, rfl, hB, fun j hj => by rw [add_zero_none]; exact h.cell hj⟩
theorem RowV.of_own {base c : Nat} (h : w.ownsRow base e 1 (.slice (some ⟨g, 0, none⟩) xs.length c) xs.length (xs.map fun n : Nat => Value.int k n)) : ∃ rest, RowV k w g e xs rest ∧ base ≤ g := by
  obtain ⟨hl, ⟨h0, _⟩ | ⟨g', cap, cur, hv, hbg, hg, _, _, hcs, ht⟩⟩ := h
  · cases h0
  · injection hv with hA _ hc
    injection hA with hA
    injection hA with hA
    subst hA; subst hc
    refine ⟨cur.toList.drop (xs.length * 1), ?_, hbg⟩
    unfold RowV
    rw [hg, ← ht, List.take_append_drop]
end
set_option maxHeartbeats 800000 in
theorem byWordV_any (g : Nat) (zs xs : List Nat) (rest : List Value) (A : Option Addr) (c d y : Nat) (w : World) (hz : RowV .u64 w g 160 zs rest) (hx : A = some ⟨g, 0, none⟩ ∧ zs = xs ∨ Sl .u64 w g A xs) (hl : zs.length = xs.length)
    (dx : Dig W64 xs) (hy : 0 < y) (hy2 : y < W64) (hb : xs.length * 8 ≤ 140737488351232) :
    Calls Tryz.prog 139 #[.slice (some ⟨g, 0, none⟩) xs.length c, .slice A xs.length d, .int .u64 y] w fun e w' => ∃ qs : List Nat, e = .returned (.int .u64 (val W64 xs % y : Nat)) ∧ qs.length = xs.length ∧ Dig W64 qs ∧
      val W64 qs = val W64 xs / y ∧ RowV .u64 w' g 160 qs rest ∧ Upd g w w' := by
  have HL := Lib.hid hl
  clear hl
  go_enter Tryz.func139, Tryz.ntmps139
  go_wp2
  go_loopw [6, 7] (fun rv iv wr => ∃ (k r : Nat) (q : Int) (qs : List Nat), k ≤ xs.length ∧ iv = .int .i64 q ∧ q + 1 = k ∧ rv = .int .u64 r ∧ r < y ∧ qs.length = xs.length - k ∧ Dig W64 qs ∧ val W64 qs * y + r = val W64 (xs.drop k) ∧
      RowV .u64 wr g 160 (zs.take k ++ qs) rest ∧ Upd g w wr) (fun _ iv _ => (intOf iv + 1).toNat)
  case atStart => exact ⟨xs.length, 0, xs.length - 1, [], Nat.le_refl _, rfl, by omega, rfl, hy, by simp, Dig.nil _, by simp [val], by rw [← HL.out, List.take_length, List.append_nil]; exact hz, Upd.refl _ _⟩
  case round =>
    obtain ⟨k, r, q, qs, hk, rfl, hq, rfl, hr, hql, hqd, he, hrow, hu⟩ := hrel
    have HQ := Lib.hid hql; clear hql
    have HE := Lib.hid he; clear he
    rcases k with _ | j
    · obtain rfl : q = -1 := by omega
      clear hq
      go_wp2
      go_ret
      have h1 := HE.out
      rw [List.drop_zero, Nat.mul_comm] at h1
      rw [List.take_zero, List.nil_append] at hrow
      have h2 : val W64 xs / y = val W64 qs := by rw [← h1, Nat.mul_add_div hy, Nat.div_eq_of_lt hr]; rfl
      have h3 : val W64 xs % y = r := by rw [← h1, Nat.mul_add_mod, Nat.mod_eq_of_lt hr]
      exact ⟨qs, by rw [h3]; rfl, by have := HQ.out; omega, hqd, h2.symm, hrow, hu⟩
    · obtain rfl : q = j := by omega
      clear hq
      have hjz : j < zs.length := by have := HL.out; omega
      have hjx : j < xs.length := by omega
      have hlen : j < (zs.take (j + 1) ++ qs).length := by simp; omega
      have gf := hrow.frozen j
      have gc := hrow.cell hlen
      rw [down_get zs qs hjz hlen] at gc
      obtain ⟨ad, hA, h1⟩ : ∃ ad, A = some ad ∧ wr.cell? (ad.add j) = some (.int .u64 (xs[j] : Nat)) := by
        rcases hx with ⟨rfl, rfl⟩ | hs
        · exact ⟨_, rfl, by rw [add_zero_none]; exact gc⟩
        · obtain ⟨ad, e, _, h⟩ := (hs.upd hu (Nat.le_refl _)).at_ hjx
          exact ⟨ad, e, h⟩
      subst hA
      have hxx := dx.get hjx
      have hstep := fun q' r' => step_quo (q := q') (r' := r') (x := xs[j]) HE.out
      rw [← val_drop_pred W64 hjx] at hstep
      have hset := fun v => down_put zs qs v hjz
      have hrs := fun v => hrow.set_ (n := v) hlen
      generalize zs[j] = z at *
      generalize xs[j] = x at *
      have hdiv := fun w => div64_any r x y w hxx hr hy2
      have hqr : (r * W64 + x) / y * y + (r * W64 + x) % y = r * W64 + x := by rw [Nat.mul_comm]; exact Nat.div_add_mod _ _
      have hq1 : (r * W64 + x) / y < W64 := quo_lt hr hxx
      have hq2 : (r * W64 + x) % y < y := Nat.mod_lt _ hy
      obtain ⟨Q, hQ⟩ : ∃ Q, (r * W64 + x) / y = Q := ⟨_, rfl⟩
      obtain ⟨R, hR⟩ : ∃ R, (r * W64 + x) % y = R := ⟨_, rfl⟩
      rw [hQ] at hqr hq1
      rw [hR] at hqr hq2
      simp only [hQ, hR] at hdiv
      have hst' := hstep Q R hqr
      have hrs' := hrs Q
      rw [hset Q] at hrs'
      have HS := Lib.hid hst'
      have HR := Lib.hid hrs'
      have HD := Lib.hid hdiv
      clear hstep hset hrs hst' hrs' hdiv hqr hQ hR hlen hrow hx hxx
      have hji : (j : Int) < (xs.length : Int) := by omega
      go_wp2_with fail
      refine (HD.out _).mono ?_
      rintro e w2 ⟨rfl, nq, rfl⟩
      go_wp2_with fail
      go_roundw
      case rel => exact ⟨j, R, _, Q :: qs, by omega, rfl, by omega, rfl, hq2, by have := HQ.out; simp; omega, dig_cons hq1 hqd, HS.out, by first | exact HR.out | exact (HR.out).drew nq, by first | exact (hu.drewN nq).setCell _ _ | exact (hu.setCell _ _).drewN nq⟩
      case measure => simp [intOf]
/-- Turned round, the first k and the last k places. -/
structure Turned (xs ms : List Nat) (k : Nat) : Prop where
  len : ms.length = xs.length
  low : ∀ i (h : i < xs.length) (h' : i < ms.length), i < k → ms[i] = xs[xs.length - 1 - i]
  high : ∀ i (h : i < xs.length) (h' : i < ms.length), xs.length - k ≤ i → ms[i] = xs[xs.length - 1 - i]
  mid : ∀ i (h : i < xs.length) (h' : i < ms.length), k ≤ i → i < xs.length - k → ms[i] = xs[i]
theorem Turned.start (xs : List Nat) : Turned xs xs 0 := ⟨rfl, fun _ _ _ h => by omega, fun _ _ _ h => by omega, fun _ _ _ _ _ => rfl⟩
theorem Turned.step {xs ms : List Nat} {k : Nat} (t : Turned xs ms k) (h : 2 * k + 1 < xs.length) (h1 : k < ms.length) (h2 : xs.length - 1 - k < ms.length) : Turned xs ((ms.set k ms[xs.length - 1 - k]).set (xs.length - 1 - k) ms[k]) (k + 1) := by
  have hl := t.len
  refine ⟨by simp [hl], fun i hi h' hk => ?_, fun i hi h' hk => ?_, fun i hi h' hk hk2 => ?_⟩
  · rw [List.getElem_set_ne (by omega)]
    by_cases e : k = i
    · subst e; rw [List.getElem_set_self]; exact t.mid _ (by omega) h2 (by omega) (by omega)
    · rw [List.getElem_set_ne e]; exact t.low i hi (by omega) (by omega)
  · by_cases e : xs.length - 1 - k = i
    · subst e; rw [List.getElem_set_self, t.mid k (by omega) h1 (by omega) (by omega)]; congr 1; omega
    · rw [List.getElem_set_ne e, List.getElem_set_ne (by omega)]; exact t.high i hi (by omega) (by omega)
  · rw [List.getElem_set_ne (by omega), List.getElem_set_ne (by omega)]; exact t.mid i hi (by omega) (by omega) (by omega)
theorem Turned.done {xs ms : List Nat} {k : Nat} (t : Turned xs ms k) (h : xs.length ≤ 2 * k + 1) : ms = xs.reverse := by
  apply List.ext_getElem
  · simp [t.len]
  · intro i h1 h2
    have hl := t.len
    rw [List.getElem_reverse]
    by_cases a : i < k
    · exact t.low i (by omega) h1 a
    · by_cases b : xs.length - k ≤ i
      · exact t.high i (by omega) h1 b
      · rw [t.mid i (by omega) h1 (by omega) (by omega)]; congr 1; omega
end Go.Proofs.YtjamfkafgfpobaaGreat
namespace Go.Proofs.YtjamfkafgfpobaaGreat
open Go.RowKit Nb
theorem info_u64p : ∃ i0, Tryz.prog.info? 160 = some i0 ∧ i0.zero = some (.int .u64 0) ∧ i0.size = 1 ∧ i0.bytes = 8 := info_parts info_u64
theorem size_u64 : ∀ w, (Go.sizeOf 160).run Tryz.prog w = .ok 1 w := fun w => by kernel_rfl
end Go.Proofs.YtjamfkafgfpobaaGreat
