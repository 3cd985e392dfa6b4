/-
  What large.Int.Text returns for a number that is not nought: its decimal numeral, with a sign ahead of what is below nought. Condition: the table of powers of ten reads as the program's text lays it.
-/
import Derived.Test.YtjamfkafgfpobaaGreatDoorTextM
import Derived.Deep.LoopGhost
namespace Go.Proofs.YtjamfkafgfpobaaGreatDoor
open Go.RowKit Nb
/-- Ten to the power of as many digits as a word holds. -/
def T10 : Nat := 10000000000000000000
theorem T10_int : ((T10 : Nat) : Int) = 10000000000000000000 := rfl
theorem T10_lt : T10 < W64 := by decide
theorem T10_pos : 0 < T10 := by decide
theorem T10_pow : T10 = 10 ^ 19 := by decide
/-- One group more. -/
theorem text_step {gs : List Nat} {V X : Nat} (h : val T10 gs + T10 ^ gs.length * V = X) : val T10 (gs ++ [V % T10]) + T10 ^ (gs ++ [V % T10]).length * (V / T10) = X := by
  rw [val_snoc, List.length_append, List.length_cons, List.length_nil, Nat.pow_succ, Nat.mul_assoc, Nat.add_assoc, ← Nat.mul_add, Nat.mod_add_div]
  exact h
theorem text_last {gs : List Nat} {V : Nat} (hV : V ≠ 0) (h : V / T10 = 0) : Norm (gs ++ [V % T10]) := fun hne => by
  rw [List.getLast_append_of_ne_nil _ (by simp)]
  simp only [List.getLast_singleton]
  have := Nat.mod_add_div V T10
  rw [h] at this
  omega
theorem text_len {gs : List Nat} {V X L : Nat} (h : val T10 gs + T10 ^ gs.length * V = X) (hV : V ≠ 0) (hX : X < W64 ^ L) : gs.length < 2 * L := by
  have h1 : T10 ^ gs.length * 1 ≤ T10 ^ gs.length * V := Nat.mul_le_mul_left _ (by omega)
  have h2 : W64 ^ L ≤ T10 ^ (2 * L) := by
    rw [Nat.pow_mul]
    exact Nat.pow_le_pow_left (by decide) L
  have h3 : T10 ^ gs.length < T10 ^ (2 * L) := by omega
  exact (Nat.pow_lt_pow_iff_right (by decide)).1 h3
theorem info_u64p : ∃ i0, Tryz.prog.info? 149 = some i0 ∧ i0.zero = some (.int .u64 0) ∧ i0.size = 1 ∧ i0.bytes = 8 := info_parts info_u64
theorem size_u64 : ∀ w, (Go.sizeOf 149).run Tryz.prog w = .ok 1 w := fun w => by kernel_rfl
/-- A copy. -/
theorem clone_any (A : Option Addr) (xs : List Nat) (c : Nat) (w : World) (hx : Sl .u64 w w.heap.size A xs) (hl : xs.length * 8 ≤ 140737488351232) (hpos : 0 < xs.length) :
    Calls Tryz.prog 123 #[.slice A xs.length c] w fun e w' => ∃ g cap rest, e = .returned (.slice (some ⟨g, 0, none⟩) xs.length cap) ∧ RowV .u64 w' g 149 xs rest ∧ w.heap.size ≤ g ∧ cap ≤ maxLen ∧ xs.length ≤ cap ∧ Below w.heap.size w w' := by
  obtain ⟨i0, hi, hz0, hz1, hz2⟩ := info_u64p
  obtain ⟨ad, rfl, hb, hc⟩ := hx hpos
  obtain ⟨b, o, sp⟩ := ad
  have hsp : sp = none := by
    have := hc 0 hpos
    rw [show (⟨b, o, sp⟩ : Addr).add 0 = ⟨b, o, sp⟩ from by simp [Addr.add]] at this
    cases sp with
    | none => rfl
    | some s => simp [World.cell?] at this; split at this <;> simp at this
  subst hsp
  refine (Tryz.slices_Clone i0 (.int .u64 0) 1 8 hi hz0 hz1 hz2 rfl (by decide) size_u64 b o xs.length c (xs.map fun n : Nat => Value.int .u64 n) w (by simp) (by unfold maxLen; omega) (by omega) (fun j u hu => ?_) (fun u hu => ?_)).mono ?_
  · rw [List.getElem?_map] at hu
    rcases hj : xs[j]? with _ | x
    · rw [hj] at hu; cases hu
    · rw [hj] at hu
      obtain ⟨hlt, rfl⟩ := List.getElem?_eq_some_iff.1 hj
      have := hc j hlt
      rw [Lib.add_plain] at this
      rw [this]; exact hu
  · obtain ⟨n, _, rfl⟩ := List.mem_map.1 hu
    rfl
  · rintro e w' ⟨v', rfl, hown, _, hbel⟩
    obtain ⟨g, cap, rfl, hcap, hcap2⟩ : ∃ g cap, v' = .slice (some ⟨g, 0, none⟩) xs.length cap ∧ xs.length ≤ cap ∧ cap ≤ maxLen := by
      rcases hown.2 with ⟨_, h0⟩ | ⟨g, cap, cur, hv, _, _, h1, h2, _⟩
      · exact absurd h0 (by omega)
      · exact ⟨g, cap, hv, h1, h2⟩
    obtain ⟨rest, hrow, hg⟩ := RowV.of_own hown
    exact ⟨g, cap, rest, rfl, hrow, hg, hcap2, hcap, hbel⟩
theorem dec_len {H k : Nat} (h : H < T10 ^ k) (hk : 0 < k) : (Lib.decDigits H).length ≤ 19 * k := by
  rw [Lib.decDigits_length]
  refine nDigits_le (by omega) ?_
  rw [Nat.pow_mul, ← T10_pow]
  exact h
/-- One group more is told. -/
theorem dec_more {H d : Nat} (hH : 0 < H) (hd : d < T10) (l : List UInt8) : ((l ++ Lib.decDigits H) ++ Lib.repeatL (⟨#[48]⟩ : ByteArray).data.toList (19 - Lib.nDigits d)) ++ Lib.decDigits d = l ++ Lib.decDigits (d + T10 * H) := by
  have h1 : d + T10 * H = H * 10 ^ 19 + d := by rw [← T10_pow, Nat.mul_comm, Nat.add_comm]
  have h2 := dec_join (k := 19) hH (g := d) (by rw [← T10_pow]; exact hd)
  rw [h1, h2, padDec_eq (by decide) (by rw [← T10_pow]; exact hd)]
  have h3 := Lib.repeatL_replicate 48 1 (19 - Lib.nDigits d)
  rw [Nat.mul_one] at h3
  have h4 : (⟨#[48]⟩ : ByteArray).data.toList = List.replicate 1 48 := rfl
  rw [h4, h3]
  simp [List.append_assoc]
theorem gs_len {gs : List Nat} {X L : Nat} (hn : Norm gs) (hpos : 0 < gs.length) (h : val T10 gs = X) (hX : X < W64 ^ L) : gs.length ≤ 2 * L := by
  have h1 := norm_ge (B := T10) hn hpos
  have h2 : W64 ^ L ≤ T10 ^ (2 * L) := by
    rw [Nat.pow_mul]
    exact Nat.pow_le_pow_left (by decide) L
  have h3 : T10 ^ (gs.length - 1) < T10 ^ (2 * L) := by omega
  have := (Nat.pow_lt_pow_iff_right (by decide)).1 h3
  omega
theorem write_z (B b : Nat) (l m : List UInt8) (z : ByteArray) (w : World) (hz : z = ⟨m.toArray⟩) (h : Bld B b l w) (hlen : l.length + m.length ≤ 140737488355328) (hBw : B ≤ w.heap.size) :
    Calls Tryz.prog 127 #[.pointer (some ⟨b, 0, none⟩), .string z] w fun e w' => e = .returned (.tuple #[.int .i64 m.length, .nilIface]) ∧ Bld B b (l ++ m) w' ∧ Below B w w' ∧ Lib.OthersKept 5 (some b) w w' := by
  subst hz
  exact write_any B b l m w h hlen hBw
theorem own_words {w : World} {B : Nat} {e : TypeId} {v : Value} {gs : List Nat} (h : w.ownsRow B e 1 v gs.length (gs.map fun n : Nat => Value.int .u64 n)) (hpos : 0 < gs.length) :
    ∃ g cap rest, v = .slice (some ⟨g, 0, none⟩) gs.length cap ∧ RowV .u64 w g e gs rest ∧ B ≤ g ∧ gs.length ≤ cap ∧ cap ≤ maxLen := by
  obtain ⟨g, cap, rfl, hcap, hcap2⟩ : ∃ g cap, v = .slice (some ⟨g, 0, none⟩) gs.length cap ∧ gs.length ≤ cap ∧ cap ≤ maxLen := by
    rcases h.2 with ⟨_, h0⟩ | ⟨g, cap, cur, hv, _, _, h1, h2, _⟩
    · exact absurd h0 (by omega)
    · exact ⟨g, cap, hv, h1, h2⟩
  obtain ⟨rest, hrow, hg⟩ := RowV.of_own h
  exact ⟨g, cap, rest, rfl, hrow, hg, hcap, hcap2⟩
theorem own_far {w : World} {B g n : Nat} {e : TypeId} {v : Value} {vs : List Value} (h : w.ownsRow B e 1 v n vs) (hg : g < B) : some g ≠ v.ownBlock := by
  rcases h.2 with ⟨rfl, _⟩ | ⟨g', cap, cur, rfl, hb, _⟩
  · simp [Value.ownBlock]
  · intro e
    simp [Value.ownBlock] at e
    omega
set_option maxHeartbeats 4000000 in
set_option maxRecDepth 100000 in
theorem ltext_pos (neg : Bool) (A : Option Addr) (xs : List Nat) (c : Nat) (w : World) (hx : Sl .u64 w w.heap.size A xs) (dx : Dig W64 xs) (nx : Norm xs) (hl : xs.length * 64 ≤ 140737488351232) (hpos : 0 < xs.length) (htab : Tab w) :
    Calls Tryz.prog 112 #[big neg A xs.length c] w fun e w' => e = .returned (.string ⟨((if neg then [45] else []) ++ Lib.decDigits (val W64 xs)).toArray⟩) ∧ Below w.heap.size w w' := by
  obtain ⟨i0, hi, hz0, hz1, hz2⟩ := info_u64p
  have hX := val_lt dx
  have hX0 : val W64 xs ≠ 0 := fun h => by rw [(norm_zero (by decide) nx).1 h] at hpos; simp at hpos
  have HX := Lib.hid hX
  have HX0 := Lib.hid hX0
  clear hX hX0
  have hcl := fun W h => clone_any A xs c W h (by omega) hpos
  have HCL := Lib.hid hcl
  clear hcl
  go_enter Tryz.func112, Tryz.ntmps112
  go_wp2_with fail
  have hb0 : Below w.heap.size w (w.alloc (.cells #[.bool neg, .slice A xs.length c] 72)) := by go_grown
  have c0 : (w.alloc (.cells #[.bool neg, .slice A xs.length c] 72)).cell? ⟨w.heap.size, 0, none⟩ = some (.bool neg) := by go_cell
  have hsz0 : w.heap.size + 1 ≤ (w.alloc (.cells #[.bool neg, .slice A xs.length c] 72)).heap.size := by simp
  refine (HCL.out _ ((hx.below hb0).more hb0.size)).mono ?_
  rintro e w1 ⟨g, cap, rest, rfl, hrow1, hg, hcap, hxc, hbel1⟩
  have c1 := (hbel1.cell (p := ⟨w.heap.size, 0, none⟩) (by show w.heap.size < _; omega)).trans c0
  have hb1 : Below w.heap.size w w1 := hb0.trans (hbel1.mono (by omega))
  have hgw : w.heap.size < g := by omega
  have hglt := hrow1.lt
  generalize hB : w1.heap.size = B at *
  have HB := Lib.hid hB
  clear c0 hsz0 hb0 hB hbel1
  go_wp2_with fail
  go_loopg [3, 4] (val W64 xs) (fun m gv rv wr => ∃ (ks gs : List Nat) (rest : List Value), rv = .slice (some ⟨g, 0, none⟩) ks.length cap ∧ ks.length ≤ cap ∧ ks.length ≤ xs.length ∧ RowV .u64 wr g 149 ks rest ∧ Dig W64 ks ∧ Norm ks ∧ wr.ownsRow B 149 1 gv gs.length (gs.map fun n : Nat => Value.int .u64 n) ∧ Dig T10 gs ∧
      (val T10 gs + T10 ^ gs.length * val W64 ks = val W64 xs) ∧ (ks = [] → Norm gs) ∧ Below w.heap.size w wr ∧ wr.cell? ⟨w.heap.size, 0, none⟩ = some (.bool neg) ∧ val W64 ks ≤ m ∧ B ≤ wr.heap.size)
  case atStart => exact ⟨xs, [], rest, rfl, hxc, Nat.le_refl _, hrow1, dx, nx, World.ownsRow_nil _ _ _ _, Dig.nil _, by simp [val], fun h => by subst h; simp at hpos, hb1, c1, Nat.le_refl _, Nat.le_of_eq HB.out.symm⟩
  case round =>
    obtain ⟨ks, gs, rest, rfl, hkc, hkx, hrow, hkd, hkn, hown, hgd, he, hlast, hbw, cr, hm, hBr⟩ := hrel
    have HE := Lib.hid he; clear he
    have HL := Lib.hid hlast; clear hlast
    have HM := Lib.hid hm; clear hm
    rcases Nat.eq_zero_or_pos ks.length with hk0 | hk0
    · have hks : ks = [] := List.eq_nil_of_length_eq_zero hk0
      subst hks
      have hgn : 0 < gs.length := by
        rcases Nat.eq_zero_or_pos gs.length with h | h
        · have h1 := HE.out
          rw [List.eq_nil_of_length_eq_zero h] at h1
          exact absurd h1.symm (by simpa [val] using HX0.out)
        · exact h
      obtain ⟨gg, gcap, grest, rfl, hgrow, hgB, hgc, hgm⟩ := own_words hown hgn
      have hgi : ((gs.length : Int) == 0) = false := beq_false_of_ne (by omega)
      have hlt0 : w.heap.size < wr.heap.size := by omega
      obtain ⟨wo, rfl⟩ : ∃ wo : World, wo = wr := ⟨_, rfl⟩
      rcases neg with _ | _
      · go_wp2_with fail
        have hbldW : Bld wo.heap.size wo.heap.size [] (wo.alloc (.cells #[.pointer none, .slice none 0 0] 163)) := Lib.IsBuilderF.of (Lib.fresh_isBuilder _ _ _)
        have hrowW := hgrow.alloc (.cells #[.pointer none, .slice none 0 0] 163)
        have hbelW := hbw.alloc (o := .cells #[.pointer none, .slice none 0 0] 163) (by omega)
        have hgb : gg < wo.heap.size := hgrow.lt
        have hsW : wo.heap.size < (wo.alloc (.cells #[.pointer none, .slice none 0 0] 163)).heap.size := by simp
        have hgl : gs.length ≤ 2 * xs.length := gs_len (HL.out (by trivial)) hgn (by have h1 := HE.out; simpa [val] using h1) HX.out
        have hrl : gs.reverse.length = gs.length := List.length_reverse
        have hlast : gs[gs.length - 1]'(by omega) ≠ 0 := (norm_iff hgn).1 (HL.out (by trivial))
        have htabW := tab_below htab hbelW
        refine (reverse_any gg gs grest gcap _ hrowW (by omega) hgn).mono ?_
        rintro e W2 ⟨rfl, hrow2, hu2⟩
        have hbld2 := bld_upd hbldW hrowW hu2
        have hbel2 := hbelW.trans (hu2.below (B := w.heap.size) (by omega))
        have htab2 := tab_below htab hbel2
        have hs2 : wo.heap.size < W2.heap.size := by rw [hu2.size]; exact hsW
        have gc0 := hrow2.cell (i := 0) (by omega)
        have hr0 : gs.reverse[0]'(by omega) = gs[gs.length - 1]'(by omega) := by rw [List.getElem_reverse]; rfl
        rw [hr0] at gc0
        have hd0 := hgd.get (k := gs.length - 1) (by omega)
        have hdrop : val T10 (gs.drop (gs.length - 1)) = gs[gs.length - 1]'(by omega) := by
          rw [val_high (by omega), show gs.length - 1 + 1 = gs.length by omega, List.drop_length]; simp [val]
        obtain ⟨d0, hd0e⟩ : ∃ d0, gs[gs.length - 1]'(by omega) = d0 := ⟨_, rfl⟩
        rw [hd0e] at gc0 hd0 hdrop hlast
        have hfm := fmt_any d0 (Nat.lt_trans hd0 T10_lt) W2 htab2
        have hl0 := dec_len (k := 1) (by rw [Nat.pow_one]; exact hd0) (by omega)
        obtain ⟨s0, hs0⟩ : ∃ s0 : ByteArray, s0 = ⟨(Lib.decDigits d0).toArray⟩ := ⟨_, rfl⟩
        rw [← hs0] at hfm
        have HFM := Lib.hid hfm
        have HDR := Lib.hid hdrop
        have HS0 := Lib.hid hs0
        have HRL := Lib.hid hrl
        have HU := Lib.hid hu2.size
        have hd0p : 0 < d0 := by omega
        clear hfm hdrop hs0 hr0 hd0e hlast hrl hd0
        have hg1 : (0 : Int) < (gs.length : Int) := by omega
        have hg2 : (1 : Int) ≤ (gs.length : Int) := by omega
        go_wp2_with fail
        refine (HFM.out).mono ?_
        rintro e W3 ⟨rfl, hb3⟩
        have hs3 : wo.heap.size < W3.heap.size := Nat.lt_of_lt_of_le hs2 hb3.size
        go_wp2_with fail
        refine (write_z wo.heap.size wo.heap.size ([] : List UInt8) (Lib.decDigits d0) s0 W3 HS0.out (bld_below hbld2 hb3) (by simp; omega) (by omega)).mono ?_
        rintro e W4 ⟨rfl, hbld4, hb4, hk4⟩
        have hrow4 := row_others (hrow2.below hb3 hrow2.lt) hk4 (by omega)
        have hbel4 := (hbel2.trans (hb3.mono hbel2.size)).trans (hb4.mono (by omega))
        have hs4 : wo.heap.size < W4.heap.size := Nat.lt_of_lt_of_le hs3 hb4.size
        go_wp2_with fail
        · go_loopw [39] (fun iv wx => ∃ (k H : Nat), k + 1 ≤ gs.length ∧ iv = .int .i64 k ∧ H = val T10 (gs.drop (gs.length - 1 - k)) ∧ 0 < H ∧ Bld wo.heap.size wo.heap.size (([] : List UInt8) ++ Lib.decDigits H) wx ∧ RowV .u64 wx gg 149 gs.reverse grest ∧ Below w.heap.size w wx ∧ wo.heap.size < wx.heap.size) (fun iv _ => gs.length - (intOf iv).toNat)
          case atStart => exact ⟨0, d0, by omega, rfl, by rw [Nat.sub_zero]; exact HDR.out.symm, hd0p, hbld4, hrow4, hbel4, hs4⟩
          case round =>
            obtain ⟨k, H, hk, rfl, hH, hH0, hbld, hrow, hbel, hsx⟩ := hrel
            have HH := Lib.hid hH; clear hH
            by_cases hlt : k + 1 < gs.length
            · exfalso; omega
            · obtain hkn : k + 1 = gs.length := by omega
              have hHX : H = val W64 xs := by
                have h1 := HE.out
                rw [HH.out, show gs.length - 1 - k = 0 by omega, List.drop_zero]
                simpa [val] using h1
              rw [hHX] at hbld
              have HBL := Lib.hid hbld
              have hji : (gs.length : Int) - 1 ≤ (k : Int) := by omega
              have hkk : gs.length - 1 ≤ k := by omega
              clear hHX hbld hkn
              go_wp2_with fail
              refine (Tryz.Builder_String_any_k wo.heap.size wo.heap.size _ _ HBL.out (by omega)).mono ?_
              rintro e X7 ⟨rfl, _, hc7, _⟩
              go_wp2_with fail
              go_ret
              exact ⟨rfl, hbel.trans (hc7.mono (by omega))⟩
        · go_loopw [39] (fun iv wx => ∃ (k H : Nat), k + 1 ≤ gs.length ∧ iv = .int .i64 k ∧ H = val T10 (gs.drop (gs.length - 1 - k)) ∧ 0 < H ∧ Bld wo.heap.size wo.heap.size (([] : List UInt8) ++ Lib.decDigits H) wx ∧ RowV .u64 wx gg 149 gs.reverse grest ∧ Below w.heap.size w wx ∧ wo.heap.size < wx.heap.size) (fun iv _ => gs.length - (intOf iv).toNat)
          case atStart => exact ⟨0, d0, by omega, rfl, by rw [Nat.sub_zero]; exact HDR.out.symm, hd0p, hbld4, hrow4, hbel4, hs4⟩
          case round =>
            obtain ⟨k, H, hk, rfl, hH, hH0, hbld, hrow, hbel, hsx⟩ := hrel
            have HH := Lib.hid hH; clear hH
            by_cases hlt : k + 1 < gs.length
            · have htabx := tab_below htab hbel
              have gck := hrow.cell (i := k + 1) (by have := HRL.out; omega)
              have hrk : gs.reverse[k + 1]'(by have := HRL.out; omega) = gs[gs.length - 1 - (k + 1)]'(by omega) := by rw [List.getElem_reverse]
              rw [hrk] at gck
              have hdk := hgd.get (k := gs.length - 1 - (k + 1)) (by omega)
              have hvk : val T10 (gs.drop (gs.length - 1 - (k + 1))) = gs[gs.length - 1 - (k + 1)]'(by omega) + T10 * H := by
                rw [val_high (by omega), show gs.length - 1 - (k + 1) + 1 = gs.length - 1 - k by omega, HH.out]
              have hHl : H < T10 ^ (k + 1) := by
                have h1 := val_lt (hgd.drop (gs.length - 1 - k))
                rw [List.length_drop, show gs.length - (gs.length - 1 - k) = k + 1 by omega, ← HH.out] at h1
                exact h1
              have hHd := dec_len hHl (by omega)
              obtain ⟨d, hde⟩ : ∃ d, gs[gs.length - 1 - (k + 1)]'(by omega) = d := ⟨_, rfl⟩
              rw [hde] at gck hdk hvk
              have gck' : wr.cell? ⟨gg, 1 + k, none⟩ = some (.int .u64 (d : Nat)) := by rw [Nat.add_comm]; exact gck
              have hfm := fmt_any d (Nat.lt_trans hdk T10_lt) wr htabx
              have hdl := dec_len (k := 1) (by rw [Nat.pow_one]; exact hdk) (by omega)
              have hmore := dec_more hH0 hdk ([] : List UInt8)
              rw [← hvk] at hmore
              have hH1 : 0 < val T10 (gs.drop (gs.length - 1 - (k + 1))) := by rw [hvk]; have := Nat.mul_pos T10_pos hH0; omega
              obtain ⟨s, hs⟩ : ∃ s : ByteArray, s = ⟨(Lib.decDigits d).toArray⟩ := ⟨_, rfl⟩
              have hss : s.size = Lib.nDigits d := by rw [hs, size_of, Lib.decDigits_length]
              have hsd := Lib.decDigits_length d
              rw [← hs] at hfm
              have hrep := Tryz.strings_Repeat ⟨#[48]⟩ (19 - Lib.nDigits d)
              obtain ⟨z, hz⟩ : ∃ z : ByteArray, z = ⟨(Lib.repeatL (⟨#[48]⟩ : ByteArray).data.toList (19 - Lib.nDigits d)).toArray⟩ := ⟨_, rfl⟩
              rw [← hz] at hrep
              have hzl : (Lib.repeatL (⟨#[48]⟩ : ByteArray).data.toList (19 - Lib.nDigits d)).length = 19 - Lib.nDigits d := by rw [Lib.repeatL_length]; exact Nat.mul_one _
              have e19 : (19 : Int) - (s.size : Int) = ((19 - Lib.nDigits d : Nat) : Int) := by rw [hss]; omega
              have hs19 : (s.size : Int) ≤ 19 := by rw [hss]; omega
              have HFM2 := Lib.hid hfm
              have HRP := Lib.hid hrep
              have HZ := Lib.hid hz
              have HS := Lib.hid hs
              have HMO := Lib.hid hmore
              have HZL := Lib.hid hzl
              have HSD := Lib.hid hsd
              clear hfm hrep hz hs hmore hzl hss hde hrk hvk hHl hdk hsd
              have hji : (k : Int) + 1 < (gs.length : Int) := by omega
              have hji2 : (k : Int) < (gs.length : Int) - 1 := by omega
              have hkk : k < gs.length - 1 := by omega
              have hne1 : ¬ gcap = 1 := by omega
              go_wp2_with fail
              refine (HFM2.out).mono ?_
              rintro e X3 ⟨rfl, hc3⟩
              have hy3 : wo.heap.size < X3.heap.size := Nat.lt_of_lt_of_le hsx hc3.size
              go_wp2_with fail
              refine (HRP.out X3 (by omega) (by show 1 * _ ≤ _; omega)).mono ?_
              rintro e X4 ⟨rfl, hc4⟩
              have hy4 : wo.heap.size < X4.heap.size := Nat.lt_of_lt_of_le hy3 hc4.size
              go_wp2_with fail
              refine (write_z wo.heap.size wo.heap.size (([] : List UInt8) ++ Lib.decDigits H) _ z X4 HZ.out (bld_below (bld_below hbld hc3) hc4) (by rw [HZL.out]; simp; omega) (by omega)).mono ?_
              rintro e X5 ⟨rfl, hbld5, hc5, hk5⟩
              have hy5 : wo.heap.size < X5.heap.size := Nat.lt_of_lt_of_le hy4 hc5.size
              go_wp2_with fail
              refine (write_z wo.heap.size wo.heap.size _ (Lib.decDigits d) s X5 HS.out hbld5 (by rw [List.length_append, HZL.out]; simp; omega) (by omega)).mono ?_
              rintro e X6 ⟨rfl, hbld6, hc6, hk6⟩
              rw [HMO.out] at hbld6
              have hrow6 := row_others (row_others ((hrow.below hc3 hrow.lt).below hc4 (Nat.lt_of_lt_of_le hrow.lt hc3.size)) hk5 (by omega)) hk6 (by omega)
              have hbel6 := (((hbel.trans (hc3.mono hbel.size)).trans (hc4.mono (Nat.le_trans hbel.size hc3.size))).trans (hc5.mono (by omega))).trans (hc6.mono (by omega))
              have hy6 : wo.heap.size < X6.heap.size := Nat.lt_of_lt_of_le hy5 hc6.size
              go_wp2_with fail
              go_roundw
              case rel => exact ⟨k + 1, _, by omega, by go_num, rfl, hH1, hbld6, hrow6, hbel6, hy6⟩
              case measure => simp [intOf]; omega
            · obtain hkn : k + 1 = gs.length := by omega
              have hHX : H = val W64 xs := by
                have h1 := HE.out
                rw [HH.out, show gs.length - 1 - k = 0 by omega, List.drop_zero]
                simpa [val] using h1
              rw [hHX] at hbld
              have HBL := Lib.hid hbld
              have hji : (gs.length : Int) - 1 ≤ (k : Int) := by omega
              have hkk : gs.length - 1 ≤ k := by omega
              clear hHX hbld hkn
              go_wp2_with fail
              refine (Tryz.Builder_String_any_k wo.heap.size wo.heap.size _ _ HBL.out (by omega)).mono ?_
              rintro e X7 ⟨rfl, _, hc7, _⟩
              go_wp2_with fail
              go_ret
              exact ⟨rfl, hbel.trans (hc7.mono (by omega))⟩
      · go_wp2_with fail
        refine (writeByte_any wo.heap.size wo.heap.size [] 45 _ (Lib.IsBuilderF.of (Lib.fresh_isBuilder _ _ _)) (by simp) (by simp)).mono ?_
        rintro e W1 ⟨rfl, hbW, hbw1, hkw1⟩
        have hbldW : Bld wo.heap.size wo.heap.size [45] W1 := .inr hbW
        have hgb : gg < wo.heap.size := hgrow.lt
        have hrowW := row_others (hgrow.alloc (.cells #[.pointer none, .slice none 0 0] 163)) hkw1 (by omega)
        have hbelW := (hbw.alloc (o := .cells #[.pointer none, .slice none 0 0] 163) (by omega)).trans (hbw1.mono (by omega))
        have hsW : wo.heap.size < W1.heap.size := Nat.lt_of_lt_of_le (by simp) hbw1.size
        go_wp2_with fail
        have hgl : gs.length ≤ 2 * xs.length := gs_len (HL.out (by trivial)) hgn (by have h1 := HE.out; simpa [val] using h1) HX.out
        have hrl : gs.reverse.length = gs.length := List.length_reverse
        have hlast : gs[gs.length - 1]'(by omega) ≠ 0 := (norm_iff hgn).1 (HL.out (by trivial))
        have htabW := tab_below htab hbelW
        refine (reverse_any gg gs grest gcap _ hrowW (by omega) hgn).mono ?_
        rintro e W2 ⟨rfl, hrow2, hu2⟩
        have hbld2 := bld_upd hbldW hrowW hu2
        have hbel2 := hbelW.trans (hu2.below (B := w.heap.size) (by omega))
        have htab2 := tab_below htab hbel2
        have hs2 : wo.heap.size < W2.heap.size := by rw [hu2.size]; exact hsW
        have gc0 := hrow2.cell (i := 0) (by omega)
        have hr0 : gs.reverse[0]'(by omega) = gs[gs.length - 1]'(by omega) := by rw [List.getElem_reverse]; rfl
        rw [hr0] at gc0
        have hd0 := hgd.get (k := gs.length - 1) (by omega)
        have hdrop : val T10 (gs.drop (gs.length - 1)) = gs[gs.length - 1]'(by omega) := by
          rw [val_high (by omega), show gs.length - 1 + 1 = gs.length by omega, List.drop_length]; simp [val]
        obtain ⟨d0, hd0e⟩ : ∃ d0, gs[gs.length - 1]'(by omega) = d0 := ⟨_, rfl⟩
        rw [hd0e] at gc0 hd0 hdrop hlast
        have hfm := fmt_any d0 (Nat.lt_trans hd0 T10_lt) W2 htab2
        have hl0 := dec_len (k := 1) (by rw [Nat.pow_one]; exact hd0) (by omega)
        obtain ⟨s0, hs0⟩ : ∃ s0 : ByteArray, s0 = ⟨(Lib.decDigits d0).toArray⟩ := ⟨_, rfl⟩
        rw [← hs0] at hfm
        have HFM := Lib.hid hfm
        have HDR := Lib.hid hdrop
        have HS0 := Lib.hid hs0
        have HRL := Lib.hid hrl
        have HU := Lib.hid hu2.size
        have hd0p : 0 < d0 := by omega
        clear hfm hdrop hs0 hr0 hd0e hlast hrl hd0
        have hg1 : (0 : Int) < (gs.length : Int) := by omega
        have hg2 : (1 : Int) ≤ (gs.length : Int) := by omega
        go_wp2_with fail
        refine (HFM.out).mono ?_
        rintro e W3 ⟨rfl, hb3⟩
        have hs3 : wo.heap.size < W3.heap.size := Nat.lt_of_lt_of_le hs2 hb3.size
        go_wp2_with fail
        refine (write_z wo.heap.size wo.heap.size ([45] : List UInt8) (Lib.decDigits d0) s0 W3 HS0.out (bld_below hbld2 hb3) (by simp; omega) (by omega)).mono ?_
        rintro e W4 ⟨rfl, hbld4, hb4, hk4⟩
        have hrow4 := row_others (hrow2.below hb3 hrow2.lt) hk4 (by omega)
        have hbel4 := (hbel2.trans (hb3.mono hbel2.size)).trans (hb4.mono (by omega))
        have hs4 : wo.heap.size < W4.heap.size := Nat.lt_of_lt_of_le hs3 hb4.size
        go_wp2_with fail
        · go_loopw [39] (fun iv wx => ∃ (k H : Nat), k + 1 ≤ gs.length ∧ iv = .int .i64 k ∧ H = val T10 (gs.drop (gs.length - 1 - k)) ∧ 0 < H ∧ Bld wo.heap.size wo.heap.size (([45] : List UInt8) ++ Lib.decDigits H) wx ∧ RowV .u64 wx gg 149 gs.reverse grest ∧ Below w.heap.size w wx ∧ wo.heap.size < wx.heap.size) (fun iv _ => gs.length - (intOf iv).toNat)
          case atStart => exact ⟨0, d0, by omega, rfl, by rw [Nat.sub_zero]; exact HDR.out.symm, hd0p, hbld4, hrow4, hbel4, hs4⟩
          case round =>
            obtain ⟨k, H, hk, rfl, hH, hH0, hbld, hrow, hbel, hsx⟩ := hrel
            have HH := Lib.hid hH; clear hH
            by_cases hlt : k + 1 < gs.length
            · exfalso; omega
            · obtain hkn : k + 1 = gs.length := by omega
              have hHX : H = val W64 xs := by
                have h1 := HE.out
                rw [HH.out, show gs.length - 1 - k = 0 by omega, List.drop_zero]
                simpa [val] using h1
              rw [hHX] at hbld
              have HBL := Lib.hid hbld
              have hji : (gs.length : Int) - 1 ≤ (k : Int) := by omega
              have hkk : gs.length - 1 ≤ k := by omega
              clear hHX hbld hkn
              go_wp2_with fail
              refine (Tryz.Builder_String_any_k wo.heap.size wo.heap.size _ _ HBL.out (by omega)).mono ?_
              rintro e X7 ⟨rfl, _, hc7, _⟩
              go_wp2_with fail
              go_ret
              exact ⟨rfl, hbel.trans (hc7.mono (by omega))⟩
        · go_loopw [39] (fun iv wx => ∃ (k H : Nat), k + 1 ≤ gs.length ∧ iv = .int .i64 k ∧ H = val T10 (gs.drop (gs.length - 1 - k)) ∧ 0 < H ∧ Bld wo.heap.size wo.heap.size (([45] : List UInt8) ++ Lib.decDigits H) wx ∧ RowV .u64 wx gg 149 gs.reverse grest ∧ Below w.heap.size w wx ∧ wo.heap.size < wx.heap.size) (fun iv _ => gs.length - (intOf iv).toNat)
          case atStart => exact ⟨0, d0, by omega, rfl, by rw [Nat.sub_zero]; exact HDR.out.symm, hd0p, hbld4, hrow4, hbel4, hs4⟩
          case round =>
            obtain ⟨k, H, hk, rfl, hH, hH0, hbld, hrow, hbel, hsx⟩ := hrel
            have HH := Lib.hid hH; clear hH
            by_cases hlt : k + 1 < gs.length
            · have htabx := tab_below htab hbel
              have gck := hrow.cell (i := k + 1) (by have := HRL.out; omega)
              have hrk : gs.reverse[k + 1]'(by have := HRL.out; omega) = gs[gs.length - 1 - (k + 1)]'(by omega) := by rw [List.getElem_reverse]
              rw [hrk] at gck
              have hdk := hgd.get (k := gs.length - 1 - (k + 1)) (by omega)
              have hvk : val T10 (gs.drop (gs.length - 1 - (k + 1))) = gs[gs.length - 1 - (k + 1)]'(by omega) + T10 * H := by
                rw [val_high (by omega), show gs.length - 1 - (k + 1) + 1 = gs.length - 1 - k by omega, HH.out]
              have hHl : H < T10 ^ (k + 1) := by
                have h1 := val_lt (hgd.drop (gs.length - 1 - k))
                rw [List.length_drop, show gs.length - (gs.length - 1 - k) = k + 1 by omega, ← HH.out] at h1
                exact h1
              have hHd := dec_len hHl (by omega)
              obtain ⟨d, hde⟩ : ∃ d, gs[gs.length - 1 - (k + 1)]'(by omega) = d := ⟨_, rfl⟩
              rw [hde] at gck hdk hvk
              have gck' : wr.cell? ⟨gg, 1 + k, none⟩ = some (.int .u64 (d : Nat)) := by rw [Nat.add_comm]; exact gck
              have hfm := fmt_any d (Nat.lt_trans hdk T10_lt) wr htabx
              have hdl := dec_len (k := 1) (by rw [Nat.pow_one]; exact hdk) (by omega)
              have hmore := dec_more hH0 hdk ([45] : List UInt8)
              rw [← hvk] at hmore
              have hH1 : 0 < val T10 (gs.drop (gs.length - 1 - (k + 1))) := by rw [hvk]; have := Nat.mul_pos T10_pos hH0; omega
              obtain ⟨s, hs⟩ : ∃ s : ByteArray, s = ⟨(Lib.decDigits d).toArray⟩ := ⟨_, rfl⟩
              have hss : s.size = Lib.nDigits d := by rw [hs, size_of, Lib.decDigits_length]
              have hsd := Lib.decDigits_length d
              rw [← hs] at hfm
              have hrep := Tryz.strings_Repeat ⟨#[48]⟩ (19 - Lib.nDigits d)
              obtain ⟨z, hz⟩ : ∃ z : ByteArray, z = ⟨(Lib.repeatL (⟨#[48]⟩ : ByteArray).data.toList (19 - Lib.nDigits d)).toArray⟩ := ⟨_, rfl⟩
              rw [← hz] at hrep
              have hzl : (Lib.repeatL (⟨#[48]⟩ : ByteArray).data.toList (19 - Lib.nDigits d)).length = 19 - Lib.nDigits d := by rw [Lib.repeatL_length]; exact Nat.mul_one _
              have e19 : (19 : Int) - (s.size : Int) = ((19 - Lib.nDigits d : Nat) : Int) := by rw [hss]; omega
              have hs19 : (s.size : Int) ≤ 19 := by rw [hss]; omega
              have HFM2 := Lib.hid hfm
              have HRP := Lib.hid hrep
              have HZ := Lib.hid hz
              have HS := Lib.hid hs
              have HMO := Lib.hid hmore
              have HZL := Lib.hid hzl
              have HSD := Lib.hid hsd
              clear hfm hrep hz hs hmore hzl hss hde hrk hvk hHl hdk hsd
              have hji : (k : Int) + 1 < (gs.length : Int) := by omega
              have hji2 : (k : Int) < (gs.length : Int) - 1 := by omega
              have hkk : k < gs.length - 1 := by omega
              have hne1 : ¬ gcap = 1 := by omega
              go_wp2_with fail
              refine (HFM2.out).mono ?_
              rintro e X3 ⟨rfl, hc3⟩
              have hy3 : wo.heap.size < X3.heap.size := Nat.lt_of_lt_of_le hsx hc3.size
              go_wp2_with fail
              refine (HRP.out X3 (by omega) (by show 1 * _ ≤ _; omega)).mono ?_
              rintro e X4 ⟨rfl, hc4⟩
              have hy4 : wo.heap.size < X4.heap.size := Nat.lt_of_lt_of_le hy3 hc4.size
              go_wp2_with fail
              refine (write_z wo.heap.size wo.heap.size (([45] : List UInt8) ++ Lib.decDigits H) _ z X4 HZ.out (bld_below (bld_below hbld hc3) hc4) (by rw [HZL.out]; simp; omega) (by omega)).mono ?_
              rintro e X5 ⟨rfl, hbld5, hc5, hk5⟩
              have hy5 : wo.heap.size < X5.heap.size := Nat.lt_of_lt_of_le hy4 hc5.size
              go_wp2_with fail
              refine (write_z wo.heap.size wo.heap.size _ (Lib.decDigits d) s X5 HS.out hbld5 (by rw [List.length_append, HZL.out]; simp; omega) (by omega)).mono ?_
              rintro e X6 ⟨rfl, hbld6, hc6, hk6⟩
              rw [HMO.out] at hbld6
              have hrow6 := row_others (row_others ((hrow.below hc3 hrow.lt).below hc4 (Nat.lt_of_lt_of_le hrow.lt hc3.size)) hk5 (by omega)) hk6 (by omega)
              have hbel6 := (((hbel.trans (hc3.mono hbel.size)).trans (hc4.mono (Nat.le_trans hbel.size hc3.size))).trans (hc5.mono (by omega))).trans (hc6.mono (by omega))
              have hy6 : wo.heap.size < X6.heap.size := Nat.lt_of_lt_of_le hy5 hc6.size
              go_wp2_with fail
              go_roundw
              case rel => exact ⟨k + 1, _, by omega, by go_num, rfl, hH1, hbld6, hrow6, hbel6, hy6⟩
              case measure => simp [intOf]; omega
            · obtain hkn : k + 1 = gs.length := by omega
              have hHX : H = val W64 xs := by
                have h1 := HE.out
                rw [HH.out, show gs.length - 1 - k = 0 by omega, List.drop_zero]
                simpa [val] using h1
              rw [hHX] at hbld
              have HBL := Lib.hid hbld
              have hji : (gs.length : Int) - 1 ≤ (k : Int) := by omega
              have hkk : gs.length - 1 ≤ k := by omega
              clear hHX hbld hkn
              go_wp2_with fail
              refine (Tryz.Builder_String_any_k wo.heap.size wo.heap.size _ _ HBL.out (by omega)).mono ?_
              rintro e X7 ⟨rfl, _, hc7, _⟩
              go_wp2_with fail
              go_ret
              exact ⟨rfl, hbel.trans (hc7.mono (by omega))⟩
    · have hV : val W64 ks ≠ 0 := fun h => by rw [(norm_zero (by decide) hkn).1 h] at hk0; simp at hk0
      have hgl := text_len HE.out hV HX.out
      have hV0 := hV
      have HV := Lib.hid hV
      clear hV
      have hbw := byWordV_any g ks ks rest (some ⟨g, 0, none⟩) cap cap T10 wr hrow (.inl ⟨rfl, rfl⟩) rfl hkd T10_pos T10_lt (by omega)
      rw [T10_int] at hbw
      have hst := text_step HE.out
      have hlst := text_last (gs := gs) hV0
      have hRlt : val W64 ks % T10 < T10 := Nat.mod_lt _ T10_pos
      obtain ⟨R, hR⟩ : ∃ R, val W64 ks % T10 = R := ⟨_, rfl⟩
      rw [hR] at hbw hst hRlt hlst
      have HBW := Lib.hid hbw
      have HST := Lib.hid hst
      have HLS := Lib.hid hlst
      have hgdR : Dig T10 (gs ++ [R]) := dig_snoc hgd hRlt
      clear hbw hst hlst hR hRlt hV0
      have hki : (0 : Int) < (ks.length : Int) := by omega
      have hgf := own_far hown (show g < B by omega)
      go_wp2_with (first
        | (go_at_call 124; refine (HBW.out).mono ?_; rintro e w2 ⟨qs, rfl, hql, hqd, hqv, hrow2, hu2⟩
           have hown2 := own_upd hown hu2 (by omega)
           have HQL := Lib.hid hql
           have HQV := Lib.hid hqv
           have hB2 : B ≤ w2.heap.size := by rw [hu2.size]; exact hBr
           clear hql hqv)
        | (at_builtin; refine wpList_append_own _ rfl (.tmp 17) (.tmp 21) 70 rfl B 149 i0 (.int .u64 0) 1 8 Tryz.underlying70 hi hz0 hz1 hz2 rfl (by decide) _ _ _ rfl (hown2.alloc _) ⟨w2.heap.size, 0, none⟩ 1 1 [.int .u64 (R : Nat)] rfl rfl (by intro j u hj; match j, hj with | 0, hj => simp at hj; subst hj; simp [Addr.add]) (by intro u hu; simp at hu; subst hu; rfl) (by unfold maxLen; omega) (by omega) (by simp; omega) ?_
           intro v' w3 hown3 hgrow3 _))
      have hrow3 := (hrow2.alloc (.cells #[.int .u64 (R : Nat)] 149)).grown hgrow3 hgf
      have hbel3 : Below w.heap.size w w3 := ((hbw.trans (hu2.below (by omega))).alloc (by have := hbw.size; omega) _).grown hgrow3 (by simp; omega) (fun q hq => (hown2.lt q hq).1 |> Nat.le_trans (by omega))
      have hwB := own_far hown2 (show w.heap.size < B by omega)
      have hh : w3.heap[w.heap.size]? = wr.heap[w.heap.size]? := (hgrow3.block w.heap.size (by simp; omega) hwB).trans ((Below.heap_alloc _ _ _ (by omega)).trans (hu2.block _ (by omega)))
      have cr3 : w3.cell? ⟨w.heap.size, 0, none⟩ = some (.bool neg) := (World.cell?_of_block (w := wr) (w' := w3) (a := ⟨w.heap.size, 0, none⟩) hh).trans cr
      have hT := trim_any (some ⟨g, 0, none⟩) qs cap w3 (hrow3.sl hrow3.lt) (by have := HQL.out; omega) hcap
      rw [HQL.out] at hT
      have HT := Lib.hid hT
      obtain ⟨nz, hqz, _⟩ := trimL_all qs
      have hrow4 : RowV .u64 w3 g 149 (trimL qs) ((List.replicate nz 0).map (fun n : Nat => Value.int .u64 n) ++ rest) := by
        refine RowV.shrink ?_
        rw [← hqz]; exact hrow3
      have hvt : val W64 (trimL qs) = val W64 ks / T10 := by rw [val_trimL, HQV.out]
      have HVT := Lib.hid hvt
      have htl := trimL_len qs
      rw [HQL.out] at htl
      have hB3 : B ≤ w3.heap.size := by have := hgrow3.size; simp at this; omega
      have HOW := Lib.hid hown3
      have HR4 := Lib.hid hrow4
      clear hT hqz hvt hown3 hrow4 hh hrow3 hrow2 hown2
      go_wp2_with fail
      refine (HT.out).mono ?_
      rintro e w5 ⟨rfl, rfl⟩
      go_wp2_with fail
      go_roundg (val W64 (trimL qs))
      case measure =>
        rw [HVT.out]
        have h1 := HM.out
        have h2 := HV.out
        have h3 : val W64 ks / T10 < val W64 ks := Nat.div_lt_self (by omega) (by decide)
        omega
      case rel =>
        refine ⟨trimL qs, gs ++ [R], _, rfl, by omega, by omega, HR4.out, dig_trimL hqd, norm_trimL _, by simpa using HOW.out, hgdR, by rw [HVT.out]; exact HST.out, fun h => HLS.out (by rw [← HVT.out, h]; rfl), hbel3, cr3, Nat.le_refl _, hB3⟩
end Go.Proofs.YtjamfkafgfpobaaGreatDoor
