/-
  What the document's own Digits returns: the decimal numeral. Condition: that the number has few enough limbs.
-/
import Derived.Test.YtiofglgpgjnonaaDoorRadd
import Derived.Test.YtiofglgpgjnonaaDoorText1
import Derived.Test.YtiofglgpgjnonaaDoorText3
import Derived.Test.YtiofglgpgjnonaaDoorDec
import Derived.Laws.IdiomStrings
namespace Go.Proofs.YtiofglgpgjnonaaDoor
open Go.RowKit Nb

namespace Nb
def T9 : Nat := 1000000000
theorem T9_pos : 0 < T9 := by decide
theorem dig_step {ds : List Nat} {n p V : Nat} (hl : ds.length = n) (h : val 10 ds + 10 ^ n * p = V) : val 10 (ds ++ [p % 10]) + 10 ^ (n + 1) * (p / 10) = V := by
  rw [val_snoc, hl, ← h, Nat.pow_succ, Nat.mul_assoc]
  have e : 10 ^ n * p = 10 ^ n * (10 * (p / 10) + p % 10) := by rw [Nat.div_add_mod]
  rw [e, Nat.mul_add]; omega
theorem t9_step {gs : List Nat} {V X : Nat} (h : val T9 gs + T9 ^ gs.length * V = X) : val T9 (gs ++ [V % T9]) + T9 ^ (gs ++ [V % T9]).length * (V / T9) = X := by
  rw [val_snoc, List.length_append, List.length_singleton, ← h, Nat.pow_succ, Nat.mul_assoc]
  have e : T9 ^ gs.length * V = T9 ^ gs.length * (T9 * (V / T9) + V % T9) := by rw [Nat.div_add_mod]
  rw [e, Nat.mul_add]; omega
theorem t9_len {gs : List Nat} {V X L : Nat} (h : val T9 gs + T9 ^ gs.length * V = X) (hV : V ≠ 0) (hX : X < W32 ^ L) : gs.length < 2 * L := by
  have h1 : T9 ^ gs.length ≤ X := by
    rw [← h]
    have := Nat.le_mul_of_pos_right (T9 ^ gs.length) (Nat.pos_of_ne_zero hV)
    omega
  have h2 : (2 : Nat) ^ (16 * gs.length) ≤ T9 ^ gs.length := by
    rw [Nat.pow_mul]; exact Nat.pow_le_pow_left (by decide) _
  have h3 : W32 ^ L = 2 ^ (32 * L) := by rw [Nat.pow_mul]
  rw [h3] at hX
  have h4 : (2 : Nat) ^ (16 * gs.length) < 2 ^ (32 * L) := by omega
  have := (Nat.pow_lt_pow_iff_right (by decide)).1 h4
  omega
/-- Digits, the lowest first, as a text. -/
def chars (ds : List Nat) : List Nat := ds.map (48 + ·)
theorem chars_len (ds : List Nat) : (chars ds).length = ds.length := by simp [chars]
theorem chars_snoc (ds : List Nat) (d : Nat) : chars (ds ++ [d]) = chars ds ++ [48 + d] := by simp [chars]
theorem chars_take (ds : List Nat) (k : Nat) : (chars ds).take k = chars (ds.take k) := by simp [chars]
theorem val10_pow (k : Nat) : 10 ^ (9 * k) = T9 ^ k := Nat.pow_mul 10 9 k
theorem dec_of : ∀ (ds : List Nat), ds ≠ [] → Dig 10 ds → Norm ds → Lib.decDigits (val 10 ds) = ((ds.map fun d => UInt8.ofNat (48 + d)).reverse)
  | [], h, _, _ => absurd rfl h
  | [d], _, hd, _ => by
    have h : d < 10 := hd d (by simp)
    rw [val_cons, val_nil, Nat.mul_zero, Nat.add_zero, dec_small h]; rfl
  | d :: e :: ds, _, hd, hn => by
    have h : d < 10 := hd d (by simp)
    have hd2 : Dig 10 (e :: ds) := fun x hx => hd x (List.mem_cons_of_mem _ hx)
    have hn2 : Norm (e :: ds) := fun hne => by
      have := hn (by simp)
      rwa [List.getLast_cons hne] at this
    have ih := dec_of (e :: ds) (by simp) hd2 hn2
    have hv : val 10 (e :: ds) ≠ 0 := fun h0 => by
      have := (norm_zero (by decide) hn2).1 h0
      cases this
    rw [val_cons, dec_big (by omega), show (d + 10 * val 10 (e :: ds)) / 10 = val 10 (e :: ds) by omega, show (d + 10 * val 10 (e :: ds)) % 10 = d by omega, ih]
    simp
theorem norm_take {ds : List Nat} {k : Nat} (hk : k ≤ ds.length) (h0 : 0 < k) (h : ds[k - 1]'(by omega) ≠ 0) : Norm (ds.take k) := by
  have hl : (ds.take k).length = k := by simp; omega
  rw [norm_iff (by omega)]
  simp only [hl, List.getElem_take]
  exact h
theorem val_take_zero {ds : List Nat} {k : Nat} (hk : k < ds.length) (h : ds[k] = 0) : val 10 (ds.take (k + 1)) = val 10 (ds.take k) := by
  rw [val_take_succ 10 hk, h, Nat.mul_zero, Nat.add_zero]
end Nb

theorem own_take {w : World} {B g cap n k : Nat} {e : TypeId} {vs : List Value} (h : w.ownsRow B e 1 (.slice (some ⟨g, 0, none⟩) n cap) n vs) (hk : k ≤ n) : w.ownsRow B e 1 (.slice (some ⟨g, 0, none⟩) k cap) k (vs.take k) := by
  obtain ⟨hl, h0 | ⟨g', cap', cur, hv, hb, hh, hc, hm, hs, ht⟩⟩ := h
  · obtain ⟨h0, _⟩ := h0; cases h0
  · injection hv with a1 a2 a3
    refine ⟨by rw [List.length_take, hl]; omega, .inr ⟨g', cap', cur, by rw [a1, a3], hb, hh, by omega, hm, hs, ?_⟩⟩
    rw [← ht, List.take_take]
    congr 1
    omega

theorem info_u8 : (Tryd.prog.info? 5).map (fun i => (i.zero, i.size, i.bytes)) = some (some (.int .u8 0), 1, 1) := by kernel_rfl
theorem T9_W : T9 ≤ 4294967295 := by decide
theorem own_below {w w' : World} {B B' n : Nat} {e : TypeId} {v : Value} {vs : List Value} (h : w.ownsRow B e 1 v n vs) (hb : Below B' w w') (hB : w.heap.size ≤ B') : w'.ownsRow B e 1 v n vs := by
  obtain ⟨hl, h0 | ⟨g', cap, cur, hv, hbg, hh, r⟩⟩ := h
  · exact ⟨hl, .inl h0⟩
  · have hlt : g' < w.heap.size := by
      rcases Nat.lt_or_ge g' w.heap.size with h | h
      · exact h
      · rw [Array.getElem?_eq_none h] at hh; cases hh
    exact ⟨hl, .inr ⟨g', cap, cur, hv, hbg, (hb.block g' (by omega)).trans hh, r⟩⟩
theorem own_form {w : World} {B : Nat} {e : TypeId} {v : Value} {k : IntKind} {gs : List Nat} (h : w.ownsRow B e 1 v gs.length (gs.map fun n : Nat => Value.int k n)) (hpos : 0 < gs.length) :
    ∃ g cap rest, v = .slice (some ⟨g, 0, none⟩) gs.length cap ∧ RowV k w g e gs rest ∧ B ≤ g ∧ gs.length ≤ cap ∧ cap ≤ maxLen := by
  obtain ⟨g, cap, rfl, hcap, hcap2⟩ : ∃ g cap, v = .slice (some ⟨g, 0, none⟩) gs.length cap ∧ gs.length ≤ cap ∧ cap ≤ maxLen := by
    rcases h.2 with ⟨_, h0⟩ | ⟨g, cap, cur, hv, _, _, h1, h2, _⟩
    · exact absurd h0 (by omega)
    · exact ⟨g, cap, hv, h1, h2⟩
  obtain ⟨rest, hrow, hg⟩ := RowV.of_own h
  exact ⟨g, cap, rest, rfl, hrow, hg, hcap, hcap2⟩

/-- Some bytes are turned round in place, and told as a text: Digits' last rows. -/
def Bytes (zs : List Nat) : ByteArray := ⟨(zs.map UInt8.ofNat).toArray⟩
theorem run_bytes (w : World) (g cap : Nat) (zs : List Nat) (rest : List Value) (hr : RowV .u8 w g 5 zs rest) (hz : ∀ z ∈ zs, z < 256) : (convert 86 9 (.slice (some ⟨g, 0, none⟩) zs.length cap)).run Tryd.prog w = .ok (.string (Bytes zs)) w := by
  have h := run_convert_bytes_back (P := Tryd.prog) w 86 9 5 ⟨g, 0, none⟩ cap (zs.map UInt8.ofNat) Tryd.underlying86 Tryd.underlying5 Tryd.underlying9 (fun j hj => by
    have hj' : j < zs.length := by simpa using hj
    rw [add_zero_none, hr.cell hj']
    congr 2
    rw [List.getElem_map, UInt8.toNat_ofNat', Nat.mod_eq_of_lt (hz _ (List.getElem_mem _))])
  rw [List.length_map] at h
  exact h
theorem bytes_text {ds : List Nat} (neg : Bool) (hne : ds ≠ []) (hd : Dig 10 ds) (hn : Norm ds) : Bytes (chars ds ++ (if neg then [45] else [])).reverse = ⟨((if neg then [45] else []) ++ Lib.decDigits (val 10 ds)).toArray⟩ := by
  unfold Bytes
  rw [dec_of ds hne hd hn]
  congr 2
  unfold chars
  cases neg <;> simp
theorem chars_256 {ds : List Nat} (hd : Dig 10 ds) : ∀ z ∈ chars ds, z < 256 := by
  intro z hz
  unfold chars at hz
  obtain ⟨d, hd2, rfl⟩ := List.mem_map.1 hz
  have := hd d hd2
  omega

set_option maxHeartbeats 800000 in
theorem short_new (A : Option Addr) (xs : List Nat) (c y : Nat) (w : World) (hx : Sl .u32 w w.heap.size A xs) (dx : Dig W32 xs) (hy : 0 < y) (hy2 : y ≤ 4294967295) (hb : xs.length * 4 ≤ 140737488351232) :
    Calls Tryd.prog 74 #[.slice A xs.length c, .int .u32 y] w fun e w' => ∃ (zs : List Nat) (d : Nat), e = .returned (.tuple #[.slice (some ⟨w.heap.size, 0, none⟩) zs.length d, .int .u32 (val W32 xs % y : Nat)]) ∧ Sl .u32 w' w'.heap.size (some ⟨w.heap.size, 0, none⟩) zs ∧ Dig W32 zs ∧ Norm zs ∧ val W32 zs = val W32 xs / y ∧ zs.length ≤ xs.length ∧ Below w.heap.size w w' := by
  go_enter Tryd.func74, Tryd.ntmps74
  go_wp2_with (at_make; refine wpList_make_row _ rfl _ _ 22 rfl 54 .u32 4 Tryd.underlying22 info_u32 _ _ _ _ xs.length rfl rfl (by omega) (by omega) (by omega) (by unfold maxLen; omega) ?_
               intro w1 hrow1 hbel1)
  obtain ⟨zs, hzs⟩ : ∃ zs, List.replicate xs.length 0 = zs := ⟨_, rfl⟩
  have hzl : zs.length = xs.length := by rw [← hzs]; simp
  rw [hzs] at hrow1
  have HL := Lib.hid hzl
  clear hzl hzs
  go_loopw [7, 8] (fun rv iv wr => ∃ (k r : Nat) (q : Int) (qs : List Nat), k ≤ xs.length ∧ iv = .int .i64 q ∧ q + 1 = k ∧ rv = .int .u64 r ∧ r < y ∧ qs.length = xs.length - k ∧ Dig W32 qs ∧ val W32 qs * y + r = val W32 (xs.drop k) ∧
      Row .u32 wr w.heap.size 54 (zs.take k ++ qs) ∧ Below w.heap.size w wr) (fun _ iv _ => (intOf iv + 1).toNat)
  case atStart => exact ⟨xs.length, 0, xs.length - 1, [], Nat.le_refl _, rfl, by omega, rfl, hy, by simp, Dig.nil _, by simp [val], by rw [← HL.out, List.take_length, List.append_nil]; exact hrow1, hbel1⟩
  case round =>
    obtain ⟨k, r, q, qs, hk, rfl, hq, rfl, hr, hql, hqd, he, hrow, hbel⟩ := hrel
    have HQ := Lib.hid hql; clear hql
    have HE := Lib.hid he; clear he
    rcases k with _ | j
    · obtain rfl : q = -1 := by omega
      clear hq
      rw [List.take_zero, List.nil_append] at hrow
      have h1 := HE.out
      rw [List.drop_zero, Nat.mul_comm] at h1
      have h2 : val W32 xs / y = val W32 qs := by rw [← h1, Nat.mul_add_div hy, Nat.div_eq_of_lt hr]; rfl
      have h3 : val W32 xs % y = r := by rw [← h1, Nat.mul_add_mod, Nat.mod_eq_of_lt hr]
      have H2 := Lib.hid h2
      have H3 := Lib.hid h3
      clear h1 h2 h3
      have hT : Calls Tryd.prog 75 #[.slice (some ⟨w.heap.size, 0, none⟩) xs.length xs.length] wr fun e w' => e = .returned (.slice (some ⟨w.heap.size, 0, none⟩) (trimL qs).length xs.length) ∧ wr = w' := by
        have := rtrim_any (some ⟨w.heap.size, 0, none⟩) qs xs.length wr (hrow.sl hrow.lt) (by have := HQ.out; omega) (by unfold maxLen; omega)
        rw [HQ.out] at this
        exact this
      have HT := Lib.hid hT
      clear hT
      go_wp2_with fail
      refine (HT.out).mono ?_
      rintro e w5 ⟨rfl, rfl⟩
      go_wp2_with fail
      go_ret2
      have hqT := trimL_len qs
      rw [HQ.out] at hqT
      exact ⟨trimL qs, xs.length, by rw [H3.out]; rfl, sl_trimL (hrow.sl hrow.lt), dig_trimL hqd, norm_trimL _, by rw [val_trimL, H2.out], by omega, hbel⟩
    · obtain rfl : q = j := by omega
      clear hq
      have hjz : j < zs.length := by have := HL.out; omega
      have hjx : j < xs.length := by omega
      have hlen : j < (zs.take (j + 1) ++ qs).length := by simp; omega
      have gf := hrow.frozen j
      have gc := hrow.cell hlen
      rw [down_get zs qs hjz hlen] at gc
      obtain ⟨ad, rfl, _, h1⟩ := (hx.below hbel).at_ hjx
      have hxx := dx.get hjx
      have hstep := fun q' r' => step_quo (q := q') (r' := r') (x := xs[j]) HE.out
      rw [← val_drop_pred W32 hjx] at hstep
      have hset := fun v => down_put zs qs v hjz
      have hrs := fun v => hrow.set_ j v
      have hbs := fun v : Nat => hbel.setCell (p := ⟨w.heap.size, j, none⟩) (Nat.le_refl _) (.int .u32 v)
      generalize xs[j] = x at *
      generalize zs[j] = z at *
      have hxx' : x < 4294967296 := hxx
      have hqr : (r * W32 + x) / y * y + (r * W32 + x) % y = r * W32 + x := by rw [Nat.mul_comm]; exact Nat.div_add_mod _ _
      have hq1 : (r * W32 + x) / y < 4294967296 := quo_lt hr hxx
      have hq2 : (r * W32 + x) % y < y := Nat.mod_lt _ hy
      have hi1 : ((r : Int) * 4294967296 + (x : Int)) / (y : Int) = (((r * W32 + x) / y : Nat) : Int) := by simp [W32]
      have hi2 : ((r : Int) * 4294967296 + (x : Int)) % (y : Int) = (((r * W32 + x) % y : Nat) : Int) := by simp [W32]
      obtain ⟨Q, hQ⟩ : ∃ Q, (r * W32 + x) / y = Q := ⟨_, rfl⟩
      obtain ⟨R, hR⟩ : ∃ R, (r * W32 + x) % y = R := ⟨_, rfl⟩
      rw [hQ] at hqr hq1 hi1
      rw [hR] at hqr hq2 hi2
      have hst' := hstep Q R hqr
      have hrs' := hrs Q
      have hbs' := hbs Q
      rw [hset Q] at hrs'
      have HS := Lib.hid hst'
      have HR := Lib.hid hrs'
      have HB := Lib.hid hbs'
      clear hstep hset hrs hbs hst' hrs' hbs' hqr hQ hR hlen hrow hx hxx
      have hji : (j : Int) < (xs.length : Int) := by omega
      go_wp2_with fail
      go_roundw
      case rel => exact ⟨j, R, _, Q :: qs, by omega, rfl, by omega, congrArg _ hi2, hq2, by have := HQ.out; simp; omega, dig_cons hq1 hqd, HS.out, HR.out, HB.out⟩
      case measure => simp [intOf]
set_option maxHeartbeats 8000000 in
set_option maxRecDepth 100000 in
theorem rdig_any (neg : Bool) (A : Option Addr) (xs : List Nat) (c : Nat) (w : World) (hx : Sl .u32 w w.heap.size A xs) (dx : Dig W32 xs) (nx : Norm xs) (hl : xs.length ≤ 65536) :
    Calls Tryd.prog 43 #[big neg A xs.length c] w fun e w' => e = .returned (.string ⟨(if xs = [] then [48] else (if neg then [45] else []) ++ Lib.decDigits (val W32 xs)).toArray⟩) ∧ Below w.heap.size w w' := by
  obtain ⟨i0, hi, hz0, hz1, hz2⟩ := info_parts info_u32
  obtain ⟨j0, hj, hy0, hy1, hy2⟩ := info_parts info_u8
  rcases Nat.eq_zero_or_pos xs.length with h0 | h0
  · obtain rfl : xs = [] := List.eq_nil_of_length_eq_zero h0
    go_enter Tryd.func43, Tryd.ntmps43
    go_wp2
    go_ret
    exact ⟨rfl, by go_grown⟩
  · have hne : xs ≠ [] := by intro e; subst e; simp at h0
    rw [if_neg hne]
    have hX := val_lt dx
    have hX0 : val W32 xs ≠ 0 := fun h => hne ((norm_zero (by decide) nx).1 h)
    have HX := Lib.hid hX
    have HX0 := Lib.hid hX0
    clear hX hX0 hne
    have hb0 : Below w.heap.size w (w.alloc (.cells #[.bool neg, .slice A xs.length c] 24)) := by go_grown
    have hsx := (hx.below hb0).more hb0.size
    have hcc : (w.alloc (.cells #[.bool neg, .slice A xs.length c] 24)).cell? ⟨w.heap.size, 0, none⟩ = some (.bool neg) := by go_cell
    have hsz0 : w.heap.size < (w.alloc (.cells #[.bool neg, .slice A xs.length c] 24)).heap.size := by simp
    have hi0 : ((xs.length : Int) == 0) = false := beq_false_of_ne (by omega)
    go_enter Tryd.func43, Tryd.ntmps43
    go_wp2_with fail
    have HW : Hid (∃ wb, (w.alloc (.cells #[.bool neg, .slice A xs.length c] 24)) = wb) := ⟨_, rfl⟩
    obtain ⟨wb, hwb⟩ := HW.out
    rw [hwb] at hb0 hsx hcc hsz0 ⊢
    clear HW hwb hx
    obtain ⟨B, hB⟩ : ∃ B, wb.heap.size = B := ⟨_, rfl⟩
    have HB := Lib.hid hB
    rw [hB] at hsx hsz0
    clear hB
    go_loopg [3, 4] (val W32 xs) (fun m pv lv wr => ∃ (V : Option Addr) (ks gs : List Nat) (c : Nat), lv = .slice V ks.length c ∧ ks.length ≤ xs.length ∧ Sl .u32 wr wr.heap.size V ks ∧ Dig W32 ks ∧ Norm ks ∧ wr.ownsRow B 54 1 pv gs.length (gs.map fun n : Nat => Value.int .u32 n) ∧ Dig T9 gs ∧
      (val T9 gs + T9 ^ gs.length * val W32 ks = val W32 xs) ∧ Below w.heap.size w wr ∧ wr.cell? ⟨w.heap.size, 0, none⟩ = some (.bool neg) ∧ val W32 ks ≤ m ∧ B ≤ wr.heap.size ∧ gs.length ≤ 2 * xs.length)
    case atStart => exact ⟨A, xs, [], c, rfl, Nat.le_refl _, by rw [HB.out]; exact hsx, dx, nx, World.ownsRow_nil _ _ _ _, Dig.nil _, by simp [val], hb0, hcc, Nat.le_refl _, Nat.le_of_eq HB.out.symm, Nat.zero_le _⟩
    case round =>
      obtain ⟨V, ks, gs, c, rfl, hkx, hs, hkd, hkn, hown, hgd, he, hbw, cr, hm, hBr, hgl⟩ := hrel
      have HE := Lib.hid he
      have HM := Lib.hid hm
      clear hm
      rcases Nat.eq_zero_or_pos ks.length with hk0 | hk0
      · have hks : ks = [] := List.eq_nil_of_length_eq_zero hk0
        subst hks
        have hgn : 0 < gs.length := by
          rcases Nat.eq_zero_or_pos gs.length with h | h
          · have h1 := HE.out
            rw [List.eq_nil_of_length_eq_zero h] at h1
            exact absurd h1.symm (by simpa [val] using HX0.out)
          · exact h
        obtain ⟨gg, gcap, grest, rfl, hgrow, hgB, hgc, hgm⟩ := own_form hown hgn
        have hlt0 : w.heap.size < wr.heap.size := by omega
        obtain ⟨wo, rfl⟩ : ∃ wo : World, wo = wr := ⟨_, rfl⟩
        obtain ⟨D, hD⟩ : ∃ D, wo.heap.size = D := ⟨_, rfl⟩
        have HD := Lib.hid hD
        have hgD : gg < D := by rw [← hD]; exact hgrow.lt
        rw [hD] at hlt0
        have hVg : val T9 gs = val W32 xs := by have h1 := HE.out; simpa [val] using h1
        have HVG := Lib.hid hVg
        clear hD hVg he HE HM hs hkd hkn hk0 hkx
        go_wp2_with fail
        go_loopg [7, 8] gs.length (fun h ov iv wr => ∃ (i : Nat) (ds : List Nat), iv = .int .i64 i ∧ i + h = gs.length ∧ wr.ownsRow D 5 1 ov ds.length ((chars ds).map fun n : Nat => Value.int .u8 n) ∧ Dig 10 ds ∧ ds.length = 9 * i ∧ val 10 ds = val T9 (gs.take i) ∧ Below D wo wr)
        case atStart => exact ⟨0, [], rfl, by omega, World.ownsRow_nil _ _ _ _, Dig.nil _, rfl, by simp [val], Below.refl _ _⟩
        case round =>
          obtain ⟨i, ds, rfl, hig, hod, hdd, hdl, hdv, hbd⟩ := hrel
          have HDL := Lib.hid hdl
          have HDV := Lib.hid hdv
          have HIG := Lib.hid hig
          cases gk with
          | zero =>
            obtain rfl : i = gs.length := by omega
            rw [List.take_length, HVG.out] at hdv
            have hdn : 0 < ds.length := by omega
            have hdb : ds.length ≤ 2000000 := by omega
            have hod' : wr.ownsRow D 5 1 u7 (chars ds).length ((chars ds).map fun n : Nat => Value.int .u8 n) := by rw [chars_len]; exact hod
            obtain ⟨g, cap, rest, rfl, hrow, hgD2, hcp, hcm⟩ := own_form hod' (by rw [chars_len]; exact hdn)
            rw [chars_len] at hod' hcp ⊢
            have hdne : ds ≠ [] := by intro e; rw [e] at hdn; simp at hdn
            have hcw : wr.cell? ⟨w.heap.size, 0, none⟩ = some (.bool neg) := (hbd.cell (p := ⟨w.heap.size, 0, none⟩) hlt0).trans cr
            have hDw := hbd.size
            rw [HD.out] at hDw
            have hbel : Below w.heap.size w wr := hbw.trans (hbd.mono (by omega))
            have HOD := Lib.hid hod'
            have HBE := Lib.hid hbel
            obtain ⟨wp, rfl⟩ : ∃ wp : World, wp = wr := ⟨_, rfl⟩
            clear hod hod' hbel hbd hdl HDL hig HIG HDV cr hbw hown hgrow hgd
            go_wp2_with fail
            go_loop [7] (fun ov => ∃ k : Nat, 0 < k ∧ k ≤ ds.length ∧ ov = .slice (some ⟨g, 0, none⟩) k cap ∧ Hid (val 10 (ds.take k) = val W32 xs)) (fun ov => match ov with | .slice _ n _ => n | _ => 0)
            case atStart => exact ⟨ds.length, hdn, Nat.le_refl _, rfl, by rw [List.take_length]; exact hdv⟩
            case round =>
              obtain ⟨k, hk0, hkl, rfl, hv⟩ := hrel
              obtain ⟨j, hj⟩ : ∃ j, k = j + 1 := ⟨k - 1, by omega⟩
              have hjl : j < ds.length := by omega
              have gc := hrow.cell (i := j) (by rw [chars_len]; exact hjl)
              have hcj : (chars ds)[j]'(by rw [chars_len]; exact hjl) = 48 + ds[j] := by unfold chars; rw [List.getElem_map]
              rw [hcj] at gc
              have hdj := hdd.get hjl
              have hj1 : (k : Int) - 1 = (j : Int) := by omega
              have hj2 : (j : Int) < (k : Int) := by omega
              have hj3 : j < k := by omega
              have HJ := Lib.hid hj
              by_cases hz : ds[j] = 0
              · have hv2 := val_take_zero hjl hz
                have hj0 : 0 < j := by
                  rcases Nat.eq_zero_or_pos j with h | h
                  · exfalso
                    have := hv.out
                    rw [hj, hv2, h] at this
                    exact HX0.out (by simpa [val] using this.symm)
                  · exact h
                have gc' : wp.cell? ⟨g, j, none⟩ = some (.int .u8 48) := by rw [gc, hz]; rfl
                have HV2 := Lib.hid hv2
                clear hv2 hz hcj gc hj
                go_wp2_with fail
                go_round
                case rel => exact ⟨j, hj0, by omega, by simp, by have h := hv.out; rw [HJ.out, HV2.out] at h; exact h⟩
                case measure => simp; omega
              · have hnn : Norm (ds.take k) := norm_take hkl hk0 (by
                  have : ds[k - 1]'(by omega) = ds[j] := by congr 1; omega
                  rw [this]; exact hz)
                have hnz : ((48 + ds[j] : Nat) : Int) ≠ 48 := by omega
                have hde : ds.take k ≠ [] := fun h => by have := congrArg List.length h; rw [List.length_take, Nat.min_eq_left hkl, List.length_nil] at this; omega
                have hdk : Dig 10 (ds.take k) := hdd.take k
                have hkt : (ds.take k).length = k := by rw [List.length_take]; omega
                obtain ⟨es, hes⟩ : ∃ es, ds.take k = es := ⟨_, rfl⟩
                have howk := own_take HOD.out hkl
                rw [← List.map_take, chars_take, hes] at howk
                rw [hes] at hnn hde hdk hkt hv
                obtain ⟨q, hq⟩ : ∃ q, 48 + ds[j] = q := ⟨_, rfl⟩
                rw [hq] at gc hnz
                have HES := Lib.hid hnn
                have HEV := hv
                have HOK := Lib.hid howk
                have HKT := Lib.hid hkt
                clear hnn howk hkt hes hq hz hcj hv hdj hrow hj
                have hcl : (chars es).length = k := by rw [chars_len]; exact HKT.out
                have hz256 := chars_256 hdk
                have hkb : k ≤ 2000000 := by omega
                have HTX0 : Hid (∀ b : Bool, Bytes (chars es ++ (if b then [45] else [])).reverse = ⟨((if b then [45] else []) ++ Lib.decDigits (val W32 xs)).toArray⟩) := Lib.hid (fun b => by rw [bytes_text b hde hdk HES.out, HEV.out])
                obtain ⟨cs, hcs⟩ : ∃ cs, chars es = cs := ⟨_, rfl⟩
                rw [hcs] at HOK hcl hz256 HTX0
                have HCL := Lib.hid hcl
                have H256 := Lib.hid hz256
                clear hcl hz256 hde hdk HES HEV hcs
                rcases neg with _ | _
                · obtain ⟨rest2, hr2, hg2⟩ := RowV.of_own (w := wp) (g := g) (c := cap) (xs := cs) (k := .u8) (base := D) (e := 5) (by rw [HCL.out]; exact HOK.out)
                  have HR2 := Lib.hid hr2
                  have HG2 : Hid (w.heap.size ≤ g) := Lib.hid (by omega)
                  have HTX : Hid (Ending.returned (Value.string (Bytes cs.reverse)) = Ending.returned (Value.string ⟨((if false then [45] else []) ++ Lib.decDigits (val W32 xs)).toArray⟩)) := Lib.hid (by have := HTX0.out false; simp only [Bool.false_eq_true, if_false, List.append_nil] at this ⊢; rw [this])
                  have HBP := HBE
                  have HZ256 := H256
                  have HZN := HCL
                  obtain ⟨n, hn⟩ : ∃ n, k = n := ⟨_, rfl⟩
                  rw [hn] at HZN ⊢
                  have HN : Hid (n ≤ 2000001) := Lib.hid (by omega)
                  obtain ⟨g2, hgg⟩ : ∃ g2, g = g2 := ⟨_, rfl⟩
                  obtain ⟨cap2, hcc2⟩ : ∃ cap2, cap = cap2 := ⟨_, rfl⟩
                  rw [hgg] at HR2 HG2 gc ⊢
                  rw [hcc2] at ⊢
                  rw [hn] at hj1 hj2
                  clear hn hr2 hg2 hgg hcc2 HOK HTX0 HBE H256 HCL HOD hkl hk0 hkb HJ HKT hj3
                  go_wp2_with fail
                  clear hj1 hj2 gc
                  have hTS := Turned.start cs
                  have hnb : n ≤ 2000001 := by have := HN.out; omega
                  go_loopw [11] (fun iv wx => ∃ (i : Nat) (ms : List Nat), iv = .int .i64 i ∧ 2 * i ≤ n ∧ Turned cs ms i ∧ RowV .u8 wx g2 5 ms rest2 ∧ Upd g2 wp wx) (fun iv _ => n - (intOf iv).toNat)
                  case atStart => exact ⟨0, cs, rfl, by omega, hTS, HR2.out, Upd.refl _ _⟩
                  case round =>
                    obtain ⟨i, ms, rfl, hi2, ht, hrw, hu⟩ := hrel
                    by_cases hlt : 2 * i + 1 < n
                    · have hzn : cs.length = n := HZN.out
                      have hml := ht.len
                      have h1 : i < ms.length := by omega
                      obtain ⟨j, hj⟩ : ∃ j, cs.length - 1 - i = j := ⟨_, rfl⟩
                      have h2 : j < ms.length := by omega
                      have hst := ht.step' (by omega) hj h1 h2
                      have gc := hrw.cell h1
                      have gd := hrw.cell h2
                      have gf := hrw.frozen i
                      have ge := hrw.frozen j
                      have hr1 := (hrw.set_ (n := ms[j]) h1).set_ (i := j) (n := ms[i]) (by simpa using h2)
                      have hji : (n : Int) - 1 - (i : Int) = (j : Int) := by omega
                      have hjk : (2 : Int) * (i : Int) < (n : Int) - 1 := by omega
                      have hjn : (j : Int) < (n : Int) := by omega
                      have hkn : (i : Int) < (n : Int) := by omega
                      have hjn' : j < n := by omega
                      have hkn' : i < n := by omega
                      have hij : i ≠ j := by omega
                      have HST := Lib.hid hst
                      have HR := Lib.hid hr1
                      have HI := Lib.hid hlt
                      generalize ms[i] = a at *
                      generalize ms[j] = b at *
                      clear hst hr1 hj hml ht hrw h1 h2 hzn hlt
                      go_wp2
                      go_roundw
                      case rel => exact ⟨i + 1, _, by go_num, by have := HI.out; omega, HST.out, HR.out, (hu.setCell _ _).setCell _ _⟩
                      case measure => simp [intOf]; omega
                    · have hzn : cs.length = n := HZN.out
                      have hms : ms = cs.reverse := ht.done (by omega)
                      have hrl : cs.reverse.length = n := by rw [List.length_reverse]; exact hzn
                      rw [hms] at hrw
                      have hcv := run_bytes wr g2 cap2 cs.reverse rest2 hrw (fun z hz => HZ256.out z (List.mem_reverse.1 hz))
                      rw [hrl] at hcv
                      have hjk : ¬ (2 : Int) * (i : Int) < (n : Int) - 1 := by omega
                      clear hms hrl ht hrw hlt
                      go_wp2_with fail
                      go_ret
                      exact ⟨by first | exact HTX.out | (have h := HTX.out; simp at h; exact congrArg Ending.returned (congrArg Value.string (by simpa using h))) | (have h := HTX.out; simpa using h), HBP.out.trans (hu.below HG2.out)⟩
                · have hDw2 : D ≤ wp.heap.size := hDw
                  have hHOK := HOK.out
                  go_wp2_with (at_builtin; refine wpList_append_own _ rfl (.tmp 69) (.tmp 70) 86 rfl D 5 j0 (.int .u8 0) 1 1 Tryd.underlying86 hj hy0 hy1 hy2 rfl (by decide) _ _ _ rfl (hHOK.alloc _) ⟨wp.heap.size, 0, none⟩ 1 1 [.int .u8 ((45 : Nat) : Int)] rfl rfl (by intro j u hj; match j, hj with | 0, hj => simp at hj; subst hj; simp [Addr.add]) (by intro u hu; simp at hu; subst hu; rfl) (by unfold maxLen; omega) (by omega) (by simp; omega) ?_
                               intro v' w3 hown3 hgrow3 _
                               obtain ⟨g2, cap2, rest2, rfl, hr2, hg2, hc2, _⟩ := own_form (w := w3) (B := D) (e := 5) (v := v') (k := .u8) (gs := cs ++ [45]) (by rw [List.length_append, HCL.out, List.map_append]; exact hown3) (by simp)
                               have HZN0 : Hid ((cs ++ [45]).length = k + 1) := Lib.hid (by rw [List.length_append, HCL.out]; rfl)
                               rw [HZN0.out] at hc2 ⊢
                               have HBP : Hid (Below w.heap.size w w3) := Lib.hid (HBE.out.trans (((Below.refl D wp).alloc (by omega) _ : Below D wp (wp.alloc _)).grown hgrow3 (by simp; omega) (fun q hq => (hHOK.lt q hq).1) |>.mono (by omega)))
                               have HR2 := Lib.hid hr2
                               have HG2 : Hid (w.heap.size ≤ g2) := Lib.hid (by omega)
                               have HZ256 : Hid (∀ z ∈ cs ++ [45], z < 256) := Lib.hid (fun z hz => by
                                 rcases List.mem_append.1 hz with h | h
                                 · exact H256.out z h
                                 · simp at h; omega)
                               have HTX : Hid (Ending.returned (Value.string (Bytes (cs ++ [45]).reverse)) = Ending.returned (Value.string ⟨((if true then [45] else []) ++ Lib.decDigits (val W32 xs)).toArray⟩)) := Lib.hid (by have := HTX0.out true; simp only [if_true] at this ⊢; rw [this])
                               obtain ⟨n, hn⟩ : ∃ n, k + 1 = n := ⟨_, rfl⟩
                               rw [hn] at HZN0 hc2 ⊢
                               have HZN := HZN0
                               have HN : Hid (n ≤ 2000001) := Lib.hid (by omega)
                               clear hn hr2 hg2 hown3 hgrow3 hj1 hj2 gc)
                  have hTS := Turned.start (cs ++ [45])
                  have hnb : n ≤ 2000001 := by have := HN.out; omega
                  go_loopw [11] (fun iv wx => ∃ (i : Nat) (ms : List Nat), iv = .int .i64 i ∧ 2 * i ≤ n ∧ Turned (cs ++ [45]) ms i ∧ RowV .u8 wx g2 5 ms rest2 ∧ Upd g2 w3 wx) (fun iv _ => n - (intOf iv).toNat)
                  case atStart => exact ⟨0, cs ++ [45], rfl, by omega, hTS, HR2.out, Upd.refl _ _⟩
                  case round =>
                    obtain ⟨i, ms, rfl, hi2, ht, hrw, hu⟩ := hrel
                    by_cases hlt : 2 * i + 1 < n
                    · have hzn : (cs ++ [45]).length = n := HZN.out
                      have hml := ht.len
                      have h1 : i < ms.length := by omega
                      obtain ⟨j, hj⟩ : ∃ j, (cs ++ [45]).length - 1 - i = j := ⟨_, rfl⟩
                      have h2 : j < ms.length := by omega
                      have hst := ht.step' (by omega) hj h1 h2
                      have gc := hrw.cell h1
                      have gd := hrw.cell h2
                      have gf := hrw.frozen i
                      have ge := hrw.frozen j
                      have hr1 := (hrw.set_ (n := ms[j]) h1).set_ (i := j) (n := ms[i]) (by simpa using h2)
                      have hji : (n : Int) - 1 - (i : Int) = (j : Int) := by omega
                      have hjk : (2 : Int) * (i : Int) < (n : Int) - 1 := by omega
                      have hjn : (j : Int) < (n : Int) := by omega
                      have hkn : (i : Int) < (n : Int) := by omega
                      have hjn' : j < n := by omega
                      have hkn' : i < n := by omega
                      have hij : i ≠ j := by omega
                      have HST := Lib.hid hst
                      have HR := Lib.hid hr1
                      have HI := Lib.hid hlt
                      generalize ms[i] = a at *
                      generalize ms[j] = b at *
                      clear hst hr1 hj hml ht hrw h1 h2 hzn hlt
                      go_wp2
                      go_roundw
                      case rel => exact ⟨i + 1, _, by go_num, by have := HI.out; omega, HST.out, HR.out, (hu.setCell _ _).setCell _ _⟩
                      case measure => simp [intOf]; omega
                    · have hzn : (cs ++ [45]).length = n := HZN.out
                      have hms : ms = (cs ++ [45]).reverse := ht.done (by omega)
                      have hrl : (cs ++ [45]).reverse.length = n := by rw [List.length_reverse]; exact hzn
                      rw [hms] at hrw
                      have hcv := run_bytes wr g2 cap2 (cs ++ [45]).reverse rest2 hrw (fun z hz => HZ256.out z (List.mem_reverse.1 hz))
                      rw [hrl] at hcv
                      have hjk : ¬ (2 : Int) * (i : Int) < (n : Int) - 1 := by omega
                      clear hms hrl ht hrw hlt
                      go_wp2_with fail
                      go_ret
                      exact ⟨by first | exact HTX.out | (have h := HTX.out; simp at h; exact congrArg Ending.returned (congrArg Value.string (by simpa using h))) | (have h := HTX.out; simpa using h), HBP.out.trans (hu.below HG2.out)⟩
          | succ h1 =>
            have hilt : i < gs.length := by omega
            have hii : (i : Int) < (gs.length : Int) := by omega
            have gc := (hgrow.below hbd hgD).cell hilt
            have hpd := hgd.get hilt
            have hts := val_take_succ T9 hilt
            have hstart : val 10 ds + 10 ^ (9 * i + 0) * gs[i] = val T9 (gs.take (i + 1)) := by rw [Nat.add_zero, hdv, val10_pow, hts]
            have HTS := Lib.hid hstart
            generalize gs[i] = p0 at *
            have hp0 : p0 < 10 ^ 9 := hpd
            clear hpd hts hstart hdl hdv hig
            go_wp2_with fail
            go_loopg [7, 9, 10] 9 (fun h ov pv kv wx => ∃ (k p : Nat) (es : List Nat), kv = .int .i64 k ∧ k + h = 9 ∧ pv = .int .u32 p ∧ p < 10 ^ h ∧ wx.ownsRow D 5 1 ov es.length ((chars es).map fun n : Nat => Value.int .u8 n) ∧ Dig 10 es ∧ es.length = 9 * i + k ∧ val 10 es + 10 ^ (9 * i + k) * p = val T9 (gs.take (i + 1)) ∧ Below D wo wx)
            case atStart => exact ⟨0, p0, ds, rfl, rfl, rfl, hp0, hod, hdd, HDL.out, HTS.out, hbd⟩
            case round =>
              obtain ⟨k, p, es, rfl, hkh, rfl, hp, hoe, hed, hel, hev, hbe⟩ := hrel
              have HEL := Lib.hid hel
              have HEV := Lib.hid hev
              have HK := Lib.hid hkh
              have HP := Lib.hid hp
              cases gk with
              | zero =>
                obtain rfl : k = 9 := by omega
                have hp1 : p = 0 := by simpa using hp
                clear hkh HK hel hev hp
                go_wp2_with fail
                go_roundg h1
                case measure => omega
                case rel =>
                  refine ⟨i + 1, es, by go_num, by have := HIG.out; omega, hoe, hed, by have := HEL.out; omega, ?_, hbe⟩
                  have h2 := HEV.out
                  rw [hp1, Nat.mul_zero, Nat.add_zero] at h2
                  exact h2
              | succ h2 =>
                have hk9 : (k : Int) < 9 := by omega
                have hpb : p < 1000000000 := Nat.lt_of_lt_of_le hp (show 10 ^ (h2 + 1) ≤ 10 ^ 9 from Nat.pow_le_pow_right (by omega) (by omega))
                have hst := dig_step HEL.out HEV.out
                have hp2 : p / 10 < 10 ^ h2 := by rw [Nat.pow_succ] at hp; omega
                have hR10 : p % 10 < 10 := Nat.mod_lt _ (by decide)
                obtain ⟨R, hR⟩ : ∃ R, p % 10 = R := ⟨_, rfl⟩
                obtain ⟨Q, hQ⟩ : ∃ Q, p / 10 = Q := ⟨_, rfl⟩
                have hi1 : (p : Int) % 10 = (R : Int) := by omega
                have hi2 : (p : Int) / 10 = (Q : Int) := by omega
                rw [hR, hQ] at hst
                rw [hQ] at hp2
                rw [hR] at hR10
                have hel2 : es.length + 1 ≤ 1000000000 := by have := HEL.out; omega
                have HST := Lib.hid hst
                have HP2 := Lib.hid hp2
                have hDx := hbe.size
                rw [HD.out] at hDx
                clear hst hp2 hp hel hev hkh hR hQ
                go_wp2_with (at_builtin; refine wpList_append_own _ rfl (.tmp 46) (.tmp 51) 86 rfl D 5 j0 (.int .u8 0) 1 1 Tryd.underlying86 hj hy0 hy1 hy2 rfl (by decide) _ _ _ rfl (hoe.alloc _) ⟨wr.heap.size, 0, none⟩ 1 1 [.int .u8 ((48 + R : Nat) : Int)] rfl rfl (by intro j u hj; match j, hj with | 0, hj => simp at hj; subst hj; simp [Addr.add]) (by intro u hu; simp at hu; subst hu; rfl) (by unfold maxLen; omega) (by omega) (by simp; omega) ?_
                             intro v' w3 hown3 hgrow3 _)
                have hbel3 : Below D wo w3 := (hbe.alloc (by omega) _).grown hgrow3 (by simp; omega) (fun q hq => (hoe.lt q hq).1)
                have HB3 := Lib.hid hbel3
                have HO3 := Lib.hid hown3
                clear hbel3 hown3 hgrow3
                go_wp2_with fail
                go_roundg h2
                case measure => have := HK.out; omega
                case rel => exact ⟨k + 1, Q, es ++ [R], by go_num, by have := HK.out; omega, by first | rfl | exact congrArg _ hi2, HP2.out, by rw [List.length_append, chars_snoc, List.map_append]; exact HO3.out, dig_snoc hed hR10, by have := HEL.out; simp; omega, HST.out, HB3.out⟩
      · have hV0 : val W32 ks ≠ 0 := fun h => by rw [(norm_zero (by decide) hkn).1 h] at hk0; simp at hk0
        have hg2 := t9_len he hV0 HX.out
        have hst := t9_step HE.out
        have hsh := short_new V ks c T9 wr hs hkd T9_pos T9_W (by omega)
        have hRlt : val W32 ks % T9 < T9 := Nat.mod_lt _ T9_pos
        have hlt : val W32 ks / T9 < val W32 ks := Nat.div_lt_self (Nat.pos_of_ne_zero hV0) (by decide)
        obtain ⟨R, hR⟩ : ∃ R, val W32 ks % T9 = R := ⟨_, rfl⟩
        rw [hR] at hsh hst hRlt
        have HSH := Lib.hid hsh
        have HST := Lib.hid hst
        have HLT := Lib.hid hlt
        have hgdR : Dig T9 (gs ++ [R]) := dig_snoc hgd hRlt
        have T9i : ((T9 : Nat) : Int) = 1000000000 := rfl
        rw [T9i] at HSH
        clear hsh hst hlt hR hRlt hV0 he T9i hs
        have hki : (ks.length : Int) > 0 := by omega
        go_wp2_with fail
        refine (HSH.out).mono ?_
        rintro e w2 ⟨zs, c', rfl, q1, q2, q3, q4, q5, q7⟩
        have hown2 := own_below hown q7 (Nat.le_refl _)
        have hB2 : B ≤ w2.heap.size := Nat.le_trans hBr q7.size
        have hb2 : Below w.heap.size w w2 := hbw.trans (q7.mono (by omega))
        have cr2 : w2.cell? ⟨w.heap.size, 0, none⟩ = some (.bool neg) := (q7.cell (p := ⟨w.heap.size, 0, none⟩) (by show w.heap.size < _; omega)).trans cr
        have HQ4 := Lib.hid q4
        clear q7 q4 cr hbw
        go_wp2_with (at_builtin; refine wpList_append_own _ rfl (.tmp 27) (.tmp 29) 22 rfl B 54 i0 (.int .u32 0) 1 4 Tryd.underlying22 hi hz0 hz1 hz2 rfl (by decide) _ _ _ rfl (hown2.alloc _) ⟨w2.heap.size, 0, none⟩ 1 1 [.int .u32 (R : Nat)] rfl rfl (by intro j u hj; match j, hj with | 0, hj => simp at hj; subst hj; simp [Addr.add]) (by intro u hu; simp at hu; subst hu; rfl) (by unfold maxLen; omega) (by omega) (by simp; omega) ?_
                     intro v' w3 hown3 hgrow3 _)
        have hbel3 : Below w.heap.size w w3 := (hb2.alloc (by omega) _).grown hgrow3 (by simp; omega) (fun q hq => Nat.le_trans (by omega) (hown2.lt q hq).1)
        have hbel3' : Below B w2 w3 := ((Below.refl B w2).alloc (by omega) _ : Below B w2 (w2.alloc _)).grown hgrow3 (by simp; omega) (fun q hq => (hown2.lt q hq).1)
        have hgs := hgrow3.size
        simp at hgs
        have hs3 : Sl .u32 w3 w3.heap.size (some ⟨wr.heap.size, 0, none⟩) zs := by
          intro hn
          obtain ⟨ad, e, hb, hc⟩ := q1 hn
          injection e with e
          subst e
          have hb' : wr.heap.size < w2.heap.size := hb
          refine ⟨_, rfl, by show wr.heap.size < w3.heap.size; omega, fun j hj => ?_⟩
          rw [← hc j hj]
          refine World.cell?_of_block (w := w2) ?_
          rw [block_of_add]
          refine (hgrow3.block wr.heap.size (by simp; omega) (fun h => ?_)).trans (Below.heap_alloc _ _ _ hb')
          have := (hown.lt _ h.symm).2
          omega
        have cr3 : w3.cell? ⟨w.heap.size, 0, none⟩ = some (.bool neg) := (hbel3'.cell (p := ⟨w.heap.size, 0, none⟩) hsz0).trans cr2
        have HO3 := Lib.hid hown3
        have HB3 := Lib.hid hbel3
        clear hown3 hgrow3 hbel3 q1 hown
        go_wp2_with fail
        go_roundg (val W32 zs)
        case measure => have h1 := HM.out; have h2 := HLT.out; have h3 := HQ4.out; omega
        case rel => exact ⟨_, zs, gs ++ [R], c', rfl, by omega, hs3, q2, q3, by rw [List.length_append, List.map_append]; exact HO3.out, hgdR, by rw [HQ4.out]; exact HST.out, HB3.out, cr3, Nat.le_refl _, by omega, by simp; omega⟩
end Go.Proofs.YtiofglgpgjnonaaDoor
