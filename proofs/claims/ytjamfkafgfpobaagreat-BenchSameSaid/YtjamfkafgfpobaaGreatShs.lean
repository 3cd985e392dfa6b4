/-
  Words that are shifted, a product taken from a list, the guess of a quotient's word: what large.shiftUp, shiftDown, takeTimes and guess return. Conditions: that the lists are lists of words, and that memory holds what comes of them.
-/
import Derived.Test.YtjamfkafgfpobaaGreatDivq2
import Derived.Test.YtjamfkafgfpobaaGreatNums
import Derived.Test.YtjamfkafgfpobaaGreatProd2
/-! ### Shf -/
namespace Go.Proofs.YtjamfkafgfpobaaGreat
open Go.RowKit Nb
theorem w64_split {p : Nat} (hp : p ≤ 64) : W64 = 2 ^ (64 - p) * 2 ^ p := by rw [← Nat.pow_add, show 64 - p + p = 64 by omega]
theorem shl_parts (x : Nat) {p : Nat} (hp : p ≤ 64) : x * 2 ^ p % W64 + W64 * (x / 2 ^ (64 - p)) = x * 2 ^ p := by
  have h : x * 2 ^ p / W64 = x / 2 ^ (64 - p) := by
    rw [w64_split hp, Nat.mul_div_mul_right _ _ (Nat.pow_pos (by decide))]
  rw [← h]; exact Nat.mod_add_div _ _
theorem shl_low (x : Nat) {p : Nat} (hp : p ≤ 64) : x * 2 ^ p % W64 % 2 ^ p = 0 := by
  rw [w64_split hp, Nat.mul_mod_mul_right]; exact Nat.mul_mod_left _ _
theorem shr_small {x p : Nat} (hp : p ≤ 64) (hx : x < W64) : x / 2 ^ (64 - p) < 2 ^ p := by
  refine (Nat.div_lt_iff_lt_mul (Nat.pow_pos (by decide))).2 ?_
  rw [Nat.mul_comm, ← w64_split hp]; exact hx
theorem pow_le64 {p : Nat} (hp : p ≤ 64) : 2 ^ p ≤ W64 := by
  rw [show W64 = 2 ^ 64 from by decide]
  exact Nat.pow_le_pow_right (by decide) hp
/-- What the word below hands up, and the lower part of a shifted word: no binary digit stands in both. -/
theorem or_up {t x p : Nat} (hp : p ≤ 64) (ht : t < 2 ^ p) : bits .or .u64 (t : Int) ((x * 2 ^ p % W64 : Nat) : Int) = ((t + x * 2 ^ p % W64 : Nat) : Int) ∧ t + x * 2 ^ p % W64 < W64 := by
  have htW : t < W64 := Nat.lt_of_lt_of_le ht (pow_le64 hp)
  have hm : x * 2 ^ p % W64 < W64 := Nat.mod_lt _ (by decide)
  have h1 := u64_or_nat t (x * 2 ^ p % W64) htW hm
  have h2 := nat_join p (x * 2 ^ p % W64) t (shl_low x hp) ht
  have h3 := or_lt htW hm
  rw [Nat.or_comm, h2, Nat.add_comm] at h1 h3
  exact ⟨h1, h3⟩
/-! ### Upward -/
theorem up_step {V k t x p : Nat} {ds : List Nat} (hp : p ≤ 64) (hl : ds.length = k) (h : val W64 ds + W64 ^ k * t = V * 2 ^ p) :
    val W64 (ds ++ [t + x * 2 ^ p % W64]) + W64 ^ (k + 1) * (x / 2 ^ (64 - p)) = (V + W64 ^ k * x) * 2 ^ p := by
  have e := shl_parts x hp
  generalize x * 2 ^ p % W64 = lo at *
  generalize x / 2 ^ (64 - p) = hi at *
  rw [val_snoc, hl, Nat.add_mul, ← h, Nat.mul_assoc (W64 ^ k) x, ← e, Nat.mul_add, Nat.mul_add, Nat.pow_succ, Nat.mul_assoc]
  omega
/-! ### Downward -/
theorem down_top {p k V : Nat} {es : List Nat} {t : Nat} (hp : p ≤ 64) (hl : es.length = k) (hV : V < W64 ^ (k + 1)) (h : val W64 (es ++ [t]) = V / 2 ^ p) : t < 2 ^ (64 - p) := by
  rw [val_snoc, hl] at h
  have h1 : V / 2 ^ p < W64 ^ k * 2 ^ (64 - p) := by
    refine (Nat.div_lt_iff_lt_mul (Nat.pow_pos (by decide))).2 ?_
    rw [Nat.mul_assoc, ← w64_split hp, ← Nat.pow_succ]; exact hV
  have h2 : W64 ^ k * t < W64 ^ k * 2 ^ (64 - p) := by omega
  exact Nat.lt_of_mul_lt_mul_left h2
theorem down_split {p k V x : Nat} (hp : p ≤ 64) : (V + W64 ^ (k + 1) * x) / 2 ^ p = V / 2 ^ p + W64 ^ k * (x * 2 ^ (64 - p)) := by
  have e : W64 ^ (k + 1) * x = 2 ^ p * (W64 ^ k * (x * 2 ^ (64 - p))) := by
    have h := w64_split hp
    rw [Nat.pow_succ]
    generalize W64 ^ k = Q at *
    rw [h]
    grind
  rw [e, Nat.add_mul_div_left _ _ (Nat.pow_pos (by decide))]
theorem down_step {p k V x t : Nat} {es : List Nat} (hp : p ≤ 64) (hl : es.length = k) (h : val W64 (es ++ [t]) = V / 2 ^ p) :
    val W64 ((es ++ [t + x * 2 ^ (64 - p) % W64]) ++ [x / 2 ^ p]) = (V + W64 ^ (k + 1) * x) / 2 ^ p := by
  have e := shl_parts x (p := 64 - p) (by omega)
  rw [show 64 - (64 - p) = p by omega] at e
  rw [down_split hp, ← h]
  generalize x * 2 ^ (64 - p) % W64 = lo at *
  generalize x / 2 ^ p = hi at *
  rw [← e, val_snoc, val_snoc, val_snoc, List.length_append, hl, Nat.mul_add, Nat.mul_add, List.length_singleton, Nat.pow_succ, Nat.mul_assoc]
  omega
/-! ### What a product leaves -/
theorem take_word {l h T l' c z v m x w : Nat} (h1 : l + W64 * h = x * w) (h2 : l' + W64 * c = l + T + 0) (h3 : v + l' + 0 = z + W64 * m) : v + (x * w + T) + 0 = z + W64 * (h + c + m) := by
  rw [Nat.mul_add, Nat.mul_add]; omega
theorem take_small {T z v x w K : Nat} (hx : x < W64) (hw : w < W64) (hT : T < W64) (hv : v < W64) (h : v + (x * w + T) + 0 = z + W64 * K) : K < W64 := by
  have h1 : x * w ≤ (W64 - 1) * (W64 - 1) := Nat.mul_le_mul (by omega) (by omega)
  have h2 : (W64 - 1) * (W64 - 1) + (W64 - 1) + (W64 - 1) < W64 * W64 := by decide
  refine Nat.lt_of_mul_lt_mul_left (a := W64) ?_
  omega
theorem take_step {k T T' v z x w Y Z : Nat} {ds : List Nat} (h : val W64 ds + Y * w = Z + W64 ^ k * T) (hl : ds.length = k) (hv : v + (x * w + T) + 0 = z + W64 * T') :
    val W64 (ds ++ [v]) + (Y + W64 ^ k * x) * w = (Z + W64 ^ k * z) + W64 ^ (k + 1) * T' := by
  rw [val_snoc, hl, Nat.pow_succ]
  have h2 : W64 ^ k * (v + (x * w + T) + 0) = W64 ^ k * (z + W64 * T') := by rw [hv]
  rw [Nat.mul_add, Nat.mul_add, Nat.mul_add, Nat.mul_add, Nat.mul_zero, ← Nat.mul_assoc (W64 ^ k) W64, ← Nat.mul_assoc (W64 ^ k) x] at h2
  rw [Nat.add_mul]
  omega
theorem take_last {n T v z M YW Z : Nat} {ds : List Nat} (h : val W64 ds + YW = Z + W64 ^ n * T) (hl : ds.length = n) (hv : v + T + 0 = z + W64 * M) :
    val W64 (ds ++ [v]) + YW = (Z + W64 ^ n * z) + W64 ^ (n + 1) * M := by
  rw [val_snoc, hl, Nat.pow_succ]
  have h2 : W64 ^ n * (v + T + 0) = W64 ^ n * (z + W64 * M) := by rw [hv]
  rw [Nat.mul_add, Nat.mul_add, Nat.mul_add, Nat.mul_zero, ← Nat.mul_assoc (W64 ^ n) W64] at h2
  omega
/-! ### The guess -/
/-- The three highest digits against the two highest: the guess is not below what is asked. -/
theorem guess_top {ps ys : List Nat} {n a b c e f : Nat} (hp : Dig W64 (ps ++ [c, b, a])) (hl : ps.length = n) (hq : (ys ++ [f, e]).length = n + 2) (he : 0 < e) :
    val W64 (ps ++ [c, b, a]) / val W64 (ys ++ [f, e]) ≤ ((a * W64 + b) * W64 + c) / (e * W64 + f) := by
  have hyl : ys.length = n := by simpa using hq
  have h1 : val W64 (ps ++ [c, b, a]) = ((a * W64 + b) * W64 + c) * W64 ^ n + val W64 ps := by
    rw [val_append, hl]
    simp only [val]
    grind
  have h2 : val W64 (ys ++ [f, e]) = (e * W64 + f) * W64 ^ n + val W64 ys := by
    rw [val_append, hyl]
    simp only [val]
    grind
  rw [h1, h2]
  have h3 := val_lt (dig_left hp)
  rw [hl] at h3
  have hK : 0 < W64 := by decide
  generalize W64 = K at *
  exact guess_ge h3 (Nat.add_pos_left (Nat.mul_pos he hK) _)
end Go.Proofs.YtjamfkafgfpobaaGreat
/-! ### Shu -/
namespace Go.Proofs.YtjamfkafgfpobaaGreat
open Go.RowKit Nb
theorem mid_get (a b c : List Nat) (t : Nat) {i : Nat} (hi : a.length + b.length = i) (h : i < (a ++ ((b ++ [t]) ++ c)).length) : (a ++ ((b ++ [t]) ++ c))[i] = t := by
  subst hi
  have := get_mid a (b ++ [t]) c (k := b.length) (by simp) (by simp)
  rw [this]
  simp
theorem mid_set (a b c : List Nat) (t v : Nat) {i : Nat} (hi : a.length + b.length = i) : (a ++ ((b ++ [t]) ++ c)).set i v = a ++ ((b ++ [v]) ++ c) := by
  subst hi
  rw [set_mid a (b ++ [t]) c v (k := b.length) (by simp), List.set_append_right _ _ (Nat.le_refl _), Nat.sub_self]
  rfl
theorem mid_lt (a b c : List Nat) (t : Nat) {i : Nat} (hi : a.length + b.length = i) : i < (a ++ ((b ++ [t]) ++ c)).length := by
  simp; omega
theorem shr_int (x q : Nat) : (x : Int) / 2 ^ q = ((x / 2 ^ q : Nat) : Int) := by
  rw [Int.natCast_ediv, Int.natCast_pow]; rfl
theorem pow_split (V n : Nat) : W64 ^ (n / 64) * (V * 2 ^ (n % 64)) = V * 2 ^ n := by
  have h : W64 ^ (n / 64) = 2 ^ (64 * (n / 64)) := pow64 _
  rw [h, Nat.mul_left_comm, ← Nat.pow_add, show 64 * (n / 64) + n % 64 = n by omega]
theorem shiftUp_nil (n d : Nat) (A : Option Addr) (w : World) :
    Calls Tryz.prog 150 #[.slice A 0 d, .int .u64 n] w (Words w 0 0) := by
  go_enter Tryz.func150, Tryz.ntmps150
  go_wp2
  go_ret
  exact Words.nil (Below.refl _ _)
set_option maxHeartbeats 1600000 in
theorem shiftUp_pos (A : Option Addr) (xs : List Nat) (c n : Nat) (w : World) (hx : Sl .u64 w w.heap.size A xs) (dx : Dig W64 xs) (hpos : 0 < xs.length) (hn : n < W64)
    (hl : (xs.length + n / 64 + 1) * 8 ≤ 140737488351232) :
    Calls Tryz.prog 150 #[.slice A xs.length c, .int .u64 n] w (Words w (val W64 xs * 2 ^ n) (xs.length + n / 64 + 1)) := by
  have hn0 : ((xs.length : Int) == 0) = false := beq_false_of_ne (by omega)
  have HPS := Lib.hid (pow_split (val W64 xs) n)
  have e1 : (n : Int) / 64 = ((n / 64 : Nat) : Int) := by omega
  have e2 : (n : Int) % 64 = ((n % 64 : Nat) : Int) := by omega
  have hp : n % 64 ≤ 63 := by omega
  have hm : n / 64 ≤ 288230376151711743 := by simp only [W64] at hn; omega
  rw [show val W64 xs * 2 ^ n = W64 ^ (n / 64) * (val W64 xs * 2 ^ (n % 64)) from HPS.out.symm]
  clear HPS
  have hnI : (n : Int) ≤ 18446744073709551615 := by simp only [W64] at hn; omega
  generalize n / 64 = m at *
  generalize n % 64 = p at *
  clear hn
  go_enter Tryz.func150, Tryz.ntmps150
  go_wp2_with (at_make; refine wpList_make_row _ rfl _ _ 70 rfl 160 .u64 8 Tryz.underlying70 info_u64 _ _ _ _ (xs.length + m + 1) rfl rfl (by omega) (by omega) (by omega) (by unfold maxLen; omega) ?_
               intro w1 hrow1 hbel1)
  have hg : w.heap.size < w1.heap.size := hrow1.lt
  go_loopw [26] (fun iv wr => ∃ (k t : Nat) (ds : List Nat), k ≤ xs.length ∧ iv = .int .i64 k ∧ ds.length = k ∧ Dig W64 ds ∧ t < 2 ^ p ∧ val W64 ds + W64 ^ k * t = val W64 (xs.take k) * 2 ^ p ∧
      Row .u64 wr w.heap.size 160 (List.replicate m 0 ++ ((ds ++ [t]) ++ List.replicate (xs.length - k) 0)) ∧ Upd w.heap.size w1 wr) (fun iv _ => xs.length - (intOf iv).toNat)
  case atStart =>
    refine ⟨0, 0, [], Nat.zero_le _, rfl, rfl, Dig.nil _, Nat.pow_pos (by decide), by simp [val], ?_, Upd.refl _ _⟩
    have e : List.replicate m 0 ++ (([] ++ [0]) ++ List.replicate (xs.length - 0) 0) = List.replicate (xs.length + m + 1) 0 := by
      rw [show ([] ++ [0] : List Nat) = List.replicate 1 0 from rfl, List.replicate_append_replicate, List.replicate_append_replicate]
      congr 1; omega
    rw [e]; exact hrow1
  case round =>
    obtain ⟨k, t, ds, hk', rfl, hdl, hdd, ht, he, hrow, hu⟩ := hrel
    have HD := Lib.hid hdl; clear hdl
    have HE := Lib.hid he; clear he
    by_cases hlt : k < xs.length
    · obtain ⟨ad, rfl, hb1, h1⟩ := ((hx.below hbel1).upd hu (Nat.le_refl _)).at_ hlt
      have hxx := dx.get hlt
      have hi1 : (List.replicate m 0).length + ds.length = m + k := by have := HD.out; simp; omega
      rw [replicate_split hlt] at hrow
      have gf := hrow.frozen (m + k)
      have gc := hrow.cell (i := m + k) (mid_lt _ _ _ _ hi1)
      rw [mid_get _ _ _ _ hi1] at gc
      have hst := fun x => up_step (x := x) (p := p) (by omega) HD.out HE.out
      have hty := val_take_succ W64 hlt
      generalize xs[k] = x at *
      have hst' := hst x
      rw [← hty] at hst'
      have eS := wpow x p
      have eR := shr_int x (64 - p)
      have hor := or_up (x := x) (p := p) (by omega) ht
      have hun := shr_small (x := x) (p := p) (by omega) hxx
      obtain ⟨lo, hlo⟩ : ∃ lo, x * 2 ^ p % W64 = lo := ⟨_, rfl⟩
      obtain ⟨u, huu⟩ : ∃ u, x / 2 ^ (64 - p) = u := ⟨_, rfl⟩
      rw [hlo] at eS hor hst'
      rw [huu] at eR hun hst'
      obtain ⟨v, hv⟩ : ∃ v, t + lo = v := ⟨_, rfl⟩
      rw [hv] at hor hst'
      obtain ⟨eO, hvW⟩ := hor
      have r1 := hrow.set_ (m + k) v
      rw [mid_set _ _ _ _ v hi1] at r1
      have hi2 : (List.replicate m 0).length + (ds ++ [v]).length = m + k + 1 := by have := HD.out; simp; omega
      have e3 : List.replicate m 0 ++ ((ds ++ [v]) ++ (0 :: List.replicate (xs.length - (k + 1)) 0)) = List.replicate m 0 ++ (((ds ++ [v]) ++ [0]) ++ List.replicate (xs.length - (k + 1)) 0) := by
        rw [List.append_assoc (ds ++ [v]) [0]]; rfl
      rw [e3] at r1
      have gc2 := r1.cell (i := m + k + 1) (mid_lt _ _ _ _ hi2)
      rw [mid_get _ _ _ _ hi2] at gc2
      have r2 := r1.set_ (m + k + 1) u
      rw [mid_set _ _ _ _ u hi2] at r2
      have HR := Lib.hid r2
      have HS := Lib.hid hst'
      have gf2 := r1.frozen (m + k + 1)
      have hne : (⟨w.heap.size, m + k, none⟩ : Addr) ≠ ⟨w.heap.size, m + k + 1, none⟩ := by intro h; injection h; omega
      rw [World.cell?_setCell_other _ _ _ _ hne] at gc2
      have gc2' : wr.cell? ⟨w.heap.size, m + k + 1, none⟩ = some (.int .u64 (0 : Nat)) := gc2
      clear hst hty hst' r1 r2 hlo huu hv e3 gc2 hi1 hi2 hrow hxx
      have hji : (k : Int) < (xs.length : Int) := by omega
      go_wp2
      go_roundw
      case rel => exact ⟨k + 1, u, ds ++ [v], by omega, by go_num, by have := HD.out; simp; omega, dig_snoc hdd hvW, hun, HS.out, HR.out, (hu.setCell _ _).setCell _ _⟩
      case measure => simp [intOf]; omega
    · obtain rfl : k = xs.length := by omega
      rw [Nat.sub_self, List.replicate_zero, List.append_nil] at hrow
      have hsz : w.heap.size < wr.heap.size := hrow.lt
      have hlen : (List.replicate m 0 ++ (ds ++ [t])).length = xs.length + m + 1 := by have := HD.out; simp; omega
      have hval : val W64 (List.replicate m 0 ++ (ds ++ [t])) = W64 ^ m * (val W64 xs * 2 ^ p) := by
        have h1 := HE.out
        rw [List.take_length] at h1
        rw [val_append, val_replicate, val_snoc, HD.out, h1, List.length_replicate, Nat.zero_add]
      have hdig : Dig W64 (List.replicate m 0 ++ (ds ++ [t])) := (Dig.replicate (by decide) _).append (dig_snoc hdd (Nat.lt_of_lt_of_le ht (pow_le64 (by omega))))
      have hsl := hrow.sl hsz
      have hT := trim_any (some ⟨w.heap.size, 0, none⟩) (List.replicate m 0 ++ (ds ++ [t])) (xs.length + m + 1) wr hsl (by omega) (by unfold maxLen; omega)
      have hln := trimL_len (List.replicate m 0 ++ (ds ++ [t]))
      rw [hlen] at hT hln
      generalize List.replicate m 0 ++ (ds ++ [t]) = L at *
      have HT := Lib.hid hT
      have HV := Lib.hid hval
      have hb4 : Below w.heap.size w wr := hbel1.trans (hu.below (Nat.le_refl _))
      clear hT hval hlen
      go_wp2_with fail
      refine (HT.out).mono ?_
      rintro e w5 ⟨rfl, rfl⟩
      go_wp2_with fail
      go_ret
      exact ⟨_, _, _, rfl, sl_trimL hsl, dig_trimL hdig, norm_trimL _, by rw [val_trimL, HV.out], hln, Nat.le_refl _, hb4⟩
theorem shiftUp_any (A : Option Addr) (xs : List Nat) (c n : Nat) (w : World) (hx : Sl .u64 w w.heap.size A xs) (dx : Dig W64 xs) (hn : n < W64)
    (hl : 0 < xs.length → (xs.length + n / 64 + 1) * 8 ≤ 140737488351232) :
    Calls Tryz.prog 150 #[.slice A xs.length c, .int .u64 n] w (Words w (val W64 xs * 2 ^ n) (xs.length + n / 64 + 1)) := by
  rcases Nat.eq_zero_or_pos xs.length with h | h
  · have e : xs = [] := List.eq_nil_of_length_eq_zero h
    subst e
    have := shiftUp_nil n c A w
    simp only [val_nil, Nat.zero_mul]
    exact this.mono fun _ _ h => h.mono (Nat.zero_le _)
  · exact shiftUp_pos A xs c n w hx dx h hn (hl h)
end Go.Proofs.YtjamfkafgfpobaaGreat
/-! ### Shd -/
namespace Go.Proofs.YtjamfkafgfpobaaGreat
open Go.RowKit Nb
theorem drop_val {xs : List Nat} (hx : Dig W64 xs) {m : Nat} (hm : m ≤ xs.length) : val W64 (xs.drop m) = val W64 xs / W64 ^ m := by
  have h := val_take_drop W64 xs m hm
  have h2 := val_lt (hx.take m)
  rw [List.length_take, Nat.min_eq_left hm] at h2
  rw [h, Nat.add_mul_div_left _ _ (Nat.pow_pos (by decide)), Nat.div_eq_of_lt h2, Nat.zero_add]
theorem drop_split {xs : List Nat} (hx : Dig W64 xs) {n : Nat} (hm : n / 64 ≤ xs.length) : val W64 (xs.drop (n / 64)) / 2 ^ (n % 64) = val W64 xs / 2 ^ n := by
  have h : W64 ^ (n / 64) = 2 ^ (64 * (n / 64)) := pow64 _
  rw [drop_val hx hm, h, Nat.div_div_eq_div_mul, ← Nat.pow_add, show 64 * (n / 64) + n % 64 = n by omega]
theorem drop_none {xs : List Nat} (hx : Dig W64 xs) {n : Nat} (hm : xs.length ≤ n / 64) : val W64 xs / 2 ^ n = 0 := by
  refine Nat.div_eq_of_lt ?_
  have h1 := val_lt hx
  have h : W64 ^ xs.length = 2 ^ (64 * xs.length) := pow64 _
  have h2 : (2 : Nat) ^ (64 * xs.length) ≤ 2 ^ n := Nat.pow_le_pow_right (by decide) (by omega)
  omega
set_option maxHeartbeats 800000 in
/-- A new list of words that tells a number, in a block of its own. -/
def WordsO (w : World) (V C : Nat) (e : Ending) (w' : World) : Prop := ∃ (A : Option Addr) (zs : List Nat) (c : Nat), e = .returned (.slice A zs.length c) ∧ Sl .u64 w' w'.heap.size A zs ∧ Dig W64 zs ∧ Norm zs ∧ val W64 zs = V ∧ zs.length ≤ c ∧ c ≤ C ∧ Below w.heap.size w w' ∧
  w'.ownsRow w.heap.size 160 1 (.slice A zs.length c) zs.length (zs.map fun n : Nat => Value.int .u64 n)
theorem WordsO.words {w : World} {V C : Nat} {e : Ending} {w' : World} (h : WordsO w V C e w') : Words w V C e w' := by
  obtain ⟨A, zs, c, h1, h2, h3, h4, h5, h6, h7, h8, _⟩ := h
  exact ⟨A, zs, c, h1, h2, h3, h4, h5, h6, h7, h8⟩
theorem WordsO.mono {w : World} {V C C' : Nat} {e : Ending} {w' : World} (h : WordsO w V C e w') (hC : C ≤ C') : WordsO w V C' e w' := by
  obtain ⟨A, zs, c, h1, h2, h3, h4, h5, h6, h7, h8, h9⟩ := h
  exact ⟨A, zs, c, h1, h2, h3, h4, h5, h6, by omega, h8, h9⟩
theorem own_trim {w : World} {g B : Nat} {ds : List Nat} (h : Row .u64 w g 160 ds) (hB : B ≤ g) (hm : ds.length ≤ maxLen) :
    w.ownsRow B 160 1 (.slice (some ⟨g, 0, none⟩) (trimL ds).length ds.length) (trimL ds).length ((trimL ds).map fun n : Nat => Value.int .u64 n) := by
  refine ⟨by simp, .inr ⟨g, ds.length, _, rfl, hB, h, trimL_len ds, hm, by simp, ?_⟩⟩
  obtain ⟨nz, hnz, _⟩ := trimL_all ds
  have e : (ds.map fun n : Nat => Value.int .u64 n) = ((trimL ds).map fun n : Nat => Value.int .u64 n) ++ ((List.replicate nz 0).map fun n : Nat => Value.int .u64 n) := by
    conv => lhs; rw [hnz]
    rw [List.map_append]
  have h2 : (ds.map fun n : Nat => Value.int .u64 n).take (trimL ds).length = (trimL ds).map fun n : Nat => Value.int .u64 n := by
    rw [e, List.take_append_of_le_length (by simp)]
    exact List.take_of_length_le (by simp)
  rw [Nat.mul_one]
  exact h2
theorem shiftDown_none (A : Option Addr) (xs : List Nat) (c n : Nat) (w : World) (dx : Dig W64 xs) (hl : xs.length * 8 ≤ 140737488351232) (hn : n < W64) (h : xs.length ≤ n / 64) :
    Calls Tryz.prog 153 #[.slice A xs.length c, .int .u64 n] w (WordsO w (val W64 xs / 2 ^ n) xs.length) := by
  rw [drop_none dx h]
  have e1 : (n : Int) / 64 = ((n / 64 : Nat) : Int) := by omega
  have hm : n / 64 ≤ 288230376151711743 := by simp only [W64] at hn; omega
  have hi : ((xs.length : Nat) : Int) ≤ ((n / 64 : Nat) : Int) := by omega
  generalize n / 64 = m at *
  clear hn dx h
  go_enter Tryz.func153, Tryz.ntmps153
  go_wp2
  go_ret
  exact ⟨none, [], 0, rfl, Sl.none_, Dig.nil _, Norm.nil, rfl, Nat.le_refl _, Nat.zero_le _, Below.refl _ _, World.ownsRow_nil _ _ _ _⟩
set_option maxHeartbeats 1600000 in
theorem shiftDown_pos (A : Option Addr) (xs : List Nat) (c n : Nat) (w : World) (hx : Sl .u64 w w.heap.size A xs) (dx : Dig W64 xs) (hl : xs.length * 8 ≤ 140737488351232) (hc : xs.length ≤ c) (hn : n < W64) (h : n / 64 < xs.length) :
    Calls Tryz.prog 153 #[.slice A xs.length c, .int .u64 n] w (WordsO w (val W64 xs / 2 ^ n) xs.length) := by
  rw [← drop_split dx (Nat.le_of_lt h)]
  have e1 : (n : Int) / 64 = ((n / 64 : Nat) : Int) := by omega
  have e2 : (n : Int) % 64 = ((n % 64 : Nat) : Int) := by omega
  have hp : n % 64 ≤ 63 := by omega
  have hnI : (n : Int) ≤ 18446744073709551615 := by simp only [W64] at hn; omega
  have hy := hx.drop (n := n / 64) (cap := c) (by omega) hc
  have dy := dx.drop (n / 64)
  have hyl : xs.length - n / 64 = (xs.drop (n / 64)).length := by rw [List.length_drop]
  have hle : xs.length - n / 64 ≤ xs.length := Nat.sub_le _ _
  obtain ⟨ad, rfl, hb, h00⟩ := hx.at_ (i := 0) (by omega)
  clear h00
  have hcm : ¬ (c = n / 64) := by omega
  rw [if_neg hcm] at hy
  have hmi : ((n / 64 : Nat) : Int) < ((xs.length : Nat) : Int) := by omega
  have hmc : n / 64 ≤ c := by omega
  have hmci : ((n / 64 : Nat) : Int) ≤ (c : Int) := by omega
  have hpos : 0 < xs.length - n / 64 := by omega
  generalize n / 64 = m at *
  generalize n % 64 = p at *
  generalize hys : xs.drop m = ys at *
  clear hys
  clear hn
  have hgoal : ∀ e w', WordsO w (val W64 ys / 2 ^ p) ys.length e w' → WordsO w (val W64 ys / 2 ^ p) xs.length e w' := fun _ _ h => h.mono (by omega)
  refine Calls.mono ?_ hgoal
  clear hgoal
  have HYL := Lib.hid hyl
  have HM := Lib.hid hmi
  have hb3 : (xs.length : Int) - (m : Int) = (ys.length : Int) := by omega
  go_enter Tryz.func153, Tryz.ntmps153
  go_wp2_with (at_make; refine wpList_make_row _ rfl _ _ 70 rfl 160 .u64 8 Tryz.underlying70 info_u64 _ _ _ _ ys.length (by first | rfl | (simp [go_sem]; omega)) (by first | rfl | (simp [go_sem]; omega)) (by omega) (by omega) (by omega) (by unfold maxLen; omega) ?_
               intro w1 hrow1 hbel1)
  have hg : w.heap.size < w1.heap.size := hrow1.lt
  have hy1 : Sl .u64 w1 w.heap.size (some (ad.add m)) ys := hy.below hbel1
  clear hy hx hb
  generalize ad.add m = bd at *
  go_loopw [26] (fun iv wr => ∃ (k : Nat) (ds : List Nat), k ≤ ys.length ∧ iv = .int .i64 k ∧ ds.length = k ∧ Dig W64 ds ∧ val W64 ds = val W64 (ys.take k) / 2 ^ p ∧
      Row .u64 wr w.heap.size 160 (ds ++ (List.replicate ys.length 0).drop k) ∧ Upd w.heap.size w1 wr) (fun iv _ => ys.length - (intOf iv).toNat)
  case atStart => exact ⟨0, [], Nat.zero_le _, rfl, rfl, Dig.nil _, by simp [val], by simpa using hrow1, Upd.refl _ _⟩
  case round =>
    obtain ⟨k, ds, hk', rfl, hdl, hdd, he, hrow, hu⟩ := hrel
    have HD := Lib.hid hdl; clear hdl
    have HE := Lib.hid he; clear he
    by_cases hlt : k < ys.length
    · have hlr : k < (List.replicate ys.length 0).length := by simpa using hlt
      obtain ⟨ad', e1', hb1, h1⟩ := (hy1.upd hu (Nat.le_refl _)).at_ hlt
      injection e1' with e1'
      subst e1'
      have hxx := dy.get hlt
      have hty := val_take_succ W64 hlt
      have gf := hrow.frozen k
      have gc := hrow.cell (i := k) (by have := HD.out; simp; omega)
      rw [fill_get ds _ HD.out hlr] at gc
      have hji : (k : Int) < (ys.length : Int) := by omega
      have hun : ys[k] / 2 ^ p < W64 := Nat.lt_of_le_of_lt (Nat.div_le_self _ _) hxx
      have r1 := hrow.set_ k (ys[k] / 2 ^ p)
      rw [fill_put ds (List.replicate ys.length 0) _ HD.out hlr] at r1
      rcases Nat.eq_zero_or_pos k with rfl | hkp
      · have hds : ds = [] := List.eq_nil_of_length_eq_zero HD.out
        subst hds
        have hval : val W64 ([] ++ [ys[0] / 2 ^ p]) = val W64 (ys.take (0 + 1)) / 2 ^ p := by
          rw [hty]; simp [val]
        rw [show bd.add 0 = bd from by simp [Addr.add]] at h1
        generalize ys[0] = x at *
        have eR := shr_int x p
        obtain ⟨u, huu⟩ : ∃ u, x / 2 ^ p = u := ⟨_, rfl⟩
        rw [huu] at eR hun hval r1
        have HR := Lib.hid r1
        have HS := Lib.hid hval
        clear hval r1 huu hty hrow hxx
        go_wp2
        go_roundw
        case rel => exact ⟨1, [] ++ [u], by omega, by go_num, by simp, dig_snoc (Dig.nil _) hun, HS.out, HR.out, hu.setCell _ _⟩
        case measure => simp [intOf]; omega
      · obtain ⟨j, hj⟩ : ∃ j, k = j + 1 := ⟨k - 1, by omega⟩
        have hjk : (k : Int) - 1 = (j : Int) := by omega
        have hjp : (0 : Int) < (k : Int) := by omega
        have HE' := HE.out
        obtain ⟨es, t, rfl⟩ : ∃ es t, ds = es ++ [t] := by
          rcases List.eq_nil_or_concat ds with h | ⟨l, x, h⟩
          · have := HD.out; rw [h] at this; simp at this; omega
          · exact ⟨l, x, by rw [h, List.concat_eq_append]⟩
        have hel : es.length = j := by have := HD.out; simp at this; omega
        have hVl := val_lt (dy.take k)
        rw [List.length_take, Nat.min_eq_left (by omega), hj] at hVl
        rw [hj] at HE'
        have htop := down_top (p := p) (by omega) hel hVl HE'
        have hst := down_step (p := p) (x := ys[k]) (by omega) hel HE'
        rw [← hj, ← hty] at hst
        have gf2 := hrow.frozen j
        have gc2 := hrow.cell (i := j) (by simp; omega)
        have hgt : ((es ++ [t]) ++ (List.replicate ys.length 0).drop k)[j]'(by simp; omega) = t := by
          have := mid_get [] es ((List.replicate ys.length 0).drop k) t (i := j) (by simpa using hel) (by simp; omega)
          simpa using this
        rw [hgt] at gc2
        generalize ys[k] = x at *
        have eR := shr_int x p
        have eS := wpow x (64 - p)
        have hor := or_up (x := x) (p := 64 - p) (by omega) htop
        obtain ⟨u, huu⟩ : ∃ u, x / 2 ^ p = u := ⟨_, rfl⟩
        obtain ⟨lo, hlo⟩ : ∃ lo, x * 2 ^ (64 - p) % W64 = lo := ⟨_, rfl⟩
        rw [huu] at eR hun r1 hst
        rw [hlo] at eS hor hst
        obtain ⟨v, hv⟩ : ∃ v, t + lo = v := ⟨_, rfl⟩
        rw [hv] at hor hst
        obtain ⟨eO, hvW⟩ := hor
        have r2 := r1.set_ j v
        have e3 : (es ++ [t]) ++ [u] ++ (List.replicate ys.length 0).drop (k + 1) = [] ++ ((es ++ [t]) ++ ([u] ++ (List.replicate ys.length 0).drop (k + 1))) := by simp
        have e4 : [] ++ ((es ++ [v]) ++ ([u] ++ (List.replicate ys.length 0).drop (k + 1))) = ((es ++ [v]) ++ [u]) ++ (List.replicate ys.length 0).drop (k + 1) := by simp
        rw [e3, mid_set [] es _ t v (i := j) (by simpa using hel), e4] at r2
        have HR := Lib.hid r2
        have HJ := Lib.hid hj
        clear hj
        have HS := Lib.hid hst
        have hdes : Dig W64 es := dig_left hdd
        clear hst r1 r2 huu hlo hv e3 e4 hty hrow hxx hgt htop hVl
        go_wp2
        go_roundw
        case rel => exact ⟨k + 1, (es ++ [v]) ++ [u], by omega, by go_num, by have := HJ.out; simp [hel]; omega, dig_snoc (dig_snoc hdes hvW) hun, HS.out, HR.out, (hu.setCell _ _).setCell _ _⟩
        case measure => simp [intOf]; omega
    · obtain rfl : k = ys.length := by omega
      have hnil : (List.replicate ys.length 0).drop ys.length = [] := by simp
      rw [hnil, List.append_nil] at hrow
      have hsz : w.heap.size < wr.heap.size := hrow.lt
      have hval := HE.out
      rw [List.take_length] at hval
      have hsl := hrow.sl hsz
      have hT := trim_any (some ⟨w.heap.size, 0, none⟩) ds ys.length wr hsl (by have := HD.out; omega) (by unfold maxLen; omega)
      rw [HD.out] at hT
      have HT := Lib.hid hT
      have HV := Lib.hid hval
      have hb4 : Below w.heap.size w wr := hbel1.trans (hu.below (Nat.le_refl _))
      clear hT hval
      go_wp2_with fail
      refine (HT.out).mono ?_
      rintro e w5 ⟨rfl, rfl⟩
      go_wp2_with fail
      go_ret
      have hln := trimL_len ds
      have hown := own_trim hrow (Nat.le_refl _) (by have := HD.out; unfold maxLen; omega)
      rw [HD.out] at hln hown
      exact ⟨_, _, _, rfl, sl_trimL hsl, dig_trimL hdd, norm_trimL _, by rw [val_trimL, HV.out], hln, Nat.le_refl _, hb4, hown⟩
theorem shiftDown_own (A : Option Addr) (xs : List Nat) (c n : Nat) (w : World) (hx : Sl .u64 w w.heap.size A xs) (dx : Dig W64 xs) (hl : xs.length * 8 ≤ 140737488351232) (hc : xs.length ≤ c) (hn : n < W64) :
    Calls Tryz.prog 153 #[.slice A xs.length c, .int .u64 n] w (WordsO w (val W64 xs / 2 ^ n) xs.length) := by
  rcases Nat.lt_or_ge (n / 64) xs.length with h | h
  · exact shiftDown_pos A xs c n w hx dx hl hc hn h
  · exact shiftDown_none A xs c n w dx hl hn h
end Go.Proofs.YtjamfkafgfpobaaGreat
/-! ### Take -/
namespace Go.Proofs.YtjamfkafgfpobaaGreat
open Go.RowKit Nb
set_option maxHeartbeats 1600000 in
theorem takeTimes_any (g off : Nat) (pre zs post ys : List Nat) (A : Option Addr) (c d q : Nat) (w : World) (hoff : pre.length = off) (hz : Row .u64 w g 160 (pre ++ (zs ++ post))) (hy : Sl .u64 w g A ys)
    (hl : zs.length = ys.length + 1) (dz : Dig W64 zs) (dy : Dig W64 ys) (hq : q < W64) (hb : (off + zs.length) * 8 ≤ 140737488351232) :
    Calls Tryz.prog 152 #[.slice (some ⟨g, off, none⟩) (ys.length + 1) c, .slice A ys.length d, .int .u64 q] w fun e w' => ∃ (zs' : List Nat) (M : Nat), e = .returned (.int .u64 M) ∧ zs'.length = ys.length + 1 ∧ Dig W64 zs' ∧ M ≤ 1 ∧
      val W64 zs' + val W64 ys * q = val W64 zs + W64 ^ (ys.length + 1) * M ∧ Row .u64 w' g 160 (pre ++ (zs' ++ post)) ∧ Upd g w w' := by
  have HL := Lib.hid hl
  have HO := Lib.hid hoff
  have hyl : (off + ys.length + 1) * 8 ≤ 140737488351232 := by omega
  clear hl hoff hb
  go_enter Tryz.func152, Tryz.ntmps152
  go_wp2
  go_loopw [6, 7, 15] (fun mv tv iv wr => ∃ (k m T : Nat) (ds : List Nat), k ≤ ys.length ∧ iv = .int .i64 k ∧ mv = .int .u64 m ∧ tv = .int .u64 T ∧ T < W64 ∧ ds.length = k ∧ Dig W64 ds ∧ val W64 ds + val W64 (ys.take k) * q = val W64 (zs.take k) + W64 ^ k * T ∧
      Row .u64 wr g 160 (pre ++ ((ds ++ zs.drop k) ++ post)) ∧ Upd g w wr) (fun _ _ iv _ => ys.length - (intOf iv).toNat)
  case atStart => exact ⟨0, 0, 0, [], Nat.zero_le _, rfl, rfl, rfl, by decide, rfl, Dig.nil _, by simp [val], by simpa using hz, Upd.refl _ _⟩
  case round =>
    obtain ⟨k, m, T, ds, hk, rfl, rfl, rfl, hT, hdl, hdd, he, hrow, hu⟩ := hrel
    have HD := Lib.hid hdl; clear hdl
    have HE := Lib.hid he; clear he
    have hkz : k < zs.length := by have := HL.out; omega
    have gf := hrow.frozen (off + k)
    have gc := hrow.cell (i := off + k) (by have := HO.out; have := HD.out; simp; omega)
    have hzz := dz.get hkz
    have hgz : (pre ++ ((ds ++ zs.drop k) ++ post))[off + k]'(by have := HO.out; have := HD.out; simp; omega) = zs[k] := by
      have h := get_mid pre (ds ++ zs.drop k) post (k := k) (by rw [fill_length ds zs HD.out (by omega)]; exact hkz) (by have := HD.out; simp; omega)
      rw [fill_get ds zs HD.out hkz] at h
      rw [← h]
      congr 1
      rw [HO.out]
    rw [hgz] at gc
    have hset : ∀ v : Nat, (pre ++ ((ds ++ zs.drop k) ++ post)).set (off + k) v = pre ++ (((ds ++ [v]) ++ zs.drop (k + 1)) ++ post) := fun v => by
      have h := set_mid pre (ds ++ zs.drop k) post (k := k) v (by rw [fill_length ds zs HD.out (by omega)]; exact hkz)
      rw [fill_put ds zs v HD.out hkz] at h
      rw [← h]
      congr 1
      rw [HO.out]
    have hrs := fun v => hrow.set_ (off + k) v
    have htz := val_take_succ W64 hkz
    by_cases hlt : k < ys.length
    · obtain ⟨ad, rfl, hb1, h1⟩ := (hy.upd hu (Nat.le_refl _)).at_ hlt
      have hxx := dy.get hlt
      have hty := val_take_succ W64 hlt
      have hstep := fun v T' => take_step (v := v) (T' := T') (x := ys[k]) (z := zs[k]) HE.out HD.out
      generalize zs[k] = z at *
      generalize ys[k] = x at *
      obtain ⟨h, l, hmul, hll, hlo, hh⟩ := mul64_ex x q hxx hq
      obtain ⟨l', o1, hadd1, hd1, ho1, hvo1⟩ := add64_ex l T 0 hll hT (by omega)
      obtain ⟨v, m', hsub, hv, hm', hvo2⟩ := sub64_ex z l' 0 hzz hd1 (by omega)
      have htot := take_word hlo hvo1 hvo2
      have hcarry := take_small hxx hq hT hv htot
      have hrs' := hrs v
      rw [hset v] at hrs'
      have hst' := hstep v (h + o1 + m') htot
      rw [← hty, ← htz] at hst'
      have HS := Lib.hid hst'
      have HR := Lib.hid hrs'
      have HC := Lib.hid hcarry
      have hc1 : (h : Int) + o1 ≤ 18446744073709551615 := by simp only [W64] at *; omega
      have hc2 : (h : Int) + o1 + m' ≤ 18446744073709551615 := by simp only [W64] at *; omega
      have hadd1' : ∀ w, (callFunc 146 #[.int .u64 l, .int .u64 T, .int .u64 0]).run Tryz.prog w = .ok (.value (.tuple #[.int .u64 l', .int .u64 o1])) w := hadd1
      have hsub' : ∀ w, (callFunc 143 #[.int .u64 z, .int .u64 l', .int .u64 0]).run Tryz.prog w = .ok (.value (.tuple #[.int .u64 v, .int .u64 m'])) w := hsub
      clear hadd1 hsub hgz hset hrs hstep hty htz hst' hrs' hvo1 hvo2 htot hcarry hlo hll hzz hxx
      have hji : (k : Int) < (ys.length : Int) := by omega
      go_wp2_with (go_at_call 145; refine (hmul _).mono ?_; rintro e w' ⟨rfl, rfl⟩)
      go_roundw
      case rel => exact ⟨k + 1, m', h + o1 + m', ds ++ [v], by omega, by go_num, rfl, by go_num, HC.out, by have := HD.out; simp; omega, dig_snoc hdd hv, HS.out, HR.out, hu.setCell _ _⟩
      case measure => simp [intOf]; omega
    · obtain rfl : k = ys.length := by omega
      have hty : ys.take ys.length = ys := List.take_length
      have hstep := fun v M => take_last (v := v) (M := M) (z := zs[ys.length]) HE.out HD.out
      generalize zs[ys.length] = z at *
      obtain ⟨v, m', hsub, hv, hm', hvo2⟩ := sub64_ex z T 0 hzz hT (by omega)
      have hrs' := hrs v
      rw [hset v] at hrs'
      have hst' := hstep v m' hvo2
      rw [hty, ← htz] at hst'
      have hzt : zs.take (ys.length + 1) = zs := by rw [← HL.out]; exact List.take_length
      have hzd : zs.drop (ys.length + 1) = [] := by rw [← HL.out]; exact List.drop_length
      rw [hzt] at hst'
      rw [hzd, List.append_nil] at hrs'
      have HS := Lib.hid hst'
      have HR := Lib.hid hrs'
      have hsub' : ∀ w, (callFunc 143 #[.int .u64 z, .int .u64 T, .int .u64 0]).run Tryz.prog w = .ok (.value (.tuple #[.int .u64 v, .int .u64 m'])) w := hsub
      clear hsub hgz hset hrs hstep hty htz hst' hrs' hvo2 hzz hzt hzd
      go_wp2
      go_ret
      exact ⟨ds ++ [v], m', rfl, by have := HD.out; simp; omega, dig_snoc hdd hv, hm', HS.out, HR.out, hu.setCell _ _⟩
end Go.Proofs.YtjamfkafgfpobaaGreat
/-! ### Guess -/
namespace Go.Proofs.YtjamfkafgfpobaaGreat
open Go.RowKit Nb
theorem qu1 (w : World) : Qu w w.drew := ⟨1, rfl⟩
theorem last3 {ps : List Nat} {j : Nat} (h : ps.length = j + 3) : ps = ps.take j ++ [ps[j]'(by omega), ps[j + 1]'(by omega), ps[j + 2]'(by omega)] := by
  have h1 := List.take_append_drop j ps
  rw [List.drop_eq_getElem_cons (by omega), List.drop_eq_getElem_cons (by omega), List.drop_eq_getElem_cons (by omega), List.drop_of_length_le (by omega)] at h1
  exact h1.symm
theorem last2 {ps : List Nat} {j : Nat} (h : ps.length = j + 2) : ps = ps.take j ++ [ps[j]'(by omega), ps[j + 1]'(by omega)] := by
  have h1 := List.take_append_drop j ps
  rw [List.drop_eq_getElem_cons (by omega), List.drop_eq_getElem_cons (by omega), List.drop_of_length_le (by omega)] at h1
  exact h1.symm
theorem guess_ge3 {ps ys : List Nat} {j : Nat} (hp : Dig W64 ps) (hpl : ps.length = j + 3) (hyl : ys.length = j + 2) (he : 0 < ys[j + 1]'(by omega)) :
    val W64 ps / val W64 ys ≤ ((ps[j + 2]'(by omega) * W64 + ps[j + 1]'(by omega)) * W64 + ps[j]'(by omega)) / (ys[j + 1]'(by omega) * W64 + ys[j]'(by omega)) := by
  have h1 := last3 hpl
  have h2 := last2 hyl
  have hd : Dig W64 (ps.take j ++ [ps[j]'(by omega), ps[j + 1]'(by omega), ps[j + 2]'(by omega)]) := h1 ▸ hp
  have h3 := guess_top (ps := ps.take j) (ys := ys.take j) (n := j) (a := ps[j + 2]'(by omega)) (b := ps[j + 1]'(by omega)) (c := ps[j]'(by omega)) (e := ys[j + 1]'(by omega)) (f := ys[j]'(by omega)) hd (by simp; omega) (by simp; omega) he
  rw [← h1, ← h2] at h3
  exact h3
set_option maxHeartbeats 1600000 in
theorem guess_full (ad bd : Addr) (c d n a e : Nat) (w : World) (hn : 2 ≤ n) (h1 : w.cell? (ad.add n) = some (.int .u64 (a : Nat))) (h2 : w.cell? (bd.add (n - 1)) = some (.int .u64 (e : Nat)))
    (hk : n * 8 ≤ 140737488351232) (hge : e ≤ a) :
    Calls Tryz.prog 151 #[.slice (some ad) (n + 1) c, .slice (some bd) n d] w fun e w' => e = .returned (.int .u64 (18446744073709551615 : Nat)) ∧ Qu w w' := by
  have hgi : (e : Int) ≤ (a : Int) := by omega
  clear hge
  go_enter Tryz.func151, Tryz.ntmps151
  go_wp2
  go_region
  go_wp2
  go_ret
  exact ⟨rfl, qu1 _⟩
set_option maxHeartbeats 1600000 in
set_option maxRecDepth 20000 in
theorem guess_low (ad bd : Addr) (c d n a b v y1 y0 u T : Nat) (w : World) (hu : a * W64 + b = u) (hT : (u * W64 + v) / (y1 * W64 + y0) = T) (hn : 2 ≤ n) (h1 : w.cell? (ad.add n) = some (.int .u64 (a : Nat))) (h2 : w.cell? (bd.add (n - 1)) = some (.int .u64 (y1 : Nat)))
    (h3 : w.cell? (ad.add (n - 1)) = some (.int .u64 (b : Nat))) (h4 : w.cell? (ad.add (n - 2)) = some (.int .u64 (v : Nat))) (h5 : w.cell? (bd.add (n - 2)) = some (.int .u64 (y0 : Nat)))
    (db : b < W64) (dv : v < W64) (de : y1 < W64) (df : y0 < W64) (hk : n * 8 ≤ 140737488351232) (hlt : a < y1) :
    Calls Tryz.prog 151 #[.slice (some ad) (n + 1) c, .slice (some bd) n d] w fun e w' => ∃ q : Nat, e = .returned (.int .u64 q) ∧ q < W64 ∧ T ≤ q ∧ Qu w w' := by
  have hy1 : 0 < y1 := by omega
  have hD : ∀ w : World, _ := fun w => div64_any a b y1 w db hlt de
  have g0 := Gs.start (u := u) (y0 := y0) hy1 dv
  have hr0 : u % y1 < W64 := Nat.lt_trans (Nat.mod_lt _ hy1) de
  have hq0 : (a * W64 + b) / y1 < W64 := quo_lt hlt db
  have hyK : 0 < y1 * W64 := Nat.mul_pos hy1 (by decide)
  rw [hu] at hq0
  rw [hu] at hD
  obtain ⟨Q, hQ⟩ : ∃ Q, u / y1 = Q := ⟨_, rfl⟩
  obtain ⟨R, hR⟩ : ∃ R, u % y1 = R := ⟨_, rfl⟩
  rw [hQ] at hD hq0 g0
  rw [hR] at hD hr0 g0
  have hlti : (a : Int) < (y1 : Int) := by omega
  have HT := Lib.hid hT
  have HD := Lib.hid hD
  have HK := Lib.hid hyK
  have HG0 := Lib.hid g0
  clear hT hD hlt db hyK g0 hu hQ hR
  go_enter Tryz.func151, Tryz.ntmps151
  go_wp2
  go_region
  go_wp2_with fail
  refine (HD.out _).mono ?_
  rintro e wd ⟨rfl, nq, rfl⟩
  clear HD
  have c1 : (w.drew.drewN nq).cell? (ad.add (n - 2)) = some (.int .u64 v) := h4
  have c2 : (w.drew.drewN nq).cell? (bd.add (n - 2)) = some (.int .u64 y0) := h5
  have hqu : Qu w (w.drew.drewN nq) := Qu.trans (qu1 _) ⟨nq, rfl⟩
  generalize w.drew.drewN nq = W at *
  clear h1 h2 h3 h4 h5
  go_wp2_with fail
  go_loopw [8, 9] (fun qv rv wr => ∃ q r : Nat, qv = .int .u64 q ∧ rv = .int .u64 r ∧ Gs W64 u v y1 y0 q r ∧ r < W64 ∧ q < W64 ∧ wr = W) (fun qv _ _ => (intOf qv).toNat)
  case atStart => exact ⟨Q, R, rfl, rfl, HG0.out, hr0, hq0, rfl⟩
  case round =>
    obtain ⟨q, r, rfl, rfl, g, hr, hq, rfl⟩ := hrel
    obtain ⟨h, l, hmul, hll, hlo, hh⟩ := mul64_ex q y0 hq df
    by_cases hc : q * y0 ≤ r * W64 + v
    · have hge := g.ge
      rw [HT.out] at hge
      have HG := Lib.hid hge
      rcases Nat.lt_or_ge h r with hhr | hhr
      · have hi : (h : Int) < (r : Int) := by omega
        clear hc g hlo hge
        go_wp2_with (go_at_call 145; refine (hmul _).mono ?_; rintro e w' ⟨rfl, rfl⟩)
        go_ret
        exact ⟨q, rfl, hq, HG.out, hqu⟩
      · have hlv : h = r ∧ l ≤ v := by simp only [W64] at *; omega
        obtain ⟨rfl, hlv⟩ := hlv
        have hi : (l : Int) ≤ (v : Int) := by omega
        clear hc g hlo hge hhr
        go_wp2_with (go_at_call 145; refine (hmul _).mono ?_; rintro e w' ⟨rfl, rfl⟩)
        go_ret
        exact ⟨q, rfl, hq, HG.out, hqu⟩
    · have hgt := g.big HK.out (by omega)
      have hq1 : 0 < q := Nat.lt_of_le_of_lt (Nat.zero_le _) hgt
      have gl := g.less hq1 hgt
      have hge := gl.ge
      rw [HT.out] at hge
      have HG := Lib.hid hge
      obtain ⟨d1, o1, hadd1, hd1, ho1, hvo1⟩ := add64_ex r y1 0 hr (by omega) (by omega)
      have hadd1' : ∀ w, (callFunc 146 #[.int .u64 r, .int .u64 y1, .int .u64 0]).run Tryz.prog w = .ok (.value (.tuple #[.int .u64 d1, .int .u64 o1])) w := hadd1
      have hqi : (1 : Int) ≤ (q : Int) := by omega
      have hqi2 : (q : Int) ≤ 18446744073709551615 := by simp only [W64] at hq; omega
      have hnc : ¬ ((h : Int) < (r : Int)) ∧ (((h : Int) == (r : Int)) = false ∨ (h = r ∧ (v : Int) < (l : Int))) := by
        simp only [W64] at *
        refine ⟨by omega, ?_⟩
        by_cases he : h = r
        · exact .inr ⟨he, by omega⟩
        · exact .inl (beq_false_of_ne (by omega))
      obtain ⟨hn1, hn2⟩ := hnc
      have HGL := Lib.hid gl
      clear hadd1 g hgt hge hc hlo gl
      rcases hn2 with hn2 | ⟨rfl, hn2⟩
      · rcases (show o1 = 0 ∨ o1 = 1 by omega) with rfl | rfl
        · rw [Nat.mul_zero, Nat.add_zero, Nat.add_zero] at hvo1
          subst hvo1
          go_wp2_with (go_at_call 145; refine (hmul _).mono ?_; rintro e w' ⟨rfl, rfl⟩)
          go_roundw
          case rel => exact ⟨q - 1, r + y1, by go_num, by go_num, HGL.out, hd1, by omega, by first | rfl | trivial⟩
          case measure => simp [intOf]; omega
        · clear hvo1
          go_wp2_with (go_at_call 145; refine (hmul _).mono ?_; rintro e w' ⟨rfl, rfl⟩)
          go_ret
          exact ⟨q - 1, by go_num, by omega, HG.out, hqu⟩
      · rcases (show o1 = 0 ∨ o1 = 1 by omega) with rfl | rfl
        · rw [Nat.mul_zero, Nat.add_zero, Nat.add_zero] at hvo1
          subst hvo1
          go_wp2_with (go_at_call 145; refine (hmul _).mono ?_; rintro e w' ⟨rfl, rfl⟩)
          go_roundw
          case rel => exact ⟨q - 1, h + y1, by go_num, by go_num, HGL.out, hd1, by omega, by first | rfl | trivial⟩
          case measure => simp [intOf]; omega
        · clear hvo1
          go_wp2_with (go_at_call 145; refine (hmul _).mono ?_; rintro e w' ⟨rfl, rfl⟩)
          go_ret
          exact ⟨q - 1, by go_num, by omega, HG.out, hqu⟩
theorem guess_any (A B : Option Addr) (ps ys : List Nat) (c d j : Nat) (w : World) (hx : Sl .u64 w w.heap.size A ps) (hy : Sl .u64 w w.heap.size B ys) (hjl : ys.length = j + 2) (hpl : ps.length = j + 3)
    (dp : Dig W64 ps) (dy : Dig W64 ys) (ny : Norm ys) (hk : ps.length * 8 ≤ 140737488351232) (hbig : val W64 ps < val W64 ys * W64) :
    Calls Tryz.prog 151 #[.slice A (j + 3) c, .slice B (j + 2) d] w fun e w' => ∃ q : Nat, e = .returned (.int .u64 q) ∧ q < W64 ∧ val W64 ps / val W64 ys ≤ q ∧ Qu w w' := by
  have htop : 0 < ys[j + 1]'(by omega) := by
    have := (norm_iff (xs := ys) (by omega)).1 ny
    simp only [hjl] at this
    exact Nat.pos_of_ne_zero this
  obtain ⟨ad, rfl, hb1, h1⟩ := hx.at_ (i := j + 2) (by omega)
  obtain ⟨bd, rfl, hb2, h2⟩ := hy.at_ (i := j + 1) (by omega)
  obtain ⟨ad', e3, hb3, h3⟩ := hx.at_ (i := j + 1) (by omega)
  injection e3 with e3; subst e3
  obtain ⟨bd', e4, hb4, h4⟩ := hy.at_ (i := j) (by omega)
  injection e4 with e4; subst e4
  obtain ⟨ad', e5, hb5, h5⟩ := hx.at_ (i := j) (by omega)
  injection e5 with e5; subst e5
  rcases Nat.lt_or_ge (ps[j + 2]'(by omega)) (ys[j + 1]'(by omega)) with h | h
  · refine (guess_low ad bd c d (j + 2) _ _ _ _ _ _ _ w rfl rfl (by omega) h1 h2 h3 h5 h4 (dp.get _) (dp.get _) (dy.get _) (dy.get _) (by omega) h).mono ?_
    rintro e w' ⟨q, rfl, h1, h2, h3⟩
    exact ⟨q, rfl, h1, Nat.le_trans (guess_ge3 dp hpl hjl htop) h2, h3⟩
  · refine (guess_full ad bd c d (j + 2) _ _ w (by omega) h1 h2 (by omega) h).mono ?_
    rintro e w' ⟨rfl, h1⟩
    refine ⟨_, rfl, by decide, ?_, h1⟩
    have hY : 0 < val W64 ys := Nat.pos_of_ne_zero fun h0 => by
      have := (norm_zero (B := W64) (by decide) ny).1 h0
      rw [this] at hjl; simp at hjl
    have : val W64 ps / val W64 ys < W64 := (Nat.div_lt_iff_lt_mul hY).2 (by rw [Nat.mul_comm]; exact hbig)
    simp only [W64] at this ⊢
    omega
end Go.Proofs.YtjamfkafgfpobaaGreat
