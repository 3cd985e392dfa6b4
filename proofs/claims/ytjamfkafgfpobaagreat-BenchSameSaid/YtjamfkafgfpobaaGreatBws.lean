/-
  What large.byWords and large.quotient return of any two numbers, the second not nought. No other conditions.
-/
import Derived.Test.YtjamfkafgfpobaaGreatShs
import Derived.Test.YtjamfkafgfpobaaGreatQuo
import Derived.Deep.LoopGhost
import Derived.WalkMore
import Derived.Test.YtjamfkafgfpobaaGreatSame
/-! ### Bw1 -/
namespace Go.Proofs.YtjamfkafgfpobaaGreat
open Go.RowKit Nb
/-- Two blocks alone have changed. -/
structure Upd2 (g h : Nat) (w w' : World) : Prop where
  os : w'.os = w.os
  tape : w'.tape = w.tape
  output : w'.output = w.output
  size : w'.heap.size = w.heap.size
  block : ∀ k, k ≠ g → k ≠ h → w'.heap[k]? = w.heap[k]?
theorem Upd2.refl (g h : Nat) (w : World) : Upd2 g h w w := ⟨rfl, rfl, rfl, rfl, fun _ _ _ => rfl⟩
theorem Upd.one {g h : Nat} {w w' : World} (u : Upd g w w') : Upd2 g h w w' := ⟨u.os, u.tape, u.output, u.size, fun k hk _ => u.block k hk⟩
theorem Upd.two {g h : Nat} {w w' : World} (u : Upd h w w') : Upd2 g h w w' := ⟨u.os, u.tape, u.output, u.size, fun k _ hk => u.block k hk⟩
theorem Upd2.trans {g h : Nat} {a b c : World} (u : Upd2 g h a b) (v : Upd2 g h b c) : Upd2 g h a c :=
  ⟨v.os.trans u.os, v.tape.trans u.tape, v.output.trans u.output, v.size.trans u.size, fun i h1 h2 => (v.block i h1 h2).trans (u.block i h1 h2)⟩
theorem Upd2.below {g h B : Nat} {w w' : World} (u : Upd2 g h w w') (h1 : B ≤ g) (h2 : B ≤ h) : Below B w w' := ⟨u.os, u.tape, u.output, by rw [u.size]; exact Nat.le_refl _, fun k hk => u.block k (by omega) (by omega)⟩
theorem Sl.upd2 {k : IntKind} {w w' : World} {g h B : Nat} {A : Option Addr} {ls : List Nat} (s : Sl k w B A ls) (hu : Upd2 g h w w') (h1 : B ≤ g) (h2 : B ≤ h) : Sl k w' B A ls := s.below (hu.below h1 h2)
theorem Upd.qu2 {g : Nat} {w w' : World} (q : Qu w w') : Upd g w w' := by
  obtain ⟨n, rfl⟩ := q
  exact (Upd.refl g w).drewN n
/-- What is divided, one word more at its low end. -/
theorem part_small {x v Y : Nat} (hx : x < W64) (hv : v < Y) : val W64 (x :: []) + W64 * v < Y * W64 := by
  have h := Nat.mul_le_mul_left W64 (show v + 1 ≤ Y from hv)
  rw [Nat.mul_add, Nat.mul_comm W64 Y] at h
  simp only [val]
  omega
/-- One word of the quotient more. -/
theorem bw_step {Xk x Q q v r Y : Nat} (h : Xk = Q * Y + v) (hq : q = (x + W64 * v) / Y) (hr : r = (x + W64 * v) % Y) : x + W64 * Xk = (q + W64 * Q) * Y + r := by
  have h1 := Nat.div_add_mod (x + W64 * v) Y
  rw [← hq, ← hr] at h1
  rw [h, Nat.add_mul, Nat.mul_add, ← Nat.mul_assoc]
  rw [Nat.mul_comm Y q] at h1
  omega
/-- One time too many was taken: put back. -/
theorem bw_back {P2 P3 P Y q o D : Nat} (hq : 0 < q) (ho : o ≤ 1) (h : P2 + Y * q = P + D * 1) (h3 : P3 + D * o = P2 + Y) : P3 + Y * (q - 1) = P + D * (1 - o) := by
  obtain ⟨k, rfl⟩ : ∃ k, q = k + 1 := ⟨q - 1, by omega⟩
  rw [Nat.mul_add] at h
  rcases (show o = 0 ∨ o = 1 by omega) with rfl | rfl
  · simp at *; omega
  · simp at *; omega
theorem bw_join {n o o2 l d V Z Y : Nat} (h1 : Z + W64 ^ n * o = V + Y) (h2 : d + W64 * o2 = l + 0 + o) : (Z + W64 ^ n * d) + W64 ^ (n + 1) * o2 = (V + W64 ^ n * l) + Y := by
  have h3 : W64 ^ n * (d + W64 * o2) = W64 ^ n * (l + 0 + o) := by rw [h2]
  rw [Nat.mul_add, Nat.mul_add, Nat.mul_add, Nat.mul_zero, ← Nat.mul_assoc] at h3
  rw [Nat.pow_succ]
  omega
/-- What is left is below the divisor: its highest word is nought. -/
theorem top_nought {n Y : Nat} {ps : List Nat} (hl : ps.length = n + 1) (h : val W64 ps < Y) (hY : Y ≤ W64 ^ n) : ps = ps.take n ++ [0] := by
  have h1 := val_take_succ W64 (xs := ps) (k := n) (by omega)
  rw [← hl, List.take_length] at h1
  have h2 : ps[n] = 0 := by
    rcases Nat.eq_zero_or_pos ps[n] with h3 | h3
    · exact h3
    · have h4 := Nat.mul_le_mul_left (W64 ^ n) h3
      rw [Nat.mul_one] at h4
      omega
  have h3 := take_succ' (xs := ps) (k := n) (by omega)
  rw [← hl, List.take_length, h2] at h3
  exact h3
/-- At the start: the highest words are below the divisor. -/
theorem bw_start {X : List Nat} {m n Y V p : Nat} (hX : Dig W64 X) (hl : X.length = m + n) (hV : val W64 X = V * 2 ^ p) (hVl : V < W64 ^ (m + n - 1)) (hY : W64 ^ (n - 1) * 2 ^ p ≤ Y) (hn : 0 < n) : val W64 (X.drop m) < Y := by
  rw [drop_val hX (by omega), hV]
  refine Nat.lt_of_lt_of_le ?_ hY
  refine (Nat.div_lt_iff_lt_mul (Nat.pow_pos (by decide))).2 ?_
  rw [Nat.mul_right_comm, ← Nat.pow_add, show n - 1 + m = m + n - 1 by omega]
  exact Nat.mul_lt_mul_of_pos_right hVl (Nat.pow_pos (by decide))
theorem lz_norm {y s : Nat} (hs : s ≤ 64) (h1 : 0 < y) (h2 : y * 2 ^ s < W64) {k : Nat} {ys : List Nat} (hd : Dig W64 ys) (hl : ys.length = k + 1) (hy : ys[k]'(by omega) = y) : W64 ^ k * 2 ^ s ≤ val W64 ys * 2 ^ s ∧ val W64 ys * 2 ^ s < W64 ^ (k + 1) := by
  have h3 := val_take_succ W64 (xs := ys) (k := k) (by omega)
  rw [← hl, List.take_length, hy] at h3
  have h4 := val_lt (hd.take k)
  rw [List.length_take, Nat.min_eq_left (by omega)] at h4
  constructor
  · refine Nat.mul_le_mul_right _ ?_
    have := Nat.mul_le_mul_left (W64 ^ k) h1
    rw [Nat.mul_one] at this
    omega
  · have h5 : val W64 ys < W64 ^ k * (y + 1) := by rw [h3, Nat.mul_add, Nat.mul_one]; omega
    have h6 : y < 2 ^ (64 - s) := by
      have e := w64_split hs
      rw [e] at h2
      exact Nat.lt_of_mul_lt_mul_right h2
    have h7 : W64 ^ k * (y + 1) * 2 ^ s ≤ W64 ^ (k + 1) := by
      rw [Nat.mul_assoc, Nat.pow_succ, w64_split hs]
      exact Nat.mul_le_mul_left _ (Nat.mul_le_mul_right _ h6)
    exact Nat.lt_of_lt_of_le (Nat.mul_lt_mul_of_pos_right h5 (Nat.pow_pos (by decide))) h7
end Go.Proofs.YtjamfkafgfpobaaGreat
/-! ### Bw -/
namespace Go.Proofs.YtjamfkafgfpobaaGreat
open Go.RowKit Nb
theorem Row.sl_mid {k : IntKind} {w : World} {g B off : Nat} {e : TypeId} {pre zs post : List Nat} (h : Row k w g e (pre ++ (zs ++ post))) (ho : pre.length = off) (hB : g < B) : Sl k w B (some ⟨g, off, none⟩) zs := fun _ => by
  subst ho
  refine ⟨_, rfl, hB, fun j hj => ?_⟩
  have h1 : (⟨g, pre.length, none⟩ : Addr).add j = ⟨g, pre.length + j, none⟩ := by
    unfold Addr.add; by_cases hz : j = 0 <;> simp [hz]
  rw [h1, h.cell (i := pre.length + j) (by simp; omega)]
  rw [get_mid pre zs post hj]
theorem split_one {ps : List Nat} {n : Nat} (hl : ps.length = n + 1) : ps = ps.take n ++ [ps[n]'(by omega)] := by
  have h3 := take_succ' (xs := ps) (k := n) (by omega)
  rw [← hl, List.take_length] at h3
  exact h3
/-- What one round of the inner loop leaves. -/
structure In (P Y g M : Nat) (ps : List Nat) (n : Nat) : Prop where
  len : ps.length = n + 1
  dig : Dig W64 ps
  m : M ≤ 1
  lt : g < W64
  eq : val W64 ps + Y * g = P + W64 ^ (n + 1) * M
  ge : P / Y ≤ g
theorem In.done {P Y g : Nat} {ps : List Nat} {n : Nat} (h : In P Y g 0 ps n) (hY : 0 < Y) (hYn : Y ≤ W64 ^ n) : g = P / Y ∧ val W64 (ps.take n) = P % Y ∧ ps = ps.take n ++ [0] := by
  have e := h.eq
  rw [Nat.mul_zero, Nat.add_zero] at e
  obtain ⟨h1, h2⟩ := quo_done hY e h.ge
  have h3 := top_nought h.len (by rw [h2]; exact Nat.mod_lt _ hY) hYn
  refine ⟨h1, ?_, h3⟩
  rw [← h2]
  conv => rhs; rw [h3]
  rw [val_snoc]; omega
theorem In.pos {P Y g : Nat} {ps : List Nat} {n : Nat} (h : In P Y g 1 ps n) (hY : 0 < Y) : P / Y < g := by
  have e := h.eq
  rw [Nat.mul_one] at e
  have h2 := val_lt h.dig
  rw [h.len] at h2
  exact quo_more hY e h2 h.ge
theorem In.back {P Y g o o2 d : Nat} {ps zs ys : List Nat} {n : Nat} (h : In P Y g 1 ps n) (hY : 0 < Y) (hyv : val W64 ys = Y) (hz : zs.length = n) (dz : Dig W64 zs) (hd : d < W64) (ho2 : o2 ≤ 1)
    (h1 : val W64 zs + W64 ^ n * o = val W64 (ps.take n) + val W64 ys) (h2 : d + W64 * o2 = ps[n]'(by have := h.len; omega) + 0 + o) : In P Y (g - 1) (1 - o2) (zs ++ [d]) n := by
  have hp := h.pos hY
  have hg := h.lt
  have e := h.eq
  have hv : val W64 ps = val W64 (ps.take n) + W64 ^ n * ps[n]'(by have := h.len; omega) := by
    have h5 := val_take_succ W64 (xs := ps) (k := n) (by have := h.len; omega)
    have h6 : ps.take (n + 1) = ps := by rw [← h.len]; exact List.take_length
    rw [h6] at h5
    exact h5
  have hj := bw_join h1 h2
  rw [← hv, hyv] at hj
  have hz2 : val W64 (zs ++ [d]) = val W64 zs + W64 ^ n * d := by rw [val_snoc, hz]
  rw [← hz2] at hj
  exact ⟨by simp [hz], dig_snoc dz hd, Nat.sub_le _ _, Nat.lt_of_le_of_lt (Nat.sub_le _ _) hg, bw_back (Nat.lt_of_le_of_lt (Nat.zero_le _) hp) ho2 e hj, Nat.le_sub_one_of_lt hp⟩
theorem wpList_copy_any {P : Program} (w : World) {ops : Array Oper} {rest : List Oper} {o : Oper} {a : Act} {Q : Exit → Act → World → Prop} (hgd : o.guard = none) (d s : Operand) (dT sT : TypeId)
    (ho : o.op = .call { callee := .builtin .copy, args := #[d, s], argTypes := #[dT, sT] }) (elem : TypeId) (hu : P.underlying dT = some (.slice elem)) (hsz : (P.info? elem).map (·.size) = some 1)
    (A : Option Addr) (k : IntKind) (g B : Nat) (zs xs : List Nat) (dCap sCap : Nat) (hd : a.eval d = .slice (some ⟨g, 0, none⟩) zs.length dCap) (hs : a.eval s = .slice A xs.length sCap)
    (hz : Row k w g elem zs) (hx : Sl k w B A xs) (hl : xs.length ≤ zs.length)
    (hK : ∀ w', Row k w' g elem (xs ++ zs.drop xs.length) → Below g w w' → wpList P ops Q rest (a.put o.dst (goInt xs.length)) w') : wpList P ops Q (o :: rest) a w := by
  refine wpList_copy_splice hgd d s dT sT ho elem hu hsz _ _ _ _ _ _ hd hs g 0 (zs.map fun n : Nat => Value.int k n) elem hz (xs.map fun n : Nat => Value.int k n) (by rw [List.length_map]; exact (Nat.min_eq_left hl).symm) (fun hn => ⟨rfl, ?_⟩) (by simpa using hl) (fun v hv => ?_) g w (Below.refl _ _) (Nat.le_refl _) (fun w' h1 h2 => ?_)
  · obtain ⟨ad, e, _, hc⟩ := hx (by simpa using hn)
    refine ⟨ad, e, fun j v hv => ?_⟩
    rw [List.getElem?_map] at hv
    rcases hj : xs[j]? with _ | u
    · rw [hj] at hv; cases hv
    · rw [hj] at hv
      obtain ⟨hlt, rfl⟩ := List.getElem?_eq_some_iff.1 hj
      rw [hc j hlt]; exact hv
  · obtain ⟨n, _, rfl⟩ := List.mem_map.1 hv
    rfl
  · rw [List.length_map]
    refine hK w' ?_ h2
    have h3 := h1.out
    unfold Row
    rw [h3]
    simp [splice, List.map_drop]
theorem at_get (b c : List Nat) (t : Nat) {i : Nat} (hb : b.length = i) (h : i < (b ++ (t :: c)).length) : (b ++ (t :: c))[i] = t := by
  subst hb; simp
theorem at_set (b c : List Nat) (t v : Nat) {i : Nat} (hb : b.length = i) : (b ++ (t :: c)).set i v = b ++ (v :: c) := by
  subst hb; simp
theorem at_lt (b c : List Nat) (t : Nat) {i : Nat} (hb : b.length = i) : i < (b ++ (t :: c)).length := by
  subst hb; simp
theorem len_of {k : Nat} {zs : List Nat} (hn : Norm zs) (hd : Dig W64 zs) (h1 : W64 ^ k ≤ val W64 zs) (h2 : val W64 zs < W64 ^ (k + 1)) : zs.length = k + 1 := by
  have h3 := len_pow (B := W64) (by decide) hn h2
  have h4 := val_lt hd
  have h5 : W64 ^ k < W64 ^ zs.length := by omega
  have h6 := (Nat.pow_lt_pow_iff_right (show 1 < W64 by decide)).1 h5
  omega
theorem cons_row {X mid Z : List Nat} {k : Nat} (hk : k < X.length) : X.take (k + 1) ++ (mid ++ Z) = X.take k ++ ((X[k] :: mid) ++ Z) := by
  rw [take_succ' hk, List.append_assoc]; rfl
/-- Two lists of words that tell two numbers, the second in a block of its own. -/
def Words2O (w : World) (V U C : Nat) (e : Ending) (w' : World) : Prop := ∃ (A : Option Addr) (zs : List Nat) (c : Nat) (B : Option Addr) (rs : List Nat) (d : Nat), e = .returned (.tuple #[.slice A zs.length c, .slice B rs.length d]) ∧
  Sl .u64 w' w'.heap.size A zs ∧ Dig W64 zs ∧ Norm zs ∧ val W64 zs = V ∧ zs.length ≤ c ∧ c ≤ C ∧
  Sl .u64 w' w'.heap.size B rs ∧ Dig W64 rs ∧ Norm rs ∧ val W64 rs = U ∧ rs.length ≤ d ∧ d ≤ C ∧ Below w.heap.size w w' ∧
  w'.ownsRow w.heap.size 160 1 (.slice B rs.length d) rs.length (rs.map fun n : Nat => Value.int .u64 n)
theorem own_less {w : World} {B B' : Nat} {e : TypeId} {z : Nat} {v : Value} {n : Nat} {vs : List Value} (h : w.ownsRow B e z v n vs) (hB : B' ≤ B) : w.ownsRow B' e z v n vs := by
  obtain ⟨h1, h2 | ⟨g, cap, cur, h3, h4, h5⟩⟩ := h
  · exact ⟨h1, .inl h2⟩
  · exact ⟨h1, .inr ⟨g, cap, cur, h3, Nat.le_trans hB h4, h5⟩⟩
set_option maxHeartbeats 4000000 in
set_option maxRecDepth 20000 in
theorem byWords_own (A B : Option Addr) (xs ys : List Nat) (c d j : Nat) (w : World) (hx : Sl .u64 w w.heap.size A xs) (hy : Sl .u64 w w.heap.size B ys) (dx : Dig W64 xs) (dy : Dig W64 ys) (ny : Norm ys)
    (hjl : ys.length = j + 2) (hle : j + 2 ≤ xs.length) (hl : (xs.length + 1) * 8 ≤ 140737488351232) :
    Calls Tryz.prog 136 #[.slice A xs.length c, .slice B ys.length d] w (Words2O w (val W64 xs / val W64 ys) (val W64 xs % val W64 ys) (xs.length + 1)) := by
  obtain ⟨bd, rfl, hbd, h1⟩ := hy.at_ (i := j + 1) (by omega)
  have htop : 0 < ys[j + 1]'(by omega) := by
    have := (norm_iff (xs := ys) (by omega)).1 ny
    simp only [hjl] at this
    exact Nat.pos_of_ne_zero this
  obtain ⟨y1, hy1⟩ : ∃ y1, ys[j + 1]'(by omega) = y1 := ⟨_, rfl⟩
  rw [hy1] at h1 htop
  have hy1W : y1 < W64 := by rw [← hy1]; exact dy.get _
  obtain ⟨s, hs, hs63, hyl, hyh⟩ := lz64_ex y1 htop hy1W
  obtain ⟨hlo, hhi⟩ := lz_norm (by omega) htop hyh dy hjl hy1
  obtain ⟨n, hn⟩ : ∃ n, ys.length = n := ⟨_, rfl⟩
  have hn1 : n = j + 1 + 1 := by omega
  have h1' : w.cell? (bd.add (n - 1)) = some (.int .u64 (y1 : Nat)) := by rw [hn1]; exact h1
  have hn2 : 2 ≤ n := by omega
  have hnx : n ≤ xs.length := by omega
  have hUy : ∀ W : World, Sl .u64 W W.heap.size (some bd) ys → Calls Tryz.prog 150 #[.slice (some bd) n d, .int .u64 s] W (Words W (val W64 ys * 2 ^ s) (n + s / 64 + 1)) := fun W h => by
    rw [← hn]; exact shiftUp_any (some bd) ys d s W h dy (by simp only [W64]; omega) (fun _ => by omega)
  have hUx : ∀ W : World, Sl .u64 W W.heap.size A xs → Calls Tryz.prog 150 #[.slice A xs.length c, .int .u64 s] W (Words W (val W64 xs * 2 ^ s) (xs.length + s / 64 + 1)) := fun W h => shiftUp_any A xs c s W h dx (by simp only [W64]; omega) (fun _ => by omega)
  rw [hn]
  have HUY := Lib.hid hUy
  have HUX := Lib.hid hUx
  have HJ := Lib.hid (And.intro hn (And.intro hjl (And.intro hn1 (And.intro hlo (And.intro hhi hle)))))
  clear hUy hUx hn hjl hn1 hlo hhi hle h1 hy1 hyl hyh
  have hxl : xs.length ≤ 17592186043904 := by omega
  obtain ⟨m, hm⟩ : ∃ m, m + n = xs.length + 1 := ⟨xs.length + 1 - n, by omega⟩
  go_enter Tryz.func136, Tryz.ntmps136
  go_wp2_with fail
  go_step3
  go_wp2_with (go_at_call 149; refine (hs _).mono ?_; rintro e w' ⟨rfl, rfl⟩)
  refine (HUY.out _ hy).mono ?_
  rintro e w1 ⟨A1, yz, c1, rfl, hsy, hdy, hny, hvy, hcy1, hcy2, hby⟩
  have hyzl : yz.length = n := by
    have h1 := HJ.out.2.2.1
    rw [h1]
    refine len_of hny hdy ?_ ?_
    · rw [hvy]
      refine Nat.le_trans ?_ HJ.out.2.2.2.1
      exact Nat.le_mul_of_pos_right _ (Nat.pow_pos (by decide))
    · rw [hvy]; exact HJ.out.2.2.2.2.1
  rw [hyzl]
  go_wp2_with (at_make; refine wpList_make_row _ rfl _ _ 70 rfl 160 .u64 8 Tryz.underlying70 info_u64 _ _ _ _ (xs.length + 1) rfl rfl (by omega) (by omega) (by omega) (by unfold maxLen; omega) ?_
               intro w2 hrow2 hbel2)
  have hb2 := hby.trans (hbel2.mono hby.size)
  refine (HUX.out _ ((hx.below hb2).more hb2.size)).mono ?_
  rintro e w3 ⟨A2, xz, c2, rfl, hsx, hdx, hnxz, hvx, hcx1, hcx2, hbx⟩
  have hrow3 := hrow2.below hbx hrow2.lt
  have hxzl : xz.length ≤ xs.length + 1 := by omega
  go_wp2_with (first
    | ((with_reducible refine wpList_copy_any _ rfl (.tmp 29) (.tmp 32) 70 70 rfl 160 Tryz.underlying70 info_u64s A2 .u64 w1.heap.size _ (List.replicate (xs.length + 1) 0) xz (xs.length + 1) c2 (by simp [Act.eval]) rfl hrow3 hsx (by simpa using hxzl) ?_)
       intro w4 hrow4 hbel4)
    | (at_make; refine wpList_make_row _ rfl _ _ 70 rfl 160 .u64 8 Tryz.underlying70 info_u64 _ _ _ _ m rfl rfl (by omega) (by omega) (by omega) (by unfold maxLen; omega) ?_
       intro w5 hrow5 hbel5))
  have hrowR0 := hrow4.below hbel5 hrow4.lt
  have hg1 : w.heap.size ≤ w1.heap.size := hby.size
  have hg2 : w1.heap.size < w4.heap.size := hrow4.lt
  have hb3 := hb2.trans (hbx.mono hb2.size)
  have hb4 := hb3.trans (hbel4.mono hg1)
  have hb5 := hb4.trans (hbel5.mono hb4.size)
  have hsy5 : Sl .u64 w5 w1.heap.size A1 yz := (((hsy.below hbel2).below (hbx.mono (Nat.le_of_lt hrow2.lt))).below hbel4).below (hbel5.mono (Nat.le_of_lt hg2))
  obtain ⟨X, hX⟩ : ∃ X, xz ++ (List.replicate (xs.length + 1) 0).drop xz.length = X := ⟨_, rfl⟩
  rw [hX] at hrowR0
  have hXl : X.length = m + n := by rw [← hX]; simp; omega
  have hXd : Dig W64 X := by rw [← hX]; exact hdx.append ((Dig.replicate (by decide) _).drop _)
  have hXv : val W64 X = val W64 xs * 2 ^ s := by rw [← hX, val_append, List.drop_replicate, val_replicate, hvx]; simp
  obtain ⟨Y, hY⟩ : ∃ Y, val W64 yz = Y := ⟨_, rfl⟩
  have hYp : 0 < Y := by
    rw [← hY, hvy]
    exact Nat.lt_of_lt_of_le (Nat.mul_pos (Nat.pow_pos (by decide)) (Nat.pow_pos (by decide))) HJ.out.2.2.2.1
  have hYn : Y ≤ W64 ^ n := by
    rw [← hY, ← hyzl]; exact Nat.le_of_lt (val_lt hdy)
  have hstart : val W64 (X.drop m) < Y := by
    refine bw_start (n := n) (V := val W64 xs) (p := s) hXd hXl hXv ?_ ?_ (by omega)
    · rw [show m + n - 1 = xs.length by omega]; exact val_lt dx
    · rw [← hY, hvy, HJ.out.2.2.1, Nat.add_sub_cancel]; exact HJ.out.2.2.2.1
  have HV := Lib.hid (And.intro hXv (And.intro hvy hY))
  have HXL := Lib.hid hXl
  have HY := Lib.hid (And.intro hYp hYn)
  have HYL := Lib.hid hyzl
  have HB5 := Lib.hid hb5
  have HSY := Lib.hid hsy5
  have hmp : 1 ≤ m := by omega
  have hstart2 : Row .u64 w5 w1.heap.size 160 (X.take m ++ (X.drop m ++ List.replicate (m - m) 0)) := by
    rw [Nat.sub_self, List.replicate_zero, List.append_nil, List.take_append_drop]; exact hrowR0
  have hstart3 : Row .u64 w5 w4.heap.size 160 ((List.replicate m 0).take m ++ []) := by
    rw [List.append_nil, List.take_of_length_le (by simp)]; exact hrow5
  have hlX : (X.drop m).length = n := by rw [List.length_drop]; omega
  clear hX hXv hvy hY hvx hrow2 hrow3 hrow4 hrow5 hrowR0 hbel2 hbel4 hbel5 hbx hby hb2 hb3 hb4 hb5 hsy hsy5 hsx hdx hnxz hcx1 hcx2 hcy1 hcy2 hxzl hyzl hXl hYp hYn
  go_step3
  go_wp2_with fail
  go_loopg [9] m (fun g iv wr => ∃ (q : Int) (mid qs : List Nat), iv = .int .i64 q ∧ q + 1 = g ∧ g ≤ m ∧ mid.length = n ∧ Dig W64 mid ∧ val W64 mid < Y ∧ qs.length = m - g ∧ Dig W64 qs ∧ val W64 (X.drop g) = val W64 qs * Y + val W64 mid ∧
      Row .u64 wr w1.heap.size 160 (X.take g ++ (mid ++ List.replicate (m - g) 0)) ∧ Row .u64 wr w4.heap.size 160 ((List.replicate m 0).take g ++ qs) ∧ Upd2 w1.heap.size w4.heap.size w5 wr)
  case atStart => exact ⟨(m : Int) - 1, X.drop m, [], by go_num, by omega, Nat.le_refl _, hlX, hXd.drop m, hstart, by simp, Dig.nil _, by simp [val], hstart2, hstart3, Upd2.refl _ _ _⟩
  case round =>
    obtain ⟨q, mid, qs, rfl, hq, hgm, hml, hmd, hmv, hql, hqd, he, hrR, hrQ, hu⟩ := hrel
    clear hstart2 hstart3 hstart hlX
    have HE := Lib.hid he
    have HML := Lib.hid hml
    have HQL := Lib.hid hql
    clear he hml hql
    cases gk with
    | zero =>
      obtain rfl : q = -1 := by omega
      clear hq
      rw [List.take_zero, List.nil_append, Nat.sub_zero] at hrR
      rw [List.take_zero, List.nil_append] at hrQ
      have hQL := HQL.out
      have hML := HML.out
      have hE := HE.out
      rw [List.drop_zero, HV.out.1, ← HV.out.2.2, HV.out.2.1] at hE
      have hYp : 0 < val W64 ys * 2 ^ s := by rw [← HV.out.2.1, HV.out.2.2]; exact HY.out.1
      have hmv2 : val W64 mid < val W64 ys * 2 ^ s := by rw [← HV.out.2.1, HV.out.2.2]; exact hmv
      have hp2 : 0 < 2 ^ s := Nat.pow_pos (by decide)
      have hqv : val W64 qs = val W64 xs / val W64 ys := by
        have h1 : val W64 xs * 2 ^ s / (val W64 ys * 2 ^ s) = val W64 qs := by
          rw [hE, Nat.mul_comm, Nat.mul_add_div hYp, Nat.div_eq_of_lt hmv2]; rfl
        rw [Nat.mul_div_mul_right _ _ hp2] at h1
        exact h1.symm
      have hrv : val W64 mid / 2 ^ s = val W64 xs % val W64 ys := by
        have h1 : val W64 xs * 2 ^ s % (val W64 ys * 2 ^ s) = val W64 mid := by
          rw [hE, Nat.mul_comm, Nat.mul_add_mod, Nat.mod_eq_of_lt hmv2]
        rw [Nat.mul_mod_mul_right] at h1
        rw [← h1, Nat.mul_div_cancel _ hp2]
      have hszQ := hrQ.lt
      have hszR := hrR.lt
      have hslQ := hrQ.sl hszQ
      have hslR : Sl .u64 wr wr.heap.size (some ⟨w1.heap.size, 0, none⟩) mid := Row.sl_mid (pre := []) (by simpa using hrR) rfl hszR
      have hTQ : ∀ W, Sl .u64 W W.heap.size (some ⟨w4.heap.size, 0, none⟩) qs → Calls Tryz.prog 129 #[.slice (some ⟨w4.heap.size, 0, none⟩) m m] W fun e w' => e = .returned (.slice (some ⟨w4.heap.size, 0, none⟩) (trimL qs).length m) ∧ W = w' := fun W h => by
        have := trim_any (some ⟨w4.heap.size, 0, none⟩) qs m W h (by omega) (by unfold maxLen; omega)
        rw [show qs.length = m by omega] at this; exact this
      have hTR : ∀ W, Sl .u64 W W.heap.size (some ⟨w1.heap.size, 0, none⟩) mid → Calls Tryz.prog 129 #[.slice (some ⟨w1.heap.size, 0, none⟩) n (xs.length + 1)] W fun e w' => e = .returned (.slice (some ⟨w1.heap.size, 0, none⟩) (trimL mid).length (xs.length + 1)) ∧ W = w' := fun W h => by
        have := trim_any (some ⟨w1.heap.size, 0, none⟩) mid (xs.length + 1) W h (by omega) (by unfold maxLen; omega)
        rw [hML] at this; exact this
      have hSD : ∀ W, Sl .u64 W W.heap.size (some ⟨w1.heap.size, 0, none⟩) (trimL mid) → Calls Tryz.prog 153 #[.slice (some ⟨w1.heap.size, 0, none⟩) (trimL mid).length (xs.length + 1), .int .u64 s] W (WordsO W (val W64 xs % val W64 ys) (trimL mid).length) := fun W h => by
        have hln := trimL_len mid
        have := shiftDown_own (some ⟨w1.heap.size, 0, none⟩) (trimL mid) (xs.length + 1) s W h (dig_trimL hmd) (by omega) (by omega) (by simp only [W64]; omega)
        rw [val_trimL, hrv] at this; exact this
      have HTQ := Lib.hid hTQ
      have HTR := Lib.hid hTR
      have HSD := Lib.hid hSD
      have HQV := Lib.hid hqv
      have hbw := HB5.out.trans (hu.below (B := w.heap.size) hg1 (by omega))
      have hlnq := trimL_len qs
      have hlnr := trimL_len mid
      have hnI : (n : Int) ≤ (xs.length : Int) + 1 := by omega
      clear hTQ hTR hSD hqv hrv hE hmv2 hYp
      go_wp2_with fail
      have hslQ' : Sl .u64 wr.drew wr.drew.heap.size (some ⟨w4.heap.size, 0, none⟩) qs := hslQ.below ((Below.refl _ _).drew)
      have hslR' : Sl .u64 wr.drew wr.drew.heap.size (some ⟨w1.heap.size, 0, none⟩) mid := hslR.below ((Below.refl _ _).drew)
      have hslT' := sl_trimL hslR'
      have hbwd : Below w.heap.size w wr.drew := hbw.drew
      have hszd : wr.drew.heap.size = wr.heap.size := rfl
      refine wp_region_noPanic ?_
      refine wp_region_held_drew (S := fun _ => True) (by kernel_rfl) True.intro (fun hHeld => ?_)
      generalize wr.drew = wd at *
      refine wpAnyH_take (i := 0) (v := ?_) (by (simp only [List.getElem?_toArray, List.getElem?_cons_zero]; rfl)) (by kernel_rfl) (by kernel_rfl) (by kernel_rfl) (fun _ _ _ h => h) (Or.inl ⟨by rfl, ?_⟩) (by assumption) ?_
      rotate_left
      · intro wt hSw
        (try dsimp only at hSw)
        go_simp
        (try with_reducible rfl)
      (try simp only [Act.put, List.setIfInBounds_toArray, List.set_cons_zero, List.set_cons_succ])
      refine wpAnyH_take (i := 2) (v := ?_) (by (simp only [List.getElem?_toArray, List.getElem?_cons_succ, List.getElem?_cons_zero]; rfl)) (by kernel_rfl) (by kernel_rfl) (by kernel_rfl) (fun _ _ _ h => h) (Or.inl ⟨by rfl, ?_⟩) (by assumption) ?_
      rotate_left
      · intro wt hSw
        (try dsimp only at hSw)
        go_simp
        (try with_reducible rfl)
      (try simp only [Act.put, List.setIfInBounds_toArray, List.set_cons_zero, List.set_cons_succ])
      refine wpAnyH_take (i := 3) (v := ?_) (by (simp only [List.getElem?_toArray, List.getElem?_cons_succ, List.getElem?_cons_zero]; rfl)) (by kernel_rfl) (by kernel_rfl) (by kernel_rfl) (fun _ _ _ h => h) (Or.inl ⟨by rfl, ?_⟩) (by assumption) ?_
      rotate_left
      · intro wt hSw
        (try dsimp only at hSw)
        go_simp
        (try with_reducible rfl)
      (try simp only [Act.put, List.setIfInBounds_toArray, List.set_cons_zero, List.set_cons_succ])
      refine wpAnyH_take (i := 4) (v := ?_) (by (simp only [List.getElem?_toArray, List.getElem?_cons_succ, List.getElem?_cons_zero]; rfl)) (by kernel_rfl) (by kernel_rfl) (by kernel_rfl) (fun _ _ _ h => h) (Or.inl ⟨by rfl, ?_⟩) (by assumption) ?_
      rotate_left
      · intro wt hSw
        (try dsimp only at hSw)
        go_simp
        (try with_reducible rfl)
      (try simp only [Act.put, List.setIfInBounds_toArray, List.set_cons_zero, List.set_cons_succ])
      refine wpAnyH_take (i := 6) (v := ?_) (by (simp only [List.getElem?_toArray, List.getElem?_cons_succ, List.getElem?_cons_zero]; rfl)) (by kernel_rfl) (by kernel_rfl) (by kernel_rfl) (fun _ _ _ h => h) (Or.inl ⟨by rfl, ?_⟩) (by assumption) ?_
      rotate_left
      · intro wt hSw
        (try dsimp only at hSw)
        go_simp
        (try with_reducible rfl)
      (try simp only [Act.put, List.setIfInBounds_toArray, List.set_cons_zero, List.set_cons_succ])
      refine wpAnyH_ready (rs := [1]) (by kernel_rfl) (by simp) (AllReadyH.cons (by (simp only [List.getElem?_toArray, List.getElem?_cons_succ, List.getElem?_cons_zero]; rfl)) (fun K hK => ?_) AllReadyH.nil)
      go_simp
      (go_at_call 129; (with_reducible refine (HTQ.out _ hslQ').mono ?_); rintro e wa ⟨rfl, rfl⟩)
      (try go_wp2_with fail)
      refine hK.out _ _ True.intro (fun hHeld => ?_)
      clear hK
      (try simp only [Act.put, List.setIfInBounds_toArray, List.set_cons_zero, List.set_cons_succ])
      refine wpAnyH_ready (rs := [5]) (by kernel_rfl) (by simp) (AllReadyH.cons (by (simp only [List.getElem?_toArray, List.getElem?_cons_succ, List.getElem?_cons_zero]; rfl)) (fun K hK => ?_) AllReadyH.nil)
      go_simp
      (go_at_call 129; (with_reducible refine (HTR.out _ hslR').mono ?_); rintro e wa ⟨rfl, rfl⟩)
      (try go_wp2_with fail)
      refine hK.out _ _ True.intro (fun hHeld => ?_)
      clear hK
      (try simp only [Act.put, List.setIfInBounds_toArray, List.set_cons_zero, List.set_cons_succ])
      refine wpAnyH_ready (rs := [7]) (by kernel_rfl) (by simp) (AllReadyH.cons (by (simp only [List.getElem?_toArray, List.getElem?_cons_succ, List.getElem?_cons_zero]; rfl)) (fun K hK => ?_) AllReadyH.nil)
      go_simp
      (go_at_call 153; (with_reducible refine (HSD.out _ hslT').mono ?_); rintro e wb ⟨A3, rz, c3, rfl, hsr, hdr, hnr, hvr, hcr1, hcr2, hbr, howr⟩)
      (try go_wp2_with fail)
      refine hK.out _ _ True.intro (fun hHeld => ?_)
      clear hK
      (try simp only [Act.put, List.setIfInBounds_toArray, List.set_cons_zero, List.set_cons_succ])
      refine wpAnyH_take (i := 8) (v := ?_) (by (simp only [List.getElem?_toArray, List.getElem?_cons_succ, List.getElem?_cons_zero]; rfl)) (by kernel_rfl) (by kernel_rfl) (by kernel_rfl) (fun _ _ _ h => h) (Or.inl ⟨by rfl, ?_⟩) (by assumption) ?_
      rotate_left
      · intro wt hSw
        (try dsimp only at hSw)
        go_simp
        (try with_reducible rfl)
      (try simp only [Act.put, List.setIfInBounds_toArray, List.set_cons_zero, List.set_cons_succ])
      refine wpAnyH_take (i := 9) (v := ?_) (by (simp only [List.getElem?_toArray, List.getElem?_cons_succ, List.getElem?_cons_zero]; rfl)) (by kernel_rfl) (by kernel_rfl) (by kernel_rfl) (fun _ _ _ h => h) (Or.inl ⟨by rfl, ?_⟩) (by assumption) ?_
      rotate_left
      · intro wt hSw
        (try dsimp only at hSw)
        go_simp
        (try with_reducible rfl)
      (try simp only [Act.put, List.setIfInBounds_toArray, List.set_cons_zero, List.set_cons_succ])
      refine wpAnyH_done (by kernel_rfl) (NoPanic.normal ?_) _
      go_wp2
      rw [Exit.noGoto_ret]
      go_ret2
      exact ⟨_, _, _, _, _, _, rfl, ((sl_trimL hslQ').below hbr).more hbr.size, dig_trimL hqd, norm_trimL _, by rw [val_trimL, HQV.out], by omega, by omega, hsr, hdr, hnr, hvr, hcr1, by omega, hbwd.trans (hbr.mono hbwd.size), own_less howr hbwd.size⟩
    | succ k =>
      obtain rfl : q = k := by omega
      clear hq
      have hkm : k < m := by omega
      have hkX : k < X.length := by have := HXL.out; omega
      have hyzl := HYL.out
      have hMLo := HML.out
      have hxk := hXd.get hkX
      rw [cons_row hkX] at hrR
      obtain ⟨Zs, hZs⟩ : ∃ Zs, List.replicate (m - (k + 1)) 0 = Zs := ⟨_, rfl⟩
      rw [hZs] at hrR
      have hEk := val_drop_pred W64 hkX
      rw [HE.out] at hEk
      generalize X[k] = xk at *
      have hPd : Dig W64 (xk :: mid) := dig_cons hxk hmd
      have hPl : (xk :: mid).length = n + 1 := by simp [hMLo]
      have hPv : val W64 (xk :: mid) = xk + W64 * val W64 mid := rfl
      have hPs : val W64 (xk :: mid) < Y * W64 := by
        have := part_small hxk hmv
        simpa [val] using this
      obtain ⟨Pl, hPle⟩ : ∃ Pl, xk :: mid = Pl := ⟨_, rfl⟩
      rw [hPle] at hrR hPd hPl hPv hPs
      have hTk : (X.take k).length = k := by rw [List.length_take]; omega
      have hgrl := hrR.lt
      have hgql := hrQ.lt
      have hG : ∀ W, Sl .u64 W W.heap.size (some ⟨w1.heap.size, k, none⟩) Pl → Sl .u64 W W.heap.size A1 yz → Calls Tryz.prog 151 #[.slice (some ⟨w1.heap.size, k, none⟩) (n + 1) (xs.length + 1 - k), .slice A1 n c1] W fun e w' => ∃ q : Nat, e = .returned (.int .u64 q) ∧ q < W64 ∧ val W64 Pl / Y ≤ q ∧ Qu W w' := fun W h1 h2 => by
        have hn1 := HJ.out.2.2.1
        have := guess_any (some ⟨w1.heap.size, k, none⟩) A1 Pl yz (xs.length + 1 - k) c1 j W h1 h2 (by omega) (by omega) hPd hdy hny (by omega) (by rw [HV.out.2.2]; exact hPs)
        rw [HV.out.2.2, show j + 3 = n + 1 by omega, show j + 2 = n by omega] at this
        exact this
      have HG := Lib.hid hG
      have hslP : Sl .u64 wr wr.heap.size (some ⟨w1.heap.size, k, none⟩) Pl := Row.sl_mid hrR hTk hgrl
      have hslY : Sl .u64 wr w1.heap.size A1 yz := HSY.out.upd2 hu (Nat.le_refl _) (Nat.le_of_lt hg2)
      have hslY' : Sl .u64 wr wr.heap.size A1 yz := hslY.more (Nat.le_of_lt hgrl)
      have hki : (k : Int) < (m : Int) := by omega
      have hkn1 : (k : Int) + (n : Int) + 1 ≤ (xs.length : Int) + 1 := by omega
      have hkne : ¬ (xs.length + 1 = k) := by omega
      have hks : k + n + 1 - k = n + 1 := by omega
      have HEK := Lib.hid hEk
      have HPV := Lib.hid hPv
      have HPL := Lib.hid hPl
      have HTK := Lib.hid hTk
      clear hG hEk hPv hPs hPle hMLo hTk HE
      obtain ⟨PV, hPV⟩ : ∃ PV, val W64 Pl = PV := ⟨_, rfl⟩
      go_wp2_with fail
      refine (HG.out _ hslP hslY').mono ?_
      rintro e wg ⟨q0, rfl, hq0, hqg, hqu⟩
      have hrR1 := hrR.qu hqu
      have hrQ1 := hrQ.qu hqu
      have hu1 := hu.trans (Upd.qu2 (g := w1.heap.size) hqu).one
      have hlr : k < (List.replicate m 0).length := by simpa using hkm
      have gfq := hrQ1.frozen k
      have gcq := hrQ1.cell (i := k) (by have := HQL.out; simp; omega)
      rw [down_get _ _ hlr] at gcq
      have hrQ2 := hrQ1.set_ k q0
      rw [down_put _ _ _ hlr] at hrQ2
      have hrR2 := hrR1.far (p := ⟨w4.heap.size, k, none⟩) (Nat.ne_of_lt hg2) (.int .u64 (q0 : Nat))
      have hu2 := hu1.trans ((Upd.refl w4.heap.size wg).setCell k (.int .u64 (q0 : Nat))).two
      have hsl2 := HSY.out.upd2 hu2 (Nat.le_refl _) (Nat.le_of_lt hg2)
      have hTT := takeTimes_any w1.heap.size k (X.take k) Pl Zs yz A1 (xs.length + 1 - k) c1 q0 _ HTK.out hrR2 hsl2 (by rw [HPL.out, hyzl]) hPd hdy hq0 (by rw [HPL.out]; omega)
      rw [hyzl, HV.out.2.2, hPV] at hTT
      rw [hPV] at hqg
      have HTT := Lib.hid hTT
      have HR2 := Lib.hid hrR2
      have HQ2 := Lib.hid hrQ2
      have HU2 := Lib.hid hu2
      clear hTT hrR hrR1 hrQ hrQ1 hrR2 hrQ2 hu hu1 hu2 hsl2 hslP hslY hslY' HG hgrl hgql
      go_wp2_with fail
      refine (HTT.out).mono ?_
      rintro e wt ⟨P1, M1, rfl, hP1l, hP1d, hM1, hP1v, hrR3, hu3⟩
      have hrQ3 := (HQ2.out).upd hu3 (Nat.ne_of_gt hg2)
      have hin0 : In PV Y q0 M1 P1 n := ⟨hP1l, hP1d, hM1, hq0, hP1v, hqg⟩
      have hu3' := (HU2.out).trans hu3.one
      clear hP1l hP1d hM1 hP1v hu3 HTT HR2 HQ2 HU2 gcq gfq hqu
      go_wp2_with fail
      go_loopg [11] q0 (fun g2 mv wy => ∃ (M : Nat) (P2 : List Nat), mv = .int .u64 M ∧ In PV Y g2 M P2 n ∧ Row .u64 wy w1.heap.size 160 (X.take k ++ (P2 ++ Zs)) ∧ Row .u64 wy w4.heap.size 160 ((List.replicate m 0).take k ++ (g2 :: qs)) ∧ Upd2 w1.heap.size w4.heap.size w5 wy)
      case atStart => exact ⟨M1, P1, rfl, hin0, hrR3, hrQ3, hu3'⟩
      case round =>
        obtain ⟨M, P2, rfl, hin, hrR4, hrQ4, hu4⟩ := hrel
        clear hin0 hrR3 hrQ3 hu3'
        have HIN := Lib.hid hin
        rcases (show M = 0 ∨ M = 1 by have := hin.m; omega) with rfl | rfl
        · clear hin
          go_wp2
          go_roundg k
          case measure => omega
          case rel =>
            obtain ⟨h1, h2, h3⟩ := HIN.out.done HY.out.1 HY.out.2
            have hl := HIN.out.len
            refine ⟨(k : Int) - 1, P2.take n, gk :: qs, by go_num, by omega, by omega, by rw [List.length_take]; omega, HIN.out.dig.take n, by rw [h2]; exact Nat.mod_lt _ HY.out.1, by have := HQL.out; simp; omega, dig_cons HIN.out.lt hqd, ?_, ?_, hrQ4, hu4⟩
            · rw [HEK.out, val_cons, h2]
              refine bw_step rfl ?_ ?_
              · rw [h1, ← hPV, HPV.out]
              · rw [← hPV, HPV.out]
            · rw [h3] at hrR4
              have e5 : X.take k ++ ((P2.take n ++ [0]) ++ Zs) = X.take k ++ (P2.take n ++ List.replicate (m - k) 0) := by
                rw [replicate_split hkm, hZs, List.append_assoc]; rfl
              rw [e5] at hrR4
              exact hrR4
        · have hgp := Nat.lt_of_le_of_lt (Nat.zero_le _) (hin.pos HY.out.1)
          have hgW : (gk : Int) ≤ 18446744073709551615 := by have := hin.lt; simp only [W64] at this; omega
          have hgi : (1 : Int) ≤ (gk : Int) := by omega
          have hl := hin.len
          have htk0 : ((List.replicate m 0).take k).length = k := by simp; omega
          have gq1 := hrQ4.frozen k
          have gq2 := hrQ4.cell (i := k) (at_lt _ _ _ htk0)
          rw [at_get _ _ _ htk0] at gq2
          have hrQ5 := hrQ4.set_ k (gk - 1)
          rw [at_set _ _ _ _ htk0] at hrQ5
          have e6 := split_one hl
          obtain ⟨l, hll⟩ : ∃ l, P2[n]'(by omega) = l := ⟨_, rfl⟩
          have hlW : l < W64 := by rw [← hll]; exact hin.dig.get _
          rw [hll] at e6
          have e7 : X.take k ++ (P2 ++ Zs) = X.take k ++ (P2.take n ++ ([l] ++ Zs)) := by
            conv => lhs; rw [e6]
            rw [List.append_assoc (P2.take n)]
          rw [e7] at hrR4
          have hrR5 := hrR4.far (p := ⟨w4.heap.size, k, none⟩) (Nat.ne_of_lt hg2) (.int .u64 ((gk - 1 : Nat) : Int))
          have hu5 := hu4.trans ((Upd.refl w4.heap.size wr).setCell k (.int .u64 ((gk - 1 : Nat) : Int))).two
          have hsl5 := HSY.out.upd2 hu5 (Nat.le_refl _) (Nat.le_of_lt hg2)
          have hnl : (P2.take n).length = n := by rw [List.length_take]; omega
          have hPB := putBack_any w1.heap.size k (X.take k) (P2.take n) ([l] ++ Zs) yz A1 (xs.length + 1 - k) c1 _ HTK.out hrR5 hsl5 (by rw [hnl, hyzl]) (hin.dig.take n) hdy (by rw [hnl]; omega)
          rw [hnl, hyzl] at hPB
          have hcast : ((gk - 1 : Nat) : Int) = (gk : Int) - 1 := by omega
          rw [hcast] at hPB hrQ5 hu5
          have HPB := Lib.hid hPB
          have HQ5 := Lib.hid hrQ5
          have HU5 := Lib.hid hu5
          have HLL := Lib.hid hll
          have hnc : (n : Int) ≤ (xs.length : Int) + 1 - (k : Int) := by omega
          have hnc2 : n ≤ xs.length + 1 - k := by omega
          clear hPB hrQ5 hu5 hsl5 e6 e7 hrR4 hrR5 hrQ4 hin hcast
          go_wp2_with fail
          refine (HPB.out).mono ?_
          rintro e wp ⟨z2, o, rfl, hz2l, hz2d, ho, hz2v, hrR6, hu6⟩
          have hrQ6 := (HQ5.out).upd hu6 (Nat.ne_of_gt hg2)
          have hu7 := (HU5.out).trans hu6.one
          have e8 : X.take k ++ (z2 ++ ([l] ++ Zs)) = X.take k ++ ((z2 ++ [l]) ++ Zs) := by rw [List.append_assoc z2]
          rw [e8] at hrR6
          have hkn : (X.take k).length + z2.length = k + n := by rw [HTK.out, hz2l]
          have gr1 := hrR6.frozen (k + n)
          have gr2 := hrR6.cell (i := k + n) (mid_lt _ _ _ _ hkn)
          rw [mid_get _ _ _ _ hkn] at gr2
          obtain ⟨dd, o2, hadd, hdd, ho2, hvd⟩ := add64_ex l 0 o hlW (by decide) ho
          have hadd' : ∀ w, (callFunc 146 #[.int .u64 l, .int .u64 0, .int .u64 o]).run Tryz.prog w = .ok (.value (.tuple #[.int .u64 dd, .int .u64 o2])) w := hadd
          have hrR7 := hrR6.set_ (k + n) dd
          rw [mid_set _ _ _ _ dd hkn] at hrR7
          have hrQ7 := hrQ6.far (p := ⟨w1.heap.size, k + n, none⟩) (Nat.ne_of_gt hg2) (.int .u64 (dd : Nat))
          have hu8 := hu7.trans ((Upd.refl w1.heap.size wp).setCell (k + n) (.int .u64 (dd : Nat))).one
          have hin2 := HIN.out.back (o := o) (o2 := o2) (d := dd) (zs := z2) (ys := yz) HY.out.1 HV.out.2.2 hz2l hz2d hdd ho2 hz2v (by rw [HLL.out]; exact hvd)
          have HIN2 := Lib.hid hin2
          have HR7 := Lib.hid hrR7
          have HQ7 := Lib.hid hrQ7
          have HU8 := Lib.hid hu8
          have ho2i : (o2 : Int) ≤ 1 := by omega
          clear hadd hrR6 hrQ6 hu7 e8 hrR7 hrQ7 hu8 hin2 hvd hz2v hdd
          go_wp2
          go_roundg (gk - 1)
          case measure => omega
          case rel => exact ⟨1 - o2, z2 ++ [dd], by go_num, HIN2.out, HR7.out, HQ7.out, HU8.out⟩
theorem byWords_any (A B : Option Addr) (xs ys : List Nat) (c d j : Nat) (w : World) (hx : Sl .u64 w w.heap.size A xs) (hy : Sl .u64 w w.heap.size B ys) (dx : Dig W64 xs) (dy : Dig W64 ys) (ny : Norm ys)
    (hjl : ys.length = j + 2) (hle : j + 2 ≤ xs.length) (hl : (xs.length + 1) * 8 ≤ 140737488351232) :
    Calls Tryz.prog 136 #[.slice A xs.length c, .slice B ys.length d] w (Words2 w (val W64 xs / val W64 ys) (val W64 xs % val W64 ys) (xs.length + 1)) := by
  refine (byWords_own A B xs ys c d j w hx hy dx dy ny hjl hle hl).mono ?_
  rintro e w' ⟨A1, zs, c1, B1, rs, d1, h1, h2, h3, h4, h5, h6, h7, h8, h9, h10, h11, h12, h13, h14, _⟩
  exact ⟨A1, zs, c1, B1, rs, d1, h1, h2, h3, h4, h5, h6, h7, h8, h9, h10, h11, h12, h13, h14⟩
end Go.Proofs.YtjamfkafgfpobaaGreat
/-! ### Hq -/
namespace Go.Proofs.YtjamfkafgfpobaaGreat
open Go.RowKit Nb
theorem Words2.mono {w : World} {V U C C' : Nat} {e : Ending} {w' : World} (h : Words2 w V U C e w') (hC : C ≤ C') : Words2 w V U C' e w' := by
  obtain ⟨A, zs, c, B, rs, d, h1, h2, h3, h4, h5, h6, h7, h8, h9, h10, h11, h12, h13, h14⟩ := h
  exact ⟨A, zs, c, B, rs, d, h1, h2, h3, h4, h5, h6, by omega, h8, h9, h10, h11, h12, by omega, h14⟩
set_option maxHeartbeats 800000 in
theorem quotient_words (A B : Option Addr) (xs ys : List Nat) (c d C j : Nat) (w : World) (hx : Sl .u64 w w.heap.size A xs) (hy : Sl .u64 w w.heap.size B ys) (dx : Dig W64 xs) (dy : Dig W64 ys) (nx : Norm xs) (ny : Norm ys)
    (hjl : ys.length = j + 2) (hl : (xs.length + 1) * 8 ≤ 140737488351232) (hC : xs.length + 1 ≤ C) (hge : val W64 ys ≤ val W64 xs) :
    Calls Tryz.prog 140 #[.slice A xs.length c, .slice B ys.length d] w (Words2 w (val W64 xs / val W64 ys) (val W64 xs % val W64 ys) C) := by
  have hle := norm_len_le (B := W64) (by decide) ny dx hge
  have hcmp := compare_any A B xs ys c d w hx hy dx dy nx ny (by omega) (by omega)
  have hz := cmpI_ge (x := (val W64 xs : Nat)) (y := (val W64 ys : Nat)) (by omega)
  generalize cmpI (val W64 xs : Nat) (val W64 ys : Nat) = z at *
  have HC := Lib.hid hcmp
  have HB := Lib.hid (fun W (q : Qu w W) => byWords_any A B xs ys c d j W ((hx.below (q.below _)).more (q.below w.heap.size).size) ((hy.below (q.below _)).more (q.below w.heap.size).size) dx dy ny hjl (by omega) hl)
  have h1 : ((ys.length : Int) == 1) = false := beq_false_of_ne (by omega)
  have hn : ys.length ≤ 17592186043904 := by omega
  clear hcmp hge hx hy hjl
  go_enter Tryz.func140, Tryz.ntmps140
  go_wp2_with fail
  refine (HC.out).mono ?_
  rintro e w1 ⟨rfl, hq⟩
  have hb1 := hq.below w.heap.size
  go_wp2_with fail
  refine ((HB.out) w1 hq).mono ?_
  rintro e w2 ⟨A1, zs, c1, A2, rs, d1, rfl, h2, h3, h4, h5, h6, h7, h8, h9, h10, h11, h12, h13, hb2⟩
  go_wp2
  go_ret2
  exact ⟨A1, zs, c1, A2, rs, d1, rfl, h2, h3, h4, h5, h6, by omega, h8, h9, h10, h11, h12, by omega, hb1.trans (hb2.mono hb1.size)⟩
end Go.Proofs.YtjamfkafgfpobaaGreat
