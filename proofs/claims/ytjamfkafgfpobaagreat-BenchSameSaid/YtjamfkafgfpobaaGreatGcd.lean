/-
  Euclid's steps worked out by the highest words alone (Lehmer, Collins): what large's combined.word, foresee, highest, commonWord, steps.do and common return. Conditions: that the lists are lists of words, and that memory holds what comes of them.
-/
import Derived.Test.YtjamfkafgfpobaaGreatNums
import Derived.Test.YtjamfkafgfpobaaGreatProd2
import Derived.Test.YtjamfkafgfpobaaGreatOf
import Derived.BigQuiet
import Derived.Deep.QuietTactic
import Derived.Test.YtjamfkafgfpobaaGreatBws
import Derived.ArgAppend
import Derived.Deep.DeepCutAuto
import Derived.Test.YtjamfkafgfpobaaGreatText3
/-! ### Lehm -/
namespace Go.Proofs.YtjamfkafgfpobaaGreat
namespace Nb
/-- What the factors make of two numbers: both not below nought. -/
def Made (odd : Bool) (p q r s x y X Y : Nat) : Prop := if odd then q * y = X + p * x ∧ r * x = Y + s * y else p * x = X + q * y ∧ s * y = Y + r * x
/-- Where Euclid's steps stand: for whatever digits behind. -/
structure Eu (a0 b0 a b p q r s : Nat) (odd : Bool) : Prop where
  le : b ≤ a
  top : a0 = s * a + q * b
  rs : r ≤ s
  prs : p + r ≤ q + s
  one : 1 ≤ s
  first : q = 0 → a = a0 ∧ b = b0 ∧ p = 1 ∧ r = 0 ∧ s = 1 ∧ odd = false
  all : ∀ K α β : Nat, α < K → β < K → b0 * K + β ≤ a0 * K + α → ∃ X Y, Made odd p q r s (a0 * K + α) (b0 * K + β) X Y ∧ Nat.gcd X Y = Nat.gcd (a0 * K + α) (b0 * K + β) ∧ Y ≤ X ∧ (q ≠ 0 → Y < b0 * K + β ∧ Y < X ∧ X ≤ b0 * K + β) ∧
    (if odd then X + p * α = a * K + q * β ∧ Y + s * β = b * K + r * α else X + q * β = a * K + p * α ∧ Y + r * α = b * K + s * β)
theorem Eu.start {a b : Nat} (h : b ≤ a) : Eu a b a b 1 0 0 1 false :=
  ⟨h, by omega, by omega, by omega, by omega, fun _ => ⟨rfl, rfl, rfl, rfl, rfl, rfl⟩, fun K α β _ _ hle => ⟨a * K + α, b * K + β, by unfold Made; rw [if_neg (by decide)]; omega, rfl, hle, fun h => absurd rfl h, by rw [if_neg (by decide)]; omega⟩⟩
theorem eu_rest {n a b rest r s r' s' p q : Nat} (ha : a = n * b + rest) (h1 : r' = p + n * r) (h2 : s' = q + n * s) (hle : p + r ≤ q + s) (hrs : r ≤ s) (hn : 1 ≤ n) : r' ≤ s' := by
  subst h1; subst h2
  obtain ⟨m, rfl⟩ : ∃ m, n = m + 1 := ⟨n - 1, by omega⟩
  have h3 : m * r ≤ m * s := Nat.mul_le_mul_left _ hrs
  rw [Nat.add_mul, Nat.add_mul]
  omega
theorem Eu.fit {a0 b0 a b p q r s n rest : Nat} {odd : Bool} (h : Eu a0 b0 a b p q r s odd) (ha : a = n * b + rest) (hb : 0 < b) : q + n * s ≤ a0 := by
  rw [h.top, ha]
  have h1 : q * 1 ≤ q * b := Nat.mul_le_mul_left _ hb
  have h2 : n * s * 1 ≤ n * s * b := Nat.mul_le_mul_left _ hb
  have h3 : s * (n * b + rest) = n * s * b + s * rest := by grind
  have := Nat.zero_le (s * rest)
  omega
theorem Eu.fitr {a0 b0 a b p q r s n rest : Nat} {odd : Bool} (h : Eu a0 b0 a b p q r s odd) (ha : a = n * b + rest) (hlt : rest < b) : p + n * r ≤ q + n * s := by
  have hn : 1 ≤ n := by
    rcases Nat.eq_zero_or_pos n with h0 | h0
    · subst h0; have := h.le; omega
    · exact h0
  exact eu_rest ha rfl rfl h.prs h.rs hn
theorem gcd_step {X Y n : Nat} (h : n * Y ≤ X) : Nat.gcd Y (X - n * Y) = Nat.gcd X Y := by
  obtain ⟨d, rfl⟩ : ∃ d, X = n * Y + d := ⟨X - n * Y, by omega⟩
  rw [Nat.add_sub_cancel_left, Nat.gcd_comm (n * Y + d), Nat.mul_comm n Y, Nat.gcd_mul_left_add_right]
theorem eu_lin {p q r s n x y Y d : Nat} (h1 : p * x = n * Y + d + q * y) (h2 : s * y = Y + r * x) : (p + n * r) * x = d + (q + n * s) * y := by
  have h3 : n * (s * y) = n * Y + n * (r * x) := by rw [h2, Nat.mul_add]
  rw [Nat.add_mul, Nat.add_mul, Nat.mul_assoc, Nat.mul_assoc]
  omega
/-- One step more, that is sure. -/
theorem Eu.step {a0 b0 a b p q r s n rest : Nat} {odd : Bool} (h : Eu a0 b0 a b p q r s odd) (ha : a = n * b + rest) (hlt : rest < b) (h1 : q + n * s ≤ rest) (h2 : (q + n * s) + s ≤ b - rest) :
    Eu a0 b0 b rest r s (p + n * r) (q + n * s) (!odd) := by
  have hr' := h.fitr ha hlt
  have hs1 := h.one
  refine ⟨Nat.le_of_lt hlt, ?_, hr', ?_, ?_, fun h0 => by omega, fun K α β hα hβ hle => ?_⟩
  · rw [h.top, ha]; grind
  · have := h.rs; omega
  · rcases Nat.eq_zero_or_pos n with h0 | h0
    · subst h0; have := h.le; omega
    · have : 1 * s ≤ n * s := Nat.mul_le_mul_right _ h0
      omega
  · obtain ⟨X, Y, hM, hg, hYX, hpr, hA⟩ := h.all K α β hα hβ hle
    obtain ⟨t, ht⟩ : ∃ t, b = rest + t := ⟨b - rest, by omega⟩
    have h2' : (q + n * s) + s ≤ t := by omega
    have hK : 0 < K := by omega
    have hrs := h.rs
    obtain ⟨r', hr0⟩ : ∃ r', p + n * r = r' := ⟨_, rfl⟩
    obtain ⟨s', hs0⟩ : ∃ s', q + n * s = s' := ⟨_, rfl⟩
    rw [hr0, hs0] at hr'
    rw [hs0] at h1 h2'
    have e1 : s' * β ≤ rest * K := Nat.mul_le_mul h1 (Nat.le_of_lt hβ)
    have e2 : r' * α ≤ rest * K := Nat.mul_le_mul (by omega) (Nat.le_of_lt hα)
    have e3 : (s' + s) * β < t * K := by
      have h3 : (s' + s) * (β + 1) ≤ t * K := Nat.mul_le_mul h2' hβ
      rw [Nat.mul_add] at h3; omega
    have e4 : (r' + r) * α < t * K := by
      have h3 : (r' + r) * (α + 1) ≤ (s' + s) * (α + 1) := Nat.mul_le_mul_right _ (by omega)
      have h4 : (s' + s) * (α + 1) ≤ t * K := Nat.mul_le_mul h2' hα
      have h5 : (r' + r) * α ≤ (s' + s) * α := Nat.mul_le_mul_right _ (by omega)
      rw [Nat.mul_add] at h4; omega
    have hY0 : q ≠ 0 ∨ Y = b0 * K + β := by
      rcases Nat.eq_zero_or_pos q with h0 | h0
      · right
        obtain ⟨_, _, f3, f4, f5, f6⟩ := h.first h0
        subst f6; subst f4; subst f5
        unfold Made at hM
        rw [if_neg (by decide)] at hM
        omega
      · left; omega
    have hkey : n * Y ≤ X ∧ X - n * Y < Y ∧ (if odd then (X - n * Y) + r' * α = rest * K + s' * β else (X - n * Y) + s' * β = rest * K + r' * α) := by
      cases odd
      · rw [if_neg (by decide)] at hA ⊢
        obtain ⟨a1, a2⟩ := hA
        have e5 : X + s' * β = n * Y + rest * K + r' * α := by
          rw [← hr0, ← hs0]
          have : n * (Y + r * α) = n * (b * K + s * β) := by rw [a2]
          rw [ha] at a1
          grind
        have e6 : n * Y ≤ X := by omega
        have e7 : (s' + s) * β = s' * β + s * β := Nat.add_mul _ _ _
        have e8 : (r' + r) * α = r' * α + r * α := Nat.add_mul _ _ _
        have e9 : b * K = rest * K + t * K := by rw [ht, Nat.add_mul]
        exact ⟨e6, by omega, by omega⟩
      · rw [if_pos rfl] at hA ⊢
        obtain ⟨a1, a2⟩ := hA
        have e5 : X + r' * α = n * Y + rest * K + s' * β := by
          rw [← hr0, ← hs0]
          have : n * (Y + s * β) = n * (b * K + r * α) := by rw [a2]
          rw [ha] at a1
          grind
        have e6 : n * Y ≤ X := by omega
        have e7 : (s' + s) * β = s' * β + s * β := Nat.add_mul _ _ _
        have e8 : (r' + r) * α = r' * α + r * α := Nat.add_mul _ _ _
        have e9 : b * K = rest * K + t * K := by rw [ht, Nat.add_mul]
        exact ⟨e6, by omega, by omega⟩
    obtain ⟨k1, k2, k3⟩ := hkey
    refine ⟨Y, X - n * Y, ?_, by rw [gcd_step k1]; exact hg, Nat.le_of_lt k2, fun _ => ?_, ?_⟩
    · obtain ⟨d, rfl⟩ : ∃ d, X = n * Y + d := ⟨X - n * Y, by omega⟩
      rw [Nat.add_sub_cancel_left]
      unfold Made at hM ⊢
      cases odd
      · rw [if_neg (by decide)] at hM
        rw [if_pos (by decide)]
        exact ⟨hM.2, eu_lin hM.1 hM.2⟩
      · rw [if_pos rfl] at hM
        rw [if_neg (by decide)]
        exact ⟨hM.2, eu_lin hM.1 hM.2⟩
    · rcases hY0 with h0 | h0
      · have := hpr h0; omega
      · omega
    · cases odd
      · rw [if_neg (by decide)] at hA k3
        rw [if_pos (by decide), hr0, hs0]
        exact ⟨hA.2, k3⟩
      · rw [if_pos rfl] at hA k3
        rw [if_neg (by decide), hr0, hs0]
        exact ⟨hA.2, k3⟩
theorem Eu.fit2 {a0 b0 a b p q r s n rest : Nat} {odd : Bool} (h : Eu a0 b0 a b p q r s odd) (ha : a = n * b + rest) (hlt : rest < b) (h1 : q + n * s ≤ rest) : (q + n * s) + s ≤ a0 := by
  have hn : 1 ≤ n := by
    rcases Nat.eq_zero_or_pos n with h0 | h0
    · subst h0; have := h.le; omega
    · exact h0
  have h2 : 1 * s ≤ n * s := Nat.mul_le_mul_right _ hn
  have h3 := h.one
  have h4 : a0 = (q + n * s) * b + s * rest := by rw [h.top, ha]; grind
  have h5 : (q + n * s) * 1 ≤ (q + n * s) * b := Nat.mul_le_mul_left _ (by omega)
  have h6 : s * 1 ≤ s * rest := Nat.mul_le_mul_left _ (by omega)
  omega
/-- One word of a combination. -/
theorem comb_word {B m v l u o lo c oo : Nat} (h1 : l + B * u = m * v) (h2 : lo + B * c = l + o + 0) (h3 : oo = u + c) : lo + B * oo = m * v + o := by
  subst h3; rw [Nat.mul_add]; omega
theorem comb_small {B m v o lo oo : Nat} (hm : m < B) (hv : v < B) (ho : o < B) (h : lo + B * oo = m * v + o) : oo < B := by
  have h1 : m * v ≤ (B - 1) * (B - 1) := Nat.mul_le_mul (by omega) (by omega)
  obtain ⟨k, rfl⟩ : ∃ k, B = k + 1 := ⟨B - 1, by omega⟩
  rw [Nat.add_sub_cancel] at h1
  rcases Nat.lt_or_ge oo (k + 1) with h2 | h2
  · exact h2
  · have h3 : (k + 1) * (k + 1) ≤ (k + 1) * oo := Nat.mul_le_mul_left _ h2
    have h4 : (k + 1) * (k + 1) = k * k + k + k + 1 := by grind
    omega
/-- A combination, word by word: ds are its first k words, M and L what is over, d what is missing. -/
theorem comb_step {B k m l V W v w M M' L L' d d' z lo ll : Nat} {ds : List Nat} (h : val B ds + (l * W) + B ^ k * M = m * V + B ^ k * L + B ^ k * d) (hl : ds.length = k)
    (h1 : lo + B * M' = m * v + M) (h2 : ll + B * L' = l * w + L) (h3 : z + ll + d = lo + B * d') :
    val B (ds ++ [z]) + (l * (W + B ^ k * w)) + B ^ (k + 1) * M' = m * (V + B ^ k * v) + B ^ (k + 1) * L' + B ^ (k + 1) * d' := by
  rw [val_snoc, hl, Nat.pow_succ]
  generalize B ^ k = P at *
  have g1 : P * lo + P * B * M' = P * (m * v) + P * M := by rw [Nat.mul_assoc, ← Nat.mul_add, ← Nat.mul_add, h1]
  have g2 : P * ll + P * B * L' = P * (l * w) + P * L := by rw [Nat.mul_assoc, ← Nat.mul_add, ← Nat.mul_add, h2]
  have g3 : P * z + P * ll + P * d = P * lo + P * B * d' := by rw [Nat.mul_assoc, ← Nat.mul_add, ← Nat.mul_add, ← Nat.mul_add, h3]
  have g4 : l * (W + P * w) = l * W + P * (l * w) := by grind
  have g5 : m * (V + P * v) = m * V + P * (m * v) := by grind
  omega
theorem comb_end {B n m l V W M L d Z : Nat} {ds : List Nat} (h : val B ds + (l * W) + B ^ n * M = m * V + B ^ n * L + B ^ n * d) (hl : ds.length = n) (hd : Dig B ds) (hZ : m * V = Z + l * W) (hs : Z < B ^ n) : val B ds = Z := by
  have h1 := val_lt hd
  rw [hl] at h1
  rw [hZ] at h
  generalize B ^ n = P at *
  have h2 : val B ds + P * M = Z + P * (L + d) := by rw [Nat.mul_add]; omega
  have h3 : (val B ds + P * M) % P = (Z + P * (L + d)) % P := by rw [h2]
  rw [Nat.add_mul_mod_self_left, Nat.add_mul_mod_self_left, Nat.mod_eq_of_lt h1, Nat.mod_eq_of_lt hs] at h3
  exact h3
end Nb
end Go.Proofs.YtjamfkafgfpobaaGreat
/-! ### Comb -/
namespace Go.Proofs.YtjamfkafgfpobaaGreat
open Go.RowKit Nb
set_option maxHeartbeats 2000000 in
theorem word_any (g m l M L d v u : Nat) (w : World) (hr : Row .u64 w g 188 [m, l, M, L, d]) (hm : m < W64) (hl : l < W64) (hM : M < W64) (hL : L < W64) (hd : d ≤ 1) (hv : v < W64) (hu : u < W64) :
    Calls Tryz.prog 154 #[.pointer (some ⟨g, 0, none⟩), .int .u64 v, .int .u64 u] w fun e w' => ∃ z M' L' d' lo ll : Nat, e = .returned (.int .u64 z) ∧ z < W64 ∧ M' < W64 ∧ L' < W64 ∧ d' ≤ 1 ∧
      lo + W64 * M' = m * v + M ∧ ll + W64 * L' = l * u + L ∧ z + ll + d = lo + W64 * d' ∧ Row .u64 w' g 188 [m, l, M', L', d'] ∧ Upd g w w' := by
  obtain ⟨h1, l1, hmul1, hll1, hlo1, hh1⟩ := mul64_ex m v hm hv
  obtain ⟨lo, o1, hadd1, hlo, ho1, hvo1⟩ := add64_ex l1 M 0 hll1 hM (by omega)
  obtain ⟨h2, l2, hmul2, hll2, hlo2, hh2⟩ := mul64_ex l u hl hu
  obtain ⟨ll, o2, hadd2, hl3, ho2, hvo2⟩ := add64_ex l2 L 0 hll2 hL (by omega)
  obtain ⟨z, d', hsub, hz, hd', hvs⟩ := sub64_ex lo ll d hlo hl3 hd
  have e1 := comb_word hlo1 hvo1 rfl
  have e2 := comb_word hlo2 hvo2 rfl
  have s1 := comb_small hm hv hM e1
  have s2 := comb_small hl hu hL e2
  have hc1 : (h1 : Int) + o1 ≤ 18446744073709551615 := by simp only [W64] at *; omega
  have hc2 : (h2 : Int) + o2 ≤ 18446744073709551615 := by simp only [W64] at *; omega
  have E1 := Lib.hid (And.intro e1 s1)
  have E2 := Lib.hid (And.intro e2 s2)
  have E3 := Lib.hid hvs
  have HR := Lib.hid hr
  have c0 : w.cell? ⟨g, 0, none⟩ = some (.int .u64 m) := hr.cell (i := 0) (by simp)
  have c1 : w.cell? ⟨g, 1, none⟩ = some (.int .u64 l) := hr.cell (i := 1) (by simp)
  have c2 : w.cell? ⟨g, 2, none⟩ = some (.int .u64 M) := hr.cell (i := 2) (by simp)
  have c3 : w.cell? ⟨g, 3, none⟩ = some (.int .u64 L) := hr.cell (i := 3) (by simp)
  have c4 : w.cell? ⟨g, 4, none⟩ = some (.int .u64 d) := hr.cell (i := 4) (by simp)
  have f2 := hr.frozen 2
  have f3 := hr.frozen 3
  have f4 := hr.frozen 4
  have hadd1' : ∀ w, (callFunc 146 #[.int .u64 l1, .int .u64 M, .int .u64 0]).run Tryz.prog w = .ok (.value (.tuple #[.int .u64 lo, .int .u64 o1])) w := hadd1
  have hadd2' : ∀ w, (callFunc 146 #[.int .u64 l2, .int .u64 L, .int .u64 0]).run Tryz.prog w = .ok (.value (.tuple #[.int .u64 ll, .int .u64 o2])) w := hadd2
  clear hadd1 hadd2 e1 e2 s1 s2 hvs hvo1 hvo2 hlo1 hlo2 hr hll1 hll2
  go_enter Tryz.func154, Tryz.ntmps154
  go_wp2_with (first
    | (go_at_call 145; (with_reducible refine (hmul1 _).mono ?_); rintro e w' ⟨rfl, rfl⟩)
    | (go_at_call 145; (with_reducible refine (hmul2 _).mono ?_); rintro e w' ⟨rfl, rfl⟩))
  go_ret
  exact ⟨z, h1 + o1, h2 + o2, d', lo, ll, rfl, hz, E1.out.2, E2.out.2, hd', E1.out.1, E2.out.1, E3.out, (((HR.out).set_ 2 (h1 + o1)).set_ 3 (h2 + o2)).set_ 4 d', (((Upd.refl g w).setCell 2 _).setCell 3 _).setCell 4 _⟩
end Go.Proofs.YtjamfkafgfpobaaGreat
/-! ### Blk -/
namespace Go.Proofs.YtjamfkafgfpobaaGreat
open Go.RowKit Nb
/-- Block g is known whole. -/
def Blk (w : World) (g : Nat) (e : TypeId) (vs : List Value) : Prop := w.heap[g]? = some (.cells vs.toArray e (0, 0))
section
variable {w w' : World} {g : Nat} {e : TypeId} {vs : List Value}
theorem Blk.lt (h : Blk w g e vs) : g < w.heap.size := by
  rcases Nat.lt_or_ge g w.heap.size with hlt | hge
  · exact hlt
  · unfold Blk at h; rw [Array.getElem?_eq_none hge] at h; cases h
theorem Blk.cell (h : Blk w g e vs) {i : Nat} {u : Value} (hi : vs[i]? = some u) : w.cell? ⟨g, i, none⟩ = some u := by
  unfold Blk at h
  rw [cell_of_row w g i _ _ _ h]
  simpa using hi
theorem Blk.frozen (h : Blk w g e vs) (i : Nat) : w.frozen? ⟨g, i, none⟩ = false := by
  unfold Blk at h
  simp [World.frozen?, h]
theorem Blk.set_ (h : Blk w g e vs) (i : Nat) (u : Value) : Blk (w.setCell ⟨g, i, none⟩ u) g e (vs.set i u) := by
  unfold Blk at h ⊢
  simp only [World.setCell, Array.getElem?_modify, h, if_true, Option.map_some]
  simp
theorem Blk.alloc (h : Blk w g e vs) (o : Obj) : Blk (w.alloc o) g e vs := (Below.heap_alloc w o g h.lt).trans h
theorem Blk.far (h : Blk w g e vs) {p : Addr} (hp : g ≠ p.block) (u : Value) : Blk (w.setCell p u) g e vs := (Below.heap_setCell w p u g hp).trans h
theorem Blk.below {B : Nat} (h : Blk w g e vs) (hb : Below B w w') (hg : g < B) : Blk w' g e vs := (hb.block g hg).trans h
theorem Blk.upd {g' : Nat} (h : Blk w g e vs) (hu : Upd g' w w') (hne : g ≠ g') : Blk w' g e vs := (hu.block g hne).trans h
theorem Blk.new (w : World) (vs : List Value) (e : TypeId) : Blk (w.alloc (.cells vs.toArray e)) w.heap.size e vs := heap_alloc_new w _
theorem Blk.drew1 (h : Blk w g e vs) : Blk w.drew g e vs := h
theorem Blk.drewN (h : Blk w g e vs) (n : Nat) : Blk (w.drewN n) g e vs := h
end
/-- Steps, as they lie. -/
def stp (p q r s : Nat) (odd : Bool) : List Value := [.int .u64 p, .int .u64 q, .int .u64 r, .int .u64 s, .bool odd]
/-- Steps, as they are handed on. -/
def stepsV (p q r s : Nat) (odd : Bool) : Value := .agg #[.int .u64 p, .int .u64 q, .int .u64 r, .int .u64 s, .bool odd]
/-- What foresee tells. -/
def Fore (a b : Nat) (w : World) (e : Ending) (w' : World) : Prop := ∃ (p q r s a' b' : Nat) (odd : Bool), e = .returned (stepsV p q r s odd) ∧ Eu a b a' b' p q r s odd ∧ p < W64 ∧ q < W64 ∧ r < W64 ∧ s < W64 ∧ Below w.heap.size w w'
set_option maxHeartbeats 2000000 in
theorem foresee_any (a b : Nat) (w : World) (h : b ≤ a) (ha : a < W64) :
    Calls Tryz.prog 134 #[.int .u64 a, .int .u64 b] w (Fore a b w) := by
  go_enter Tryz.func134, Tryz.ntmps134
  go_wp2_with fail
  have k0 : Blk ((w.alloc (.cells #[.int .u64 0, .int .u64 0, .int .u64 0, .int .u64 0, .bool false] 171)).alloc (.cells #[.int .u64 1, .int .u64 0, .int .u64 0, .int .u64 1, .bool false] 171)) (w.heap.size + 1) 171 (stp 1 0 0 1 false) := by
    have := Blk.new (w.alloc (.cells #[.int .u64 0, .int .u64 0, .int .u64 0, .int .u64 0, .bool false] 171)) (stp 1 0 0 1 false) 171
    simpa [stp] using this
  have z0 : Blk ((w.alloc (.cells #[.int .u64 0, .int .u64 0, .int .u64 0, .int .u64 0, .bool false] 171)).alloc (.cells #[.int .u64 1, .int .u64 0, .int .u64 0, .int .u64 1, .bool false] 171)) w.heap.size 171 (stp 0 0 0 0 false) :=
    (Blk.new w (stp 0 0 0 0 false) 171).alloc _
  have hb0 : Below w.heap.size w ((w.alloc (.cells #[.int .u64 0, .int .u64 0, .int .u64 0, .int .u64 0, .bool false] 171)).alloc (.cells #[.int .u64 1, .int .u64 0, .int .u64 0, .int .u64 1, .bool false] 171)) := by go_grown
  have hW64 : W64 = 18446744073709551616 := rfl
  have HAW := Lib.hid (And.intro ha hW64)
  generalize ((w.alloc (.cells #[.int .u64 0, .int .u64 0, .int .u64 0, .int .u64 0, .bool false] 171)).alloc (.cells #[.int .u64 1, .int .u64 0, .int .u64 0, .int .u64 1, .bool false] 171)) = W0 at *
  clear hW64 ha
  go_loopw [0, 1] (fun av bv wr => ∃ (a' b' p q r s : Nat) (odd : Bool), av = .int .u64 a' ∧ bv = .int .u64 b' ∧ a' ≤ a ∧ Eu a b a' b' p q r s odd ∧ p < W64 ∧ q < W64 ∧ r < W64 ∧ s < W64 ∧
      Blk wr (w.heap.size + 1) 171 (stp p q r s odd) ∧ Blk wr w.heap.size 171 (stp 0 0 0 0 false) ∧ Below w.heap.size w wr) (fun _ bv _ => (intOf bv).toNat)
  case atStart => exact ⟨a, b, 1, 0, 0, 1, false, rfl, rfl, Nat.le_refl _, Eu.start h, by decide, by decide, by decide, by decide, k0, z0, hb0⟩
  case round =>
    obtain ⟨a', b', p, q, r, s, odd, rfl, rfl, hle, hE, hp, hq, hr, hs, hk, hz, hb⟩ := hrel
    clear k0 z0 hb0
    have m0 : wr.cell? ⟨w.heap.size + 1, 0, none⟩ = some (.int .u64 p) := hk.cell rfl
    have m1 : wr.cell? ⟨w.heap.size + 1, 1, none⟩ = some (.int .u64 q) := hk.cell rfl
    have m2 : wr.cell? ⟨w.heap.size + 1, 2, none⟩ = some (.int .u64 r) := hk.cell rfl
    have m3 : wr.cell? ⟨w.heap.size + 1, 3, none⟩ = some (.int .u64 s) := hk.cell rfl
    have m4 : wr.cell? ⟨w.heap.size + 1, 4, none⟩ = some (.bool odd) := hk.cell rfl
    have z0 : wr.cell? ⟨w.heap.size, 0, none⟩ = some (.int .u64 0) := hz.cell rfl
    have z1 : wr.cell? ⟨w.heap.size, 1, none⟩ = some (.int .u64 0) := hz.cell rfl
    have z2 : wr.cell? ⟨w.heap.size, 2, none⟩ = some (.int .u64 0) := hz.cell rfl
    have z3 : wr.cell? ⟨w.heap.size, 3, none⟩ = some (.int .u64 0) := hz.cell rfl
    have z4 : wr.cell? ⟨w.heap.size, 4, none⟩ = some (.bool false) := hz.cell rfl
    have fm := hk.frozen
    have fz := hz.frozen
    have hEnd : ∀ W, Below w.heap.size w W → Below w.heap.size w (((((W.setCell ⟨w.heap.size, 0, none⟩ (.int .u64 p)).setCell ⟨w.heap.size, 1, none⟩ (.int .u64 q)).setCell ⟨w.heap.size, 2, none⟩ (.int .u64 r)).setCell ⟨w.heap.size, 3, none⟩ (.int .u64 s)).setCell ⟨w.heap.size, 4, none⟩ (.bool odd)) := fun W hb =>
      ((((hb.setCell (p := ⟨_, 0, none⟩) (Nat.le_refl _) _).setCell (p := ⟨_, 1, none⟩) (Nat.le_refl _) _).setCell (p := ⟨_, 2, none⟩) (Nat.le_refl _) _).setCell (p := ⟨_, 3, none⟩) (Nat.le_refl _) _).setCell (p := ⟨_, 4, none⟩) (Nat.le_refl _) _
    rcases Nat.eq_zero_or_pos b' with rfl | hbp
    · go_wp2
      refine bodyPost_ret (v := stepsV p q r s odd) (by simp [stepsV, results, Tryz.results134, go_sem, z0, z1, z2, z3, z4]) rfl ?_
      exact ⟨p, q, r, s, a', 0, odd, rfl, hE, hp, hq, hr, hs, hEnd _ hb⟩
    · obtain ⟨n, hn⟩ : ∃ n, a' / b' = n := ⟨_, rfl⟩
      obtain ⟨rest, hrest⟩ : ∃ rest, a' % b' = rest := ⟨_, rfl⟩
      have ha : a' = n * b' + rest := by rw [← hn, ← hrest, Nat.mul_comm]; exact (Nat.div_add_mod _ _).symm
      have hlt : rest < b' := by rw [← hrest]; exact Nat.mod_lt _ hbp
      have f1 := hE.fit ha hbp
      have f2 := hE.fitr ha hlt
      have f3 := hE.fit2 ha hlt
      have f4 := hE.step ha hlt
      have eQ : (a' : Int) / (b' : Int) = (n : Int) := by rw [← hn]; exact (Int.natCast_ediv a' b').symm
      have eR : (a' : Int) % (b' : Int) = (rest : Int) := by rw [← hrest]; exact (Int.natCast_emod a' b').symm
      obtain ⟨r', hr'⟩ : ∃ r', p + n * r = r' := ⟨_, rfl⟩
      obtain ⟨s', hs'⟩ : ∃ s', q + n * s = s' := ⟨_, rfl⟩
      obtain ⟨nr, hnr⟩ : ∃ nr, n * r = nr := ⟨_, rfl⟩
      obtain ⟨ns, hns⟩ : ∃ ns, n * s = ns := ⟨_, rfl⟩
      have iR : (n : Int) * (r : Int) = (nr : Int) := by rw [← hnr]; exact (Int.natCast_mul n r).symm
      have iS : (n : Int) * (s : Int) = (ns : Int) := by rw [← hns]; exact (Int.natCast_mul n s).symm
      rw [hr', hs'] at f2 f4
      rw [hs'] at f1 f3
      rw [hnr] at hr'
      rw [hns] at hs'
      have haW := HAW.out.1
      rw [HAW.out.2] at haW
      have b1 : (nr : Int) ≤ 18446744073709551615 := by omega
      have b2 : (ns : Int) ≤ 18446744073709551615 := by omega
      have b3 : (p : Int) + (nr : Int) ≤ 18446744073709551615 := by omega
      have b4 : (q : Int) + (ns : Int) ≤ 18446744073709551615 := by omega
      have hnW : n ≤ a := by rw [← hn]; exact Nat.le_trans (Nat.div_le_self _ _) hle
      have w0 : IntKind.u64.wrap (n : Int) = (n : Int) := by rw [IntKind.wrap_u64]; omega
      have w1 : IntKind.u64.wrap (nr : Int) = (nr : Int) := by rw [IntKind.wrap_u64]; omega
      have w2 : IntKind.u64.wrap (ns : Int) = (ns : Int) := by rw [IntKind.wrap_u64]; omega
      have w3 : IntKind.u64.wrap (r' : Int) = (r' : Int) := by rw [IntKind.wrap_u64]; omega
      have w4 : IntKind.u64.wrap (s' : Int) = (s' : Int) := by rw [IntKind.wrap_u64]; omega
      have w5 : (p : Int) + (nr : Int) = (r' : Int) := by omega
      have w6 : (q : Int) + (ns : Int) = (s' : Int) := by omega
      have HN := Lib.hid (And.intro (And.intro hn hrest) (And.intro (And.intro hnr hns) (And.intro hr' hs')))
      have HA := Lib.hid ha
      have HF := Lib.hid f4
      have HF3 := Lib.hid f3
      have hba := hE.le
      have HE := Lib.hid hE
      clear hn hrest hnr hns hr' hs' ha f4 f3 hE
      by_cases c1 : rest < s'
      · have c1' : (rest : Int) < (s' : Int) := by omega
        go_wp2_with (go_quiet (fail))
        refine bodyPost_ret (v := stepsV p q r s odd) (by simp [stepsV, results, Tryz.results134, go_sem, z0, z1, z2, z3, z4]) rfl ?_
        exact ⟨p, q, r, s, a', b', odd, rfl, HE.out, hp, hq, hr, hs, hEnd _ (hb.trans ((show Qu wr (wr.drewN nq) from ⟨nq, rfl⟩).below _))⟩
      · have c1' : ¬ (rest : Int) < (s' : Int) := by omega
        have c1'' : (s' : Int) ≤ (rest : Int) := by omega
        have f3 := HF3.out (by omega)
        obtain ⟨t, ht⟩ : ∃ t, s' + s = t := ⟨_, rfl⟩
        have w7 : (s' : Int) + (s : Int) = (t : Int) := by omega
        have w8 : IntKind.u64.wrap (t : Int) = (t : Int) := by rw [IntKind.wrap_u64]; omega
        obtain ⟨v, hv⟩ : ∃ v, b' - rest = v := ⟨_, rfl⟩
        have w9 : (b' : Int) - (rest : Int) = (v : Int) := by omega
        have w10 : IntKind.u64.wrap (v : Int) = (v : Int) := by rw [IntKind.wrap_u64]; omega
        have HT := Lib.hid (And.intro ht hv)
        clear ht hv
        by_cases c2 : v < t
        · have c2' : (v : Int) < (t : Int) := by omega
          go_wp2_with (go_quiet (fail))
          refine bodyPost_ret (v := stepsV p q r s odd) (by simp [stepsV, results, Tryz.results134, go_sem, z0, z1, z2, z3, z4]) rfl ?_
          exact ⟨p, q, r, s, a', b', odd, rfl, HE.out, hp, hq, hr, hs, hEnd _ (hb.trans ((show Qu wr (wr.drewN nq) from ⟨nq, rfl⟩).below _))⟩
        · have c2' : ¬ (v : Int) < (t : Int) := by omega
          have c2'' : (t : Int) ≤ (v : Int) := by omega
          have hst := HF.out (by omega) (by have := HT.out; omega)
          have HS := Lib.hid hst
          clear hst
          go_wp2_with (go_quiet (fail))
          have hqb : Below w.heap.size w (wr.drewN nq) := hb.trans ((show Qu wr (wr.drewN nq) from ⟨nq, rfl⟩).below _)
          go_roundw
          case rel =>
            refine ⟨b', rest, r, s, r', s', !odd, rfl, by rw [eR], by omega, HS.out, hr, hs, by have := HAW.out.2; omega, by have := HAW.out.2; omega, ?_, ?_, ?_⟩
            · exact (((((hk.drewN nq).set_ 0 _).set_ 1 _).set_ 2 _).set_ 3 _).set_ 4 _
            · exact (((((hz.drewN nq).far (p := ⟨_, 0, none⟩) (by simp) _).far (p := ⟨_, 1, none⟩) (by simp) _).far (p := ⟨_, 2, none⟩) (by simp) _).far (p := ⟨_, 3, none⟩) (by simp) _).far (p := ⟨_, 4, none⟩) (by simp) _
            · exact ((((hqb.setCell (p := ⟨_, 0, none⟩) (Nat.le_succ _) _).setCell (p := ⟨_, 1, none⟩) (Nat.le_succ _) _).setCell (p := ⟨_, 2, none⟩) (Nat.le_succ _) _).setCell (p := ⟨_, 3, none⟩) (Nat.le_succ _) _).setCell (p := ⟨_, 4, none⟩) (Nat.le_succ _) _
          case measure => simp [intOf]; omega
end Go.Proofs.YtjamfkafgfpobaaGreat
/-! ### High -/
namespace Go.Proofs.YtjamfkafgfpobaaGreat
open Go.RowKit Nb
set_option maxHeartbeats 1000000 in
theorem commonWord_any (a b : Nat) (w : World) (ha : a < W64) (hb : b < W64) :
    Calls Tryz.prog 138 #[.int .u64 a, .int .u64 b] w fun e w' => e = .returned (.int .u64 (Nat.gcd a b : Nat)) ∧ Qu w w' := by
  go_enter Tryz.func138, Tryz.ntmps138
  go_wp2
  go_loopw [0, 1] (fun av bv wr => ∃ x y : Nat, av = .int .u64 x ∧ bv = .int .u64 y ∧ x < W64 ∧ y < W64 ∧ Nat.gcd x y = Nat.gcd a b ∧ Qu w wr) (fun _ bv _ => (intOf bv).toNat)
  case atStart => exact ⟨a, b, rfl, rfl, ha, hb, rfl, Qu.refl _⟩
  case round =>
    obtain ⟨x, y, rfl, rfl, hx, hy, hg, hq⟩ := hrel
    have HG := Lib.hid hg
    clear hg
    rcases Nat.eq_zero_or_pos y with hy0 | hy0
    · have hz : ((y : Int) != 0) = false := by simp [hy0]
      have HY := Lib.hid hy0
      clear hy0
      go_wp2
      go_ret
      refine ⟨?_, hq⟩
      have := HG.out
      rw [HY.out, Nat.gcd_zero_right] at this
      rw [this]; rfl
    · obtain ⟨r, hr⟩ : ∃ r, x % y = r := ⟨_, rfl⟩
      have eR : (x : Int) % (y : Int) = (r : Int) := by rw [← hr]; exact (Int.natCast_emod x y).symm
      have hlt : r < y := by rw [← hr]; exact Nat.mod_lt _ hy0
      have hg2 : Nat.gcd y r = Nat.gcd a b := by rw [← HG.out, ← hr, Nat.gcd_comm y, ← Nat.gcd_rec, Nat.gcd_comm]
      have HG2 := Lib.hid hg2
      have hyi : (0 : Int) < (y : Int) := by omega
      clear hr hg2
      go_wp2_with (go_quiet (fail))
      go_roundw
      case rel => exact ⟨y, r, rfl, by first | rfl | rw [eR], hy, by omega, HG2.out, hq.drew nq⟩
      case measure => simp [intOf]; omega
/-- What is highest of two numbers: so many times a unit, and less than a unit more. -/
def High (X Y : Nat) (w : World) (e : Ending) (w' : World) : Prop := ∃ a b K α β : Nat, e = .returned (.tuple #[.int .u64 a, .int .u64 b]) ∧ a < W64 ∧ α < K ∧ β < K ∧ X = a * K + α ∧ Y = b * K + β ∧ Qu w w'
theorem or_down {t x p : Nat} (hp : p ≤ 64) (ht : t < 2 ^ p) (hx : x * 2 ^ p < W64) : bits .or .u64 ((x * 2 ^ p : Nat) : Int) (t : Int) = ((x * 2 ^ p + t : Nat) : Int) ∧ x * 2 ^ p + t < W64 := by
  have htW : t < W64 := Nat.lt_of_lt_of_le ht (pow_le64 hp)
  have h1 := u64_or_nat (x * 2 ^ p) t hx htW
  have h2 := nat_join p (x * 2 ^ p) t (Nat.mul_mod_left _ _) ht
  have h3 := or_lt hx htW
  rw [h2] at h1 h3
  exact ⟨h1, h3⟩
/-- The highest bits of two words and of what lies below. -/
theorem high_two {L x0 x1 j p : Nat} (hp : p ≤ 64) (hL : L < W64 ^ j) : ∃ α, α < W64 ^ j * 2 ^ (64 - p) ∧ L + W64 ^ j * x0 + W64 ^ (j + 1) * x1 = (x1 * 2 ^ p + x0 / 2 ^ (64 - p)) * (W64 ^ j * 2 ^ (64 - p)) + α := by
  refine ⟨L + W64 ^ j * (x0 % 2 ^ (64 - p)), ?_, ?_⟩
  · have h1 : x0 % 2 ^ (64 - p) + 1 ≤ 2 ^ (64 - p) := Nat.mod_lt _ (Nat.pow_pos (by decide))
    have h2 : W64 ^ j * (x0 % 2 ^ (64 - p) + 1) ≤ W64 ^ j * 2 ^ (64 - p) := Nat.mul_le_mul_left _ h1
    rw [Nat.mul_add] at h2
    omega
  · have h1 := w64_split hp
    have h2 := Nat.div_add_mod x0 (2 ^ (64 - p))
    rw [Nat.pow_succ]
    generalize W64 ^ j = Q at *
    generalize x0 % 2 ^ (64 - p) = m at *
    generalize x0 / 2 ^ (64 - p) = d at *
    rw [h1, ← h2]
    grind
theorem high_b {X Y x1 y1 L M x0 y0 j : Nat} (hX : X = L + W64 ^ j * x0 + W64 ^ (j + 1) * x1) (hY : Y = M + W64 ^ j * y0 + W64 ^ (j + 1) * y1) (hL : L < W64 ^ j) (h0 : x0 < W64) (h : Y ≤ X) : y1 ≤ x1 := by
  rcases Nat.lt_or_ge x1 y1 with h1 | h1
  · have h2 : W64 ^ (j + 1) * (x1 + 1) ≤ W64 ^ (j + 1) * y1 := Nat.mul_le_mul_left _ h1
    have h3 : W64 ^ j * (x0 + 1) ≤ W64 ^ j * W64 := Nat.mul_le_mul_left _ h0
    rw [← Nat.pow_succ, Nat.succ_eq_add_one, Nat.mul_add] at h3
    rw [Nat.mul_add] at h2
    omega
  · exact h1
theorem val_last2 {ps : List Nat} {j : Nat} (h : ps.length = j + 2) (hd : Dig W64 ps) : val W64 ps = val W64 (ps.take j) + W64 ^ j * ps[j]'(by omega) + W64 ^ (j + 1) * ps[j + 1]'(by omega) ∧ val W64 (ps.take j) < W64 ^ j := by
  constructor
  · have h1 := val_take_succ W64 (xs := ps) (k := j) (by omega)
    have h2 := val_take_succ W64 (xs := ps) (k := j + 1) (by omega)
    rw [show j + 1 + 1 = ps.length by omega, List.take_length] at h2
    rw [h2, h1]
  · have := val_lt (hd.take j)
    rw [List.length_take, Nat.min_eq_left (by omega)] at this
    exact this
theorem val_last1 {ps : List Nat} {j : Nat} (h : ps.length = j + 1) (hd : Dig W64 ps) : val W64 ps = val W64 (ps.take j) + W64 ^ j * ps[j]'(by omega) ∧ val W64 (ps.take j) < W64 ^ j := by
  constructor
  · have h1 := val_take_succ W64 (xs := ps) (k := j) (by omega)
    rw [show j + 1 = ps.length by omega, List.take_length] at h1
    exact h1
  · have := val_lt (hd.take j)
    rw [List.length_take, Nat.min_eq_left (by omega)] at this
    exact this
set_option maxHeartbeats 4000000 in
theorem highest_any (A B : Option Addr) (xs ys : List Nat) (c d j : Nat) (w : World) (hx : Sl .u64 w w.heap.size A xs) (hy : Sl .u64 w w.heap.size B ys) (dx : Dig W64 xs) (dy : Dig W64 ys) (nx : Norm xs)
    (hj : xs.length = j + 2) (hl : xs.length * 8 ≤ 140737488351232) (hle : val W64 ys ≤ val W64 xs) (hyl : ys.length ≤ xs.length) :
    Calls Tryz.prog 135 #[.slice A xs.length c, .slice B ys.length d] w (High (val W64 xs) (val W64 ys) w) := by
  obtain ⟨ad, rfl, _, h1⟩ := hx.at_ (i := j + 1) (by omega)
  obtain ⟨ad', e, _, h0⟩ := hx.at_ (i := j) (by omega)
  injection e with e
  subst e
  have htop : 0 < xs[j + 1]'(by omega) := by
    have := (norm_iff (xs := xs) (by omega)).1 nx
    simp only [hj] at this
    exact Nat.pos_of_ne_zero this
  obtain ⟨hvx, hvl⟩ := val_last2 hj dx
  have d1 := dx.get (k := j + 1) (by omega)
  have d0 := dx.get (k := j) (by omega)
  obtain ⟨n, hn⟩ : ∃ n, xs.length = n := ⟨_, rfl⟩
  rw [hn] at hl hyl ⊢
  obtain ⟨m, hm⟩ : ∃ m, j + 1 = m := ⟨_, rfl⟩
  have hn1 : (n : Int) - 1 = (m : Int) := by omega
  have hn2 : (n : Int) - 2 = ((j : Nat) : Int) := by omega
  obtain ⟨x1, hx1⟩ : ∃ x1, xs[j + 1]'(by omega) = x1 := ⟨_, rfl⟩
  obtain ⟨x0, hx0⟩ : ∃ x0, xs[j]'(by omega) = x0 := ⟨_, rfl⟩
  rw [hx1] at h1 htop d1 hvx
  rw [hm] at h1
  rw [hx0] at h0 d0 hvx
  obtain ⟨up, hup, hu1, hu2, hu3⟩ := lz64_ex x1 htop d1
  obtain ⟨α, ha1, ha2⟩ := high_two (L := val W64 (xs.take j)) (x0 := x0) (x1 := x1) (j := j) (p := up) (by omega) hvl
  have ht := shr_small (x := x0) (p := up) (by omega) d0
  obtain ⟨eO, hOW⟩ := or_down (p := up) (by omega) ht hu3
  have eL := wpow x1 up
  rw [Nat.mod_eq_of_lt hu3] at eL
  have eR := shr_int x0 (64 - up)
  obtain ⟨lo, hlo⟩ : ∃ lo, x0 / 2 ^ (64 - up) = lo := ⟨_, rfl⟩
  obtain ⟨hi, hhi⟩ : ∃ hi, x1 * 2 ^ up = hi := ⟨_, rfl⟩
  rw [hlo] at ha2 ht eO hOW eR
  rw [hhi] at ha2 hu2 hu3 eO hOW eL
  obtain ⟨a, haa⟩ : ∃ a, hi + lo = a := ⟨_, rfl⟩
  rw [haa] at ha2 eO hOW
  rw [← hvx] at ha2
  obtain ⟨K, hK⟩ : ∃ K, W64 ^ j * 2 ^ (64 - up) = K := ⟨_, rfl⟩
  rw [hK] at ha1 ha2
  have HX := Lib.hid (And.intro ha1 ha2)
  have HVX := Lib.hid (And.intro hvx hvl)
  have HK := Lib.hid hK
  have HU : Hid (x1 * 2 ^ up < W64) := Lib.hid (by rw [hhi]; exact hu3)
  have HJ := Lib.hid (And.intro hn hm)
  have hjn : (j : Int) < (n : Int) := by omega
  have hmn : (m : Int) < (n : Int) := by omega
  have hji : (1 : Int) ≤ (n : Int) := by omega
  have hupi : (up : Int) ≤ 63 := by omega
  have hs : (64 - (up : Int)).toNat = 64 - up := by omega
  have hs2 : 64 - (up : Int) = ((64 - up : Nat) : Int) := by omega
  clear hn hm hj hvx hvl ha1 ha2 hx1 hx0 hlo hhi haa hK hu2 htop ht
  have hupp : up ≤ 64 := by omega
  by_cases c1 : ys.length = n
  · have hyj : ys.length = j + 2 := by have := HJ.out; omega
    obtain ⟨bd, rfl, _, g1⟩ := hy.at_ (i := j + 1) (by omega)
    obtain ⟨bd', e, _, g0⟩ := hy.at_ (i := j) (by omega)
    injection e with e
    subst e
    obtain ⟨hvy, hvm⟩ := val_last2 hyj dy
    have e1 := dy.get (k := j + 1) (by omega)
    have e0 := dy.get (k := j) (by omega)
    obtain ⟨y1, hy1⟩ : ∃ y1, ys[j + 1]'(by omega) = y1 := ⟨_, rfl⟩
    obtain ⟨y0, hy0⟩ : ∃ y0, ys[j]'(by omega) = y0 := ⟨_, rfl⟩
    rw [hy1] at g1 e1 hvy
    rw [hy0] at g0 e0 hvy
    rw [HJ.out.2] at g1
    have hyx := high_b HVX.out.1 hvy HVX.out.2 d0 hle
    have hy2 : y1 * 2 ^ up < W64 := Nat.lt_of_le_of_lt (Nat.mul_le_mul_right _ hyx) HU.out
    obtain ⟨β, hb1, hb2⟩ := high_two (L := val W64 (ys.take j)) (x0 := y0) (x1 := y1) (j := j) (p := up) hupp hvm
    have htt := shr_small (x := y0) (p := up) hupp e0
    obtain ⟨fO, hPW⟩ := or_down (p := up) hupp htt hy2
    have fL := wpow y1 up
    rw [Nat.mod_eq_of_lt hy2] at fL
    have fR := shr_int y0 (64 - up)
    obtain ⟨lo2, hlo2⟩ : ∃ lo2, y0 / 2 ^ (64 - up) = lo2 := ⟨_, rfl⟩
    obtain ⟨hi2, hhi2⟩ : ∃ hi2, y1 * 2 ^ up = hi2 := ⟨_, rfl⟩
    rw [hlo2] at hb2 htt fO hPW fR
    rw [hhi2] at hb2 hy2 fO hPW fL
    obtain ⟨b, hbb⟩ : ∃ b, hi2 + lo2 = b := ⟨_, rfl⟩
    rw [hbb] at hb2 fO hPW
    rw [← hvy, HK.out] at hb2
    rw [HK.out] at hb1
    have HB := Lib.hid (And.intro hb1 hb2)
    rw [c1]
    clear hvy hvm hy1 hy0 hyx htt hlo2 hhi2 hbb hb1 hb2 hyj c1
    go_enter Tryz.func135, Tryz.ntmps135
    go_wp2_with (first | (go_at_call 149; refine (hup _).mono ?_; rintro e w' ⟨rfl, rfl⟩) | (go_quiet (fail)))
    go_ret2
    exact ⟨a, b, K, α, β, rfl, hOW, HX.out.1, HB.out.1, HX.out.2, HB.out.2, by first | exact ⟨_, rfl⟩ | exact Qu.drew ⟨_, rfl⟩ _⟩
  · by_cases c2 : ys.length = j + 1
    · obtain ⟨bd, rfl, _, g0⟩ := hy.at_ (i := j) (by omega)
      obtain ⟨hvy, hvm⟩ := val_last1 c2 dy
      have e0 := dy.get (k := j) (by omega)
      obtain ⟨y0, hy0⟩ : ∃ y0, ys[j]'(by omega) = y0 := ⟨_, rfl⟩
      rw [hy0] at g0 e0 hvy
      obtain ⟨β, hb1, hb2⟩ := high_two (L := val W64 (ys.take j)) (x0 := y0) (x1 := 0) (j := j) (p := up) hupp hvm
      have fR := shr_int y0 (64 - up)
      obtain ⟨lo2, hlo2⟩ : ∃ lo2, y0 / 2 ^ (64 - up) = lo2 := ⟨_, rfl⟩
      rw [hlo2] at hb2 fR
      rw [Nat.mul_zero, Nat.zero_mul, Nat.add_zero, Nat.zero_add, ← hvy, HK.out] at hb2
      rw [HK.out] at hb1
      have HB := Lib.hid (And.intro hb1 hb2)
      have e1 : ((ys.length : Int) == (n : Int)) = false := beq_false_of_ne (by omega)
      have c2' : ys.length = m := by have := HJ.out.2; omega
      rw [c2'] at e1 ⊢
      clear hvy hvm hy0 hlo2 hb1 hb2 c2 c2' c1
      go_enter Tryz.func135, Tryz.ntmps135
      go_wp2_with (first | (go_at_call 149; refine (hup _).mono ?_; rintro e w' ⟨rfl, rfl⟩) | (go_quiet (fail)))
      go_ret2
      exact ⟨a, lo2, K, α, β, rfl, hOW, HX.out.1, HB.out.1, HX.out.2, HB.out.2, by first | exact ⟨_, rfl⟩ | exact Qu.drew ⟨_, rfl⟩ _⟩
    · have e1 : ((ys.length : Int) == (n : Int)) = false := beq_false_of_ne (by omega)
      have e2 : ((ys.length : Int) == (m : Int)) = false := beq_false_of_ne (by have := HJ.out.2; omega)
      have hsm : val W64 ys < K := by
        have h1 := val_lt dy
        have h2 : W64 ^ ys.length ≤ W64 ^ j := Nat.pow_le_pow_right (by decide) (by have := HJ.out; omega)
        have h3 : W64 ^ j * 1 ≤ W64 ^ j * 2 ^ (64 - up) := Nat.mul_le_mul_left _ (Nat.pow_pos (by decide))
        rw [HK.out] at h3
        omega
      have HS := Lib.hid hsm
      clear hsm
      go_enter Tryz.func135, Tryz.ntmps135
      go_wp2_with (first | (go_at_call 149; refine (hup _).mono ?_; rintro e w' ⟨rfl, rfl⟩) | (go_quiet (fail)))
      go_ret2
      exact ⟨a, 0, K, α, val W64 ys, rfl, hOW, HX.out.1, HS.out, HX.out.2, by omega, ⟨nq, rfl⟩⟩
end Go.Proofs.YtjamfkafgfpobaaGreat
/-! ### Do -/
namespace Go.Proofs.YtjamfkafgfpobaaGreat
open Go.RowKit Nb
/-- A list of words at the beginning of a block that may be written, with room behind it. -/
structure Ob (w : World) (B g : Nat) (zs : List Nat) (c : Nat) : Prop where
  row : ∃ rest, RowV .u64 w g 160 zs rest ∧ zs.length + rest.length = c
  base : B ≤ g
  cap : c ≤ maxLen
section
variable {w w' : World} {B g : Nat} {zs : List Nat} {c : Nat}
theorem Ob.lt (h : Ob w B g zs c) : g < w.heap.size := by obtain ⟨rest, hr, _⟩ := h.row; exact hr.lt
theorem Ob.len (h : Ob w B g zs c) : zs.length ≤ c := by obtain ⟨rest, _, hl⟩ := h.row; omega
theorem Ob.alloc (h : Ob w B g zs c) (o : Obj) : Ob (w.alloc o) B g zs c := by
  obtain ⟨rest, hr, hl⟩ := h.row; exact ⟨⟨rest, hr.alloc o, hl⟩, h.base, h.cap⟩
theorem Ob.block (h : Ob w B g zs c) (hb : w'.heap[g]? = w.heap[g]?) : Ob w' B g zs c := by
  obtain ⟨rest, hr, hl⟩ := h.row; exact ⟨⟨rest, hb.trans hr, hl⟩, h.base, h.cap⟩
theorem Ob.far (h : Ob w B g zs c) {p : Addr} (hp : g ≠ p.block) (u : Value) : Ob (w.setCell p u) B g zs c := h.block (Below.heap_setCell w p u g hp)
theorem Ob.below {B' : Nat} (h : Ob w B g zs c) (hb : Below B' w w') (hg : g < B') : Ob w' B g zs c := h.block (hb.block g hg)
theorem Ob.upd {g' : Nat} (h : Ob w B g zs c) (hu : Upd g' w w') (hne : g ≠ g') : Ob w' B g zs c := h.block (hu.block g hne)
theorem Ob.sl {D : Nat} (h : Ob w B g zs c) (hD : g < D) : Sl .u64 w D (some ⟨g, 0, none⟩) zs := by obtain ⟨rest, hr, _⟩ := h.row; exact hr.sl hD
theorem Ob.trim (h : Ob w B g zs c) : Ob w B g (trimL zs) c := by
  obtain ⟨rest, hr, hl⟩ := h.row
  obtain ⟨nz, hnz, _⟩ := trimL_all zs
  refine ⟨⟨(List.replicate nz 0).map (fun n : Nat => Value.int .u64 n) ++ rest, ?_, ?_⟩, h.base, h.cap⟩
  · rw [hnz] at hr; exact hr.shrink
  · have := congrArg List.length hnz
    simp only [List.length_append, List.length_replicate, List.length_map] at this ⊢
    omega
theorem Ob.less {B' : Nat} (h : Ob w B g zs c) (hB : B' ≤ B) : Ob w B' g zs c := ⟨h.row, Nat.le_trans hB h.base, h.cap⟩
theorem Ob.of_own {D c : Nat} (h : w.ownsRow D 160 1 (.slice (some ⟨g, 0, none⟩) zs.length c) zs.length (zs.map fun n : Nat => Value.int .u64 n)) : Ob w D g zs c := by
  obtain ⟨hl, ⟨h0, _⟩ | ⟨g', cap, cur, hv, hbg, hg, h1, h2, hcs, ht⟩⟩ := h
  · cases h0
  · injection hv with hA _ hc
    injection hA with hA
    injection hA with hA
    subst hA; subst hc
    refine ⟨⟨cur.toList.drop (zs.length * 1), ?_, ?_⟩, hbg, h2⟩
    · unfold RowV
      rw [hg, ← ht, List.take_append_drop]
    · have hcl : cur.toList.length = c := by rw [Array.length_toList, hcs, Nat.mul_one]
      rw [List.length_drop, hcl]; omega
end
/-- One nought more, where there is room. -/
theorem Ob.push {w : World} {B g c : Nat} {zs : List Nat} (h : Ob w B g zs c) (hl : zs.length + 1 ≤ c) : (w.cell? ⟨g, zs.length, none⟩).isSome = true ∧ w.frozen? ⟨g, zs.length, none⟩ = false ∧ Ob (w.setCell ⟨g, zs.length, none⟩ (.int .u64 0)) B g (zs ++ [0]) c := by
  obtain ⟨rest, hr, hc⟩ := h.row
  obtain ⟨u, rest', rfl⟩ : ∃ u r, rest = u :: r := by
    cases rest with
    | nil => simp at hc; omega
    | cons u r => exact ⟨u, r, rfl⟩
  refine ⟨?_, hr.frozen _, ⟨⟨rest', ?_, by simp at hc ⊢; omega⟩, h.base, h.cap⟩⟩
  · unfold RowV at hr
    rw [cell_of_row w g _ _ _ _ hr]
    simp
  · unfold RowV at hr ⊢
    simp only [World.setCell, Array.getElem?_modify, hr, if_true, Option.map_some]
    simp
theorem ob_addr {w : World} {B : Nat} {v : Value} {n : Nat} {zs : List Nat} (h : w.ownsRow B 160 1 v n (zs.map fun n : Nat => Value.int .u64 n)) (hpos : 0 < n) (hl : zs.length = n) : ∃ g c, v = .slice (some ⟨g, 0, none⟩) n c ∧ Ob w B g zs c := by
  subst hl
  obtain ⟨g, cap, cur, rfl, _⟩ : ∃ g cap cur, v = .slice (some ⟨g, 0, none⟩) zs.length cap ∧ w.heap[g]? = some (.cells cur 160 (0, 0)) := by
    rcases h.2 with ⟨_, h0⟩ | ⟨g, cap, cur, hv, _, h1, _⟩
    · exact absurd h0 (by omega)
    · exact ⟨g, cap, cur, hv, h1⟩
  exact ⟨g, cap, rfl, Ob.of_own h⟩
theorem zeros_more (ys : List Nat) (k : Nat) : (ys ++ List.replicate k 0) ++ [0] = ys ++ List.replicate (k + 1) 0 := by
  rw [List.append_assoc, List.replicate_succ']
theorem two_new (w : World) (a b : Obj) : ((w.alloc a).alloc b).drew.heap[w.heap.size]? = some a ∧ ((w.alloc a).alloc b).drew.heap[w.heap.size + 1]? = some b := by
  refine ⟨(Below.heap_alloc (w.alloc a) b _ (by simp)).trans (heap_alloc_new w a), ?_⟩
  have := heap_alloc_new (w.alloc a) b
  rw [World.size_alloc] at this
  exact this
theorem Ob.cell {w : World} {B g c i : Nat} {zs : List Nat} (h : Ob w B g zs c) (hi : i < zs.length) : w.cell? ⟨g, i, none⟩ = some (.int .u64 (zs[i] : Nat)) := by obtain ⟨rest, hr, _⟩ := h.row; exact hr.cell hi
theorem Ob.frozen {w : World} {B g c : Nat} {zs : List Nat} (h : Ob w B g zs c) (i : Nat) : w.frozen? ⟨g, i, none⟩ = false := by obtain ⟨rest, hr, _⟩ := h.row; exact hr.frozen i
theorem Ob.set_ {w : World} {B g c i : Nat} {zs : List Nat} (h : Ob w B g zs c) (v : Nat) (hi : i < zs.length) : Ob (w.setCell ⟨g, i, none⟩ (.int .u64 v)) B g (zs.set i v) c := by
  obtain ⟨rest, hr, hl⟩ := h.row
  exact ⟨⟨rest, hr.set_ hi, by rw [List.length_set]; exact hl⟩, h.base, h.cap⟩
/-- What do answers: two lists in blocks of their own. -/
def Done (B X Y n : Nat) (w : World) (e : Ending) (w' : World) : Prop := ∃ (g1 g2 : Nat) (xs ys : List Nat) (c1 c2 : Nat), e = .returned (.tuple #[.slice (some ⟨g1, 0, none⟩) xs.length c1, .slice (some ⟨g2, 0, none⟩) ys.length c2]) ∧
  Ob w' B g1 xs c1 ∧ Ob w' B g2 ys c2 ∧ g1 ≠ g2 ∧ Dig W64 xs ∧ Norm xs ∧ val W64 xs = X ∧ Dig W64 ys ∧ Norm ys ∧ val W64 ys = Y ∧ xs.length ≤ n ∧ ys.length ≤ n ∧ Below B w w'
set_option maxHeartbeats 8000000 in
set_option maxRecDepth 20000 in
theorem do_any (B g1 g2 p q r s : Nat) (odd : Bool) (xs ys : List Nat) (c1 c2 X Y : Nat) (w : World) (h1 : Ob w B g1 xs c1) (h2 : Ob w B g2 ys c2) (hne : g1 ≠ g2) (dx : Dig W64 xs) (dy : Dig W64 ys)
    (hp : p < W64) (hq : q < W64) (hr : r < W64) (hs : s < W64) (hyl : ys.length ≤ xs.length) (hpos : 0 < ys.length) (hl : (xs.length + 1) * 8 ≤ 140737488351232)
    (hM : Made odd p q r s (val W64 xs) (val W64 ys) X Y) (hX : X < W64 ^ xs.length) (hY : Y < W64 ^ xs.length) :
    Calls Tryz.prog 137 #[stepsV p q r s odd, .slice (some ⟨g1, 0, none⟩) xs.length c1, .slice (some ⟨g2, 0, none⟩) ys.length c2] w (Done B X Y xs.length w) := by
  obtain ⟨i0, hi, hz0, hz1, hz2⟩ := info_u64p
  have hg1 := h1.lt
  have hg2 := h2.lt
  have hB1 := h1.base
  have hk : Blk (w.alloc (.cells #[.int .u64 p, .int .u64 q, .int .u64 r, .int .u64 s, .bool odd] 171)) w.heap.size 171 (stp p q r s odd) := Blk.new w (stp p q r s odd) 171
  have hb0 : Below B w (w.alloc (.cells #[.int .u64 p, .int .u64 q, .int .u64 r, .int .u64 s, .bool odd] 171)) := (Below.refl _ _).alloc (by omega) _
  have h1 := h1.alloc (.cells #[.int .u64 p, .int .u64 q, .int .u64 r, .int .u64 s, .bool odd] 171)
  have h2 := h2.alloc (.cells #[.int .u64 p, .int .u64 q, .int .u64 r, .int .u64 s, .bool odd] 171)
  have hz : (w.alloc (.cells #[.int .u64 p, .int .u64 q, .int .u64 r, .int .u64 s, .bool odd] 171)).heap.size = w.heap.size + 1 := by simp
  have HXY := Lib.hid (And.intro hM (And.intro hX hY))
  clear hM hX hY
  unfold stepsV
  go_enter Tryz.func137, Tryz.ntmps137
  go_wp2_with fail
  generalize (w.alloc (.cells #[.int .u64 p, .int .u64 q, .int .u64 r, .int .u64 s, .bool odd] 171)) = W0 at *
  have HZ := Lib.hid hz
  clear hz
  go_loopw [2] (fun yv wr => ∃ (g k c : Nat), yv = .slice (some ⟨g, 0, none⟩) (ys.length + k) c ∧ ys.length + k ≤ xs.length ∧ Ob wr B g (ys ++ List.replicate k 0) c ∧ Ob wr B g1 xs c1 ∧ g1 ≠ g ∧ g ≠ w.heap.size ∧
      Blk wr w.heap.size 171 (stp p q r s odd) ∧ Below B w wr) (fun yv _ => xs.length - (match yv with | .slice _ n _ => n | _ => 0))
  case atStart => exact ⟨g2, 0, c2, rfl, hyl, by simpa using h2, h1, hne, by omega, hk, hb0⟩
  case round =>
    obtain ⟨g, k, c, rfl, hk1, hy, hx, hgn, hgw, hkk, hbw⟩ := hrel
    clear h1 h2 hne hk hb0
    have hylen : (ys ++ List.replicate k 0).length = ys.length + k := by simp
    by_cases hlt : ys.length + k < xs.length
    · have hlt' : ((ys.length + k : Nat) : Int) < (xs.length : Int) := by omega
      have hgl := hy.lt
      have hwz := hkk.lt
      have hx2 := hx.alloc (.cells #[.int .u64 0] 160)
      have hy2 := hy.alloc (.cells #[.int .u64 0] 160)
      have hk2 := hkk.alloc (.cells #[.int .u64 0] 160)
      have hb2 := hbw.alloc (o := .cells #[.int .u64 0] 160) (by have := hbw.size; have := hx.lt; omega)
      have hpush := hy2.push (c := c)
      rw [hylen] at hpush
      obtain ⟨rest, hrw, hrl⟩ := hy2.row
      have hcl := hy2.cap
      go_wp2_with (at_builtin; refine wpList_append_arg _ rfl (.tmp 18) (.tmp 19) 70 rfl 160 i0 (.int .u64 0) 1 8 Tryz.underlying70 hi hz0 hz1 hz2 rfl (by decide) g 0 (ys.length + k) c ((ys ++ List.replicate k 0).map fun n : Nat => Value.int .u64 n) rfl (by simp) (fun j u hj => ?_) ⟨wr.heap.size, 0, none⟩ 1 1 [.int .u64 0] rfl rfl (by intro j u hj; match j, hj with | 0, hj => simp at hj; subst hj; simp [Addr.add]) (by intro u hu; simp at hu; subst hu; rfl) (fun hc j hj => ?_) (by unfold maxLen; omega) (by omega) (fun hc => ?_) (fun hc v' w' hown hgr => ?_))
      · rw [Nat.zero_add]
        rw [List.getElem?_map] at hj
        rcases hjj : (ys ++ List.replicate k 0)[j]? with _ | x
        · rw [hjj] at hj; cases hj
        · rw [hjj] at hj
          obtain ⟨hlt2, rfl⟩ := List.getElem?_eq_some_iff.1 hjj
          rw [hrw.cell hlt2]
          exact hj
      · obtain rfl : j = 0 := by simpa using hj
        rw [show 0 + (ys.length + k) * 1 + 0 = ys.length + k by omega]
        exact ⟨(hpush (by omega)).1, (hpush (by omega)).2.1⟩
      · have hE : (wr.alloc (.cells #[.int .u64 0] 160)).setCells g (ys.length + k) [.int .u64 0] = (wr.alloc (.cells #[.int .u64 0] 160)).setCell ⟨g, ys.length + k, none⟩ (.int .u64 0) := by simp [World.setCells]
        go_roundw
        case rel =>
          rw [hE]
          exact ⟨g, k + 1, c, rfl, by omega, by rw [← zeros_more]; exact (hpush (by omega)).2.2, hx2.far (p := ⟨g, _, none⟩) hgn _, hgn, hgw, hk2.far (p := ⟨g, _, none⟩) (Ne.symm hgw) _, hb2.setCell (p := ⟨g, _, none⟩) hy.base _⟩
        case measure => simp; omega
      · have hgl2 := hx.lt
        obtain ⟨g', c', rfl, ho⟩ := ob_addr (zs := ys ++ List.replicate (k + 1) 0) (by rw [← zeros_more, List.map_append]; exact hown) (by omega) (by simp; omega)
        have hbase := ho.base
        rw [World.size_alloc] at hbase
        have hkb : ∀ b, b < wr.heap.size → w'.heap[b]? = (wr.alloc (.cells #[.int .u64 0] 160)).heap[b]? := fun b hb => hgr.block b (by rw [World.size_alloc]; omega) (by simp)
        have hbB := hbw.size
        go_roundw
        case rel =>
          exact ⟨g', k + 1, c', rfl, by omega, ho.less (by rw [World.size_alloc]; have := hx.base; omega), hx2.block (hkb _ (by omega)), by omega, by omega, (hkb _ (by omega)).trans hk2, hb2.grown hgr (by rw [World.size_alloc]; have := hx.base; omega) (by intro q hq; cases hq)⟩
        case measure => simp; omega
    · obtain ⟨zs, hzs⟩ : ∃ zs, ys ++ List.replicate k 0 = zs := ⟨_, rfl⟩
      have hzl : zs.length = xs.length := by rw [← hzs, hylen]; omega
      have hzv : val W64 zs = val W64 ys := by rw [← hzs, val_append, val_replicate]; simp
      have dz : Dig W64 zs := by rw [← hzs]; exact dy.append (Dig.replicate (by decide) _)
      have hk2 : ys.length + k = xs.length := by omega
      rw [hzs] at hy
      rw [← hzv] at HXY
      have HZL := Lib.hid hzl
      have HK := Lib.hid hk2
      rw [hk2]
      clear hzs hylen hzv hk2 hlt hk1 dy
      have m0 : wr.cell? ⟨w.heap.size, 0, none⟩ = some (.int .u64 p) := hkk.cell rfl
      have m1 : wr.cell? ⟨w.heap.size, 1, none⟩ = some (.int .u64 q) := hkk.cell rfl
      have m2 : wr.cell? ⟨w.heap.size, 2, none⟩ = some (.int .u64 r) := hkk.cell rfl
      have m3 : wr.cell? ⟨w.heap.size, 3, none⟩ = some (.int .u64 s) := hkk.cell rfl
      have m4 : wr.cell? ⟨w.heap.size, 4, none⟩ = some (.bool odd) := hkk.cell rfl
      have fm := hkk.frozen
      go_upto_if 22 with fail
      go_cut [1, 2] (fun s1 s2 wx => ∃ (gu gv : Nat) (us vs : List Nat) (cu cv P Q R S : Nat), s1 = .slice (some ⟨gu, 0, none⟩) xs.length cu ∧ s2 = .slice (some ⟨gv, 0, none⟩) xs.length cv ∧ us.length = xs.length ∧ vs.length = xs.length ∧ Ob wx B gu us cu ∧ Ob wx B gv vs cv ∧ gu ≠ gv ∧ gu ≠ w.heap.size ∧ gv ≠ w.heap.size ∧
        Dig W64 us ∧ Dig W64 vs ∧ P < W64 ∧ Q < W64 ∧ R < W64 ∧ S < W64 ∧ P * val W64 us = X + Q * val W64 vs ∧ S * val W64 vs = Y + R * val W64 us ∧ Blk wx w.heap.size 171 (stp P Q R S odd) ∧ Below B w wx)
      case first =>
        cases odd
        · go_wp2
          go_meet
          have hM := HXY.out.1
          unfold Made at hM
          rw [if_neg (by decide)] at hM
          exact ⟨g1, g, xs, zs, c1, c, p, q, r, s, rfl, rfl, rfl, HZL.out, hx, hy, hgn, by omega, hgw, dx, dz, hp, hq, hr, hs, hM.1, hM.2, hkk, hbw⟩
        · go_wp2
          go_meet
          have hM := HXY.out.1
          unfold Made at hM
          rw [if_pos rfl] at hM
          refine ⟨g, g1, zs, xs, c, c1, q, p, s, r, rfl, rfl, HZL.out, rfl, ?_, ?_, Ne.symm hgn, hgw, by omega, dz, dx, hq, hp, hs, hr, hM.1, hM.2, ?_, ?_⟩
          · exact (((hy.far (p := ⟨w.heap.size, 0, none⟩) hgw _).far (p := ⟨w.heap.size, 1, none⟩) hgw _).far (p := ⟨w.heap.size, 2, none⟩) hgw _).far (p := ⟨w.heap.size, 3, none⟩) hgw _
          · exact (((hx.far (p := ⟨w.heap.size, 0, none⟩) (Nat.ne_of_lt hg1) _).far (p := ⟨w.heap.size, 1, none⟩) (Nat.ne_of_lt hg1) _).far (p := ⟨w.heap.size, 2, none⟩) (Nat.ne_of_lt hg1) _).far (p := ⟨w.heap.size, 3, none⟩) (Nat.ne_of_lt hg1) _
          · exact (((hkk.set_ 0 _).set_ 1 _).set_ 2 _).set_ 3 _
          · exact (((hbw.setCell (p := ⟨w.heap.size, 0, none⟩) (by show B ≤ w.heap.size; omega) _).setCell (p := ⟨w.heap.size, 1, none⟩) (by show B ≤ w.heap.size; omega) _).setCell (p := ⟨w.heap.size, 2, none⟩) (by show B ≤ w.heap.size; omega) _).setCell (p := ⟨w.heap.size, 3, none⟩) (by show B ≤ w.heap.size; omega) _
      case rest =>
        clear hx hy hgn hgw hkk hbw m0 m1 m2 m3 m4 fm dz HZL HK
        obtain ⟨gu, gv, us, vs, cu, cv, P, Q, R, S, rfl, rfl, hul, hvl, hu, hv, huv, hgu, hgv, du, dv, hP, hQ, hR, hS, e1, e2, hkk, hbw⟩ := hcut
        have m0 := hkk.cell (i := 0) (u := .int .u64 (P : Nat)) rfl
        have m1 := hkk.cell (i := 1) (u := .int .u64 (Q : Nat)) rfl
        have m2 := hkk.cell (i := 2) (u := .int .u64 (R : Nat)) rfl
        have m3 := hkk.cell (i := 3) (u := .int .u64 (S : Nat)) rfl
        have HE := Lib.hid (And.intro e1 (And.intro e2 (And.intro hul hvl)))
        clear e1 e2 hul hvl
        have hwz := hkk.lt
        go_upto_region 6 with fail
        go_cut [8, 9] (fun s8 s9 wx => ∃ (ha hb : Nat), s8 = .pointer (some ⟨ha, 0, none⟩) ∧ s9 = .pointer (some ⟨hb, 0, none⟩) ∧ ha ≠ hb ∧ gu ≠ ha ∧ gu ≠ hb ∧ gv ≠ ha ∧ gv ≠ hb ∧ B ≤ ha ∧ B ≤ hb ∧ Row .u64 wx ha 188 [P, Q, 0, 0, 0] ∧ Row .u64 wx hb 188 [S, R, 0, 0, 0] ∧
          Ob wx B gu us cu ∧ Ob wx B gv vs cv ∧ Below B w wx)
        case first =>
          have hul := hu.lt
          have hvl := hv.lt
          have hBu := hu.base
          have hbn : ∀ o1 o2 : Obj, Below B w ((wc.alloc o1).alloc o2).drew := fun o1 o2 => ((hbw.alloc (by omega) _).alloc (by rw [World.size_alloc]; omega) _).drew
          have hun : ∀ o1 o2 : Obj, Ob ((wc.alloc o1).alloc o2).drew B gu us cu := fun o1 o2 => ((hu.alloc o1).alloc o2).block rfl
          have hvn : ∀ o1 o2 : Obj, Ob ((wc.alloc o1).alloc o2).drew B gv vs cv := fun o1 o2 => ((hv.alloc o1).alloc o2).block rfl
          have t1 := two_new wc (.cells #[.int .u64 P, .int .u64 Q, .int .u64 0, .int .u64 0, .int .u64 0] 188) (.cells #[.int .u64 S, .int .u64 R, .int .u64 0, .int .u64 0, .int .u64 0] 188)
          have t2 := two_new wc (.cells #[.int .u64 S, .int .u64 R, .int .u64 0, .int .u64 0, .int .u64 0] 188) (.cells #[.int .u64 P, .int .u64 Q, .int .u64 0, .int .u64 0, .int .u64 0] 188)
          have HN := Lib.hid (And.intro (And.intro hbn (And.intro hun hvn)) (And.intro t1 t2))
          clear hbn hun hvn t1 t2
          go_region
          · go_wp2
            go_meet
            exact ⟨wc.heap.size, wc.heap.size + 1, rfl, rfl, by omega, by omega, by omega, by omega, by omega, by omega, by omega, HN.out.2.1.1, HN.out.2.1.2, HN.out.1.2.1 _ _, HN.out.1.2.2 _ _, HN.out.1.1 _ _⟩
          · go_wp2
            go_meet
            exact ⟨wc.heap.size + 1, wc.heap.size, rfl, rfl, by omega, by omega, by omega, by omega, by omega, by omega, by omega, HN.out.2.2.2, HN.out.2.2.1, HN.out.1.2.1 _ _, HN.out.1.2.2 _ _, HN.out.1.1 _ _⟩
        case rest =>
          clear hu hv hkk hbw m0 m1 m2 m3
          obtain ⟨ha, hb, rfl, rfl, hab, hua, hub, hva, hvb, hBa, hBb, hra, hrb, hu, hv, hbw⟩ := hcut
          go_wp2_with fail
          go_loopw [49] (fun iv wr => ∃ (k M L d M2 L2 d2 : Nat) (ds es : List Nat), k ≤ xs.length ∧ iv = .int .i64 k ∧ M < W64 ∧ L < W64 ∧ d ≤ 1 ∧ M2 < W64 ∧ L2 < W64 ∧ d2 ≤ 1 ∧ ds.length = k ∧ es.length = k ∧ Dig W64 ds ∧ Dig W64 es ∧
            val W64 ds + Q * val W64 (vs.take k) + W64 ^ k * M = P * val W64 (us.take k) + W64 ^ k * L + W64 ^ k * d ∧ val W64 es + R * val W64 (us.take k) + W64 ^ k * M2 = S * val W64 (vs.take k) + W64 ^ k * L2 + W64 ^ k * d2 ∧
            Row .u64 wr ha 188 [P, Q, M, L, d] ∧ Row .u64 wr hb 188 [S, R, M2, L2, d2] ∧ Ob wr B gu (ds ++ us.drop k) cu ∧ Ob wr B gv (es ++ vs.drop k) cv ∧ Below B w wr) (fun iv _ => xs.length - (intOf iv).toNat)
          case atStart => exact ⟨0, 0, 0, 0, 0, 0, 0, [], [], Nat.zero_le _, rfl, by decide, by decide, by omega, by decide, by decide, by omega, rfl, rfl, Dig.nil _, Dig.nil _, by simp [val], by simp [val], hra, hrb, by simpa using hu, by simpa using hv, hbw⟩
          case round =>
            clear hra hrb hu hv hbw
            obtain ⟨k, M, L, d, M2, L2, d2, ds, es, hk, rfl, hM, hL, hd, hM2, hL2, hd2, hdl, hel, hdd, hed, i1, i2, hra, hrb, hu, hv, hbw⟩ := hrel
            have HI := Lib.hid (And.intro i1 i2)
            have HD := Lib.hid (And.intro hdl hel)
            clear i1 i2 hdl hel
            by_cases hlt : k < xs.length
            · have hku : k < us.length := by have := HE.out.2.2.1; omega
              have hkv : k < vs.length := by have := HE.out.2.2.2; omega
              have hil : k < (ds ++ us.drop k).length := by rw [fill_length ds us HD.out.1 (by omega)]; exact hku
              have hjl : k < (es ++ vs.drop k).length := by rw [fill_length es vs HD.out.2 (by omega)]; exact hkv
              have cu1 := hu.cell hil
              have cv1 := hv.cell hjl
              rw [fill_get ds us HD.out.1 hku] at cu1
              rw [fill_get es vs HD.out.2 hkv] at cv1
              have fu1 := hu.frozen k
              have fv1 := hv.frozen k
              have hxu := du.get hku
              have hxv := dv.get hkv
              have st1 := fun (M' L' d' z lo ll : Nat) => comb_step (M' := M') (L' := L') (d' := d') (z := z) (lo := lo) (ll := ll) (v := us[k]) (w := vs[k]) HI.out.1 HD.out.1
              have st2 := fun (M' L' d' z lo ll : Nat) => comb_step (M' := M') (L' := L') (d' := d') (z := z) (lo := lo) (ll := ll) (v := vs[k]) (w := us[k]) HI.out.2 HD.out.2
              rw [← val_take_succ W64 hku, ← val_take_succ W64 hkv] at st1 st2
              have pu := fun z => hu.set_ z hil
              have pv := fun z => hv.set_ z hjl
              generalize us[k] = x at *
              generalize vs[k] = y at *
              have ST := Lib.hid (And.intro st1 st2)
              have hki : (k : Int) < (xs.length : Int) := by omega
              clear st1 st2 pu pv
              go_wp2_with (go_quiet (fail))
              have hra1 := hra.drew nq
              have hrb1 := hrb.drew nq
              refine (word_any ha P Q M L d x y _ hra1 hP hQ hM hL hd hxu hxv).mono ?_
              rintro e w2 ⟨z, M', L', d', lo, ll, rfl, hz, hM', hL', hd', q1, q2, q3, hra2, hu2⟩
              have hrb2 := hrb1.upd hu2 (Ne.symm hab)
              have HQ := Lib.hid (And.intro q1 (And.intro q2 q3))
              clear q1 q2 q3 hra1 hrb1 hra hrb
              go_wp2_with fail
              refine (word_any hb S R M2 L2 d2 y x _ hrb2 hS hR hM2 hL2 hd2 hxv hxu).mono ?_
              rintro e w3 ⟨z2, M2', L2', d2', lo2, ll2, rfl, hz2, hM2', hL2', hd2', q1, q2, q3, hrb3, hu3⟩
              have hra3 := hra2.upd hu3 hab
              have HQ2 := Lib.hid (And.intro q1 (And.intro q2 q3))
              have hu4 : Ob w3 B gu (ds ++ us.drop k) cu := (((hu.block (w' := wr.drewN nq) rfl).upd hu2 hua).upd hu3 hub)
              have hv4 : Ob w3 B gv (es ++ vs.drop k) cv := (((hv.block (w' := wr.drewN nq) rfl).upd hu2 hva).upd hu3 hvb)
              have hb4 : Below B w w3 := ((hbw.trans ((show Qu wr (wr.drewN nq) from ⟨nq, rfl⟩).below _)).trans (hu2.below hBa)).trans (hu3.below hBb)
              clear q1 q2 q3 hra2 hrb2 hu2 hu3 cu1 cv1 fu1 fv1 hu hv hbw
              have cu1 := hu4.cell hil
              have cv1 := hv4.cell hjl
              have fu1 := hu4.frozen k
              have fv1 := hv4.frozen k
              have pu := hu4.set_ z hil
              rw [fill_put ds us z HD.out.1 hku] at pu
              have pv := (hv4.far (p := ⟨gu, k, none⟩) (Ne.symm huv) (.int .u64 z)).set_ z2 hjl
              rw [fill_put es vs z2 HD.out.2 hkv] at pv
              have pu2 := pu.far (p := ⟨gv, k, none⟩) huv (.int .u64 z2)
              have r1 := ST.out.1 M' L' d' z lo ll HQ.out.1 HQ.out.2.1 HQ.out.2.2
              have r2 := ST.out.2 M2' L2' d2' z2 lo2 ll2 HQ2.out.1 HQ2.out.2.1 HQ2.out.2.2
              have HP := Lib.hid (And.intro pu2 pv)
              have HR := Lib.hid (And.intro r1 r2)
              clear pu pv pu2 r1 r2
              go_wp2
              go_roundw
              case rel =>
                exact ⟨k + 1, M', L', d', M2', L2', d2', ds ++ [z], es ++ [z2], by omega, by go_num, hM', hL', hd', hM2', hL2', hd2', by simp; exact HD.out.1, by simp; exact HD.out.2, dig_snoc hdd hz, dig_snoc hed hz2, HR.out.1, HR.out.2,
                  (hra3.far (p := ⟨gu, k, none⟩) (Ne.symm hua) _).far (p := ⟨gv, k, none⟩) (Ne.symm hva) _, (hrb3.far (p := ⟨gu, k, none⟩) (Ne.symm hub) _).far (p := ⟨gv, k, none⟩) (Ne.symm hvb) _, HP.out.1, HP.out.2,
                  (hb4.setCell (p := ⟨gu, k, none⟩) hu4.base _).setCell (p := ⟨gv, k, none⟩) hv4.base _⟩
              case measure => simp [intOf]; omega
            · obtain rfl : k = xs.length := by omega
              have nu : us.drop xs.length = [] := by rw [← HE.out.2.2.1, List.drop_length]
              have nv : vs.drop xs.length = [] := by rw [← HE.out.2.2.2, List.drop_length]
              rw [nu, List.append_nil] at hu
              rw [nv, List.append_nil] at hv
              have g1 := HI.out.1
              have g2 := HI.out.2
              have tu : us.take xs.length = us := by rw [← HE.out.2.2.1, List.take_length]
              have tv : vs.take xs.length = vs := by rw [← HE.out.2.2.2, List.take_length]
              rw [tu, tv] at g1 g2
              have v1 := comb_end g1 HD.out.1 hdd HE.out.1 HXY.out.2.1
              have v2 := comb_end g2 HD.out.2 hed HE.out.2.1 HXY.out.2.2
              have HV := Lib.hid (And.intro v1 v2)
              have l1 := hu.len
              have l2 := hv.len
              rw [HD.out.1] at l1
              rw [HD.out.2] at l2
              have T1 := fun (W : World) h => trim_any (some ⟨gu, 0, none⟩) ds cu W h (by rw [HD.out.1]; exact l1) hu.cap
              have T2 := fun (W : World) h => trim_any (some ⟨gv, 0, none⟩) es cv W h (by rw [HD.out.2]; exact l2) hv.cap
              rw [HD.out.1] at T1
              rw [HD.out.2] at T2
              have HT1 := Lib.hid T1
              have HT2 := Lib.hid T2
              clear nu nv g1 g2 tu tv v1 v2 T1 T2
              go_wp2_with fail
              refine (HT1.out _ (hu.sl hu.lt)).mono ?_
              rintro e w5 ⟨rfl, rfl⟩
              go_wp2_with fail
              refine (HT2.out _ (hv.sl hv.lt)).mono ?_
              rintro e w5 ⟨rfl, rfl⟩
              go_wp2_with fail
              go_ret2
              have n1 := trimL_len ds
              have n2 := trimL_len es
              exact ⟨gu, gv, trimL ds, trimL es, cu, cv, rfl, hu.trim, hv.trim, huv, dig_trimL hdd, norm_trimL _, by rw [val_trimL]; exact HV.out.1, dig_trimL hed, norm_trimL _, by rw [val_trimL]; exact HV.out.2, by have := HD.out.1; omega, by have := HD.out.2; omega, hbw⟩
end Go.Proofs.YtjamfkafgfpobaaGreat
/-! ### Gcd -/
namespace Go.Proofs.YtjamfkafgfpobaaGreat
open Go.RowKit Nb
/-- A list in a block of its own; where it has no words, whatever. -/
def Mine (w : World) (B : Nat) (A : Option Addr) (zs : List Nat) (c : Nat) : Prop := zs = [] ∨ ∃ g, A = some ⟨g, 0, none⟩ ∧ Ob w B g zs c
/-- The two blocks are not one. -/
def Far (A C : Option Addr) (xs ys : List Nat) : Prop := ∀ g h, xs ≠ [] → ys ≠ [] → A = some ⟨g, 0, none⟩ → C = some ⟨h, 0, none⟩ → g ≠ h
theorem Mine.sl {w : World} {B : Nat} {A : Option Addr} {zs : List Nat} {c : Nat} (h : Mine w B A zs c) : Sl .u64 w w.heap.size A zs := by
  rcases h with rfl | ⟨g, rfl, ho⟩
  · exact Sl.none_
  · exact ho.sl ho.lt
theorem Mine.less {w : World} {B B' : Nat} {A : Option Addr} {zs : List Nat} {c : Nat} (h : Mine w B A zs c) (hB : B' ≤ B) : Mine w B' A zs c := by
  rcases h with rfl | ⟨g, rfl, ho⟩
  · exact .inl rfl
  · exact .inr ⟨g, rfl, ho.less hB⟩
theorem Mine.below {w w' : World} {B : Nat} {A : Option Addr} {zs : List Nat} {c : Nat} (h : Mine w B A zs c) (hb : Below w.heap.size w w') : Mine w' B A zs c := by
  rcases h with rfl | ⟨g, rfl, ho⟩
  · exact .inl rfl
  · exact .inr ⟨g, rfl, ho.below hb ho.lt⟩
theorem Mine.of_own {w : World} {D : Nat} {A : Option Addr} {zs : List Nat} {c : Nat} (h : w.ownsRow D 160 1 (.slice A zs.length c) zs.length (zs.map fun n : Nat => Value.int .u64 n)) : Mine w D A zs c := by
  rcases Nat.eq_zero_or_pos zs.length with h0 | h0
  · exact .inl (List.eq_nil_of_length_eq_zero h0)
  · obtain ⟨g, c', e, ho⟩ := ob_addr h h0 rfl
    injection e with e1 _ e2
    subst e1; subst e2
    exact .inr ⟨g, rfl, ho⟩
set_option maxHeartbeats 1000000 in
set_option maxRecDepth 20000 in
theorem clone_empty (ad : Addr) (c : Nat) (w : World) :
    Calls Tryz.prog 133 #[.slice (some ad) 0 c] w fun e w' => ∃ A' c', e = .returned (.slice A' 0 c') ∧ c' ≤ maxLen ∧ Below w.heap.size w w' := by
  obtain ⟨i0, hi, hz0, hz1, hz2⟩ := info_u64p
  have q22 : ∀ (w : World), (binOp .eql 70 (.slice (some ad) 0 c) (.slice none 0 0)).run Tryz.prog w = .ok (.bool false) w := fun w => Lib.run_eql_slice_nil w _ _ (some ad) 0 c 0 0 Tryz.underlying70
  go_enter Tryz.func133, Tryz.ntmps133
  go_wp2_with (at_builtin; refine wpList_append_own _ rfl (.tmp 5) (.tmp 6) 70 rfl w.heap.size 160 i0 (.int .u64 0) 1 8 Tryz.underlying70 hi hz0 hz1 hz2 rfl (by decide) _ 0 [] rfl (World.ownsRow_made w #[] 0 (Nat.le_refl _) (Nat.zero_le _) rfl) ad 0 c [] rfl rfl (by simp) (by simp) (by unfold maxLen; omega) (by omega) (by simp) ?_
               intro v' w3 hown hgr _)
  obtain ⟨A', c', rfl, hcm⟩ : ∃ A' c', v' = .slice A' 0 c' ∧ c' ≤ maxLen := by
    rcases hown.2 with ⟨h, _⟩ | ⟨g, cap, cur, h, _, _, _, hm, _⟩
    · exact ⟨none, 0, h, Nat.zero_le _⟩
    · exact ⟨_, cap, h, hm⟩
  have hb : Below w.heap.size w w3 := ((Below.refl _ _).alloc (Nat.le_refl _) _ : Below w.heap.size w (w.alloc _)).grown hgr (by simp) (fun q hq => by have h2 : some w.heap.size = some q := hq; injection h2 with h2; omega)
  go_ret
  exact ⟨A', c', rfl, hcm, hb⟩
/-- A copy of any list, also of none. -/
theorem clone_all (A : Option Addr) (xs : List Nat) (c : Nat) (w : World) (hx : Sl .u64 w w.heap.size A xs) (hl : xs.length * 8 ≤ 140737488351232) :
    Calls Tryz.prog 133 #[.slice A xs.length c] w fun e w' => ∃ A' c', e = .returned (.slice A' xs.length c') ∧ Mine w' w.heap.size A' xs c' ∧ (xs.length ≤ c' ∧ c' ≤ maxLen) ∧ Below w.heap.size w w' := by
  rcases Nat.eq_zero_or_pos xs.length with h0 | h0
  · obtain rfl : xs = [] := List.eq_nil_of_length_eq_zero h0
    cases A with
    | none => exact (Tryz.slices_Clone_nil 0 c w).mono fun e w' ⟨h1, h2⟩ => ⟨none, 0, h1, .inl rfl, ⟨Nat.le_refl _, Nat.zero_le _⟩, by rw [h2]; exact Below.refl _ _⟩
    | some ad => exact (clone_empty ad c w).mono fun e w' ⟨A', c', h1, h3, h2⟩ => ⟨A', c', h1, .inl rfl, ⟨Nat.zero_le _, h3⟩, h2⟩
  · obtain ⟨i0, hi, hz0, hz1, hz2⟩ := info_u64p
    obtain ⟨ad, rfl, hb, hc⟩ := hx h0
    obtain ⟨b, o, sp⟩ := ad
    have hsp : sp = none := by
      have := hc 0 h0
      rw [show (⟨b, o, sp⟩ : Addr).add 0 = ⟨b, o, sp⟩ from by simp [Addr.add]] at this
      cases sp with
      | none => rfl
      | some s => simp [World.cell?] at this; split at this <;> simp at this
    subst hsp
    refine (Tryz.slices_Clone i0 (.int .u64 0) 1 8 hi hz0 hz1 hz2 rfl (by decide) size_u64 b o xs.length c (xs.map fun n : Nat => Value.int .u64 n) w (by simp) (by unfold maxLen; omega) (by omega) (fun j u hu => ?_) (fun u hu => ?_)).mono ?_
    · rw [List.getElem?_map] at hu
      rcases hj : xs[j]? with _ | x
      · rw [hj] at hu; cases hu
      · rw [hj] at hu
        obtain ⟨hlt, rfl⟩ := List.getElem?_eq_some_iff.1 hj
        have := hc j hlt
        rw [Lib.add_plain] at this
        rw [this]; exact hu
    · obtain ⟨n, _, rfl⟩ := List.mem_map.1 hu
      rfl
    · rintro e w' ⟨v', rfl, hown, _, hbel⟩
      obtain ⟨g, c', rfl, ho⟩ := ob_addr hown h0 rfl
      exact ⟨_, c', rfl, .inr ⟨g, rfl, ho⟩, ⟨ho.len, ho.cap⟩, hbel⟩
/-- A new list of words that tells a number; its block may be great. -/
def WordsL (w : World) (V L : Nat) (e : Ending) (w' : World) : Prop := ∃ (A : Option Addr) (zs : List Nat) (c : Nat), e = .returned (.slice A zs.length c) ∧ Sl .u64 w' w'.heap.size A zs ∧ Dig W64 zs ∧ Norm zs ∧ val W64 zs = V ∧ zs.length ≤ c ∧ c ≤ maxLen ∧ zs.length ≤ L ∧ Below w.heap.size w w'
theorem cmpI_neg {x y : Int} (h : x < y) : cmpI x y < 0 := by rw [cmpI_lt h]; decide
theorem far_new {w w' : World} {B : Nat} {A C : Option Addr} {us vs : List Nat} {c d : Nat} (h1 : Mine w B A us c) (h2 : Mine w' w.heap.size C vs d) : Far A C us vs := by
  intro g h n1 n2 e1 e2
  rcases h1 with h0 | ⟨g', e3, o1⟩
  · exact absurd h0 n1
  · rcases h2 with h0 | ⟨h', e4, o2⟩
    · exact absurd h0 n2
    · rw [e1] at e3; rw [e2] at e4
      injection e3 with e3; injection e3 with e3
      injection e4 with e4; injection e4 with e4
      have := o1.lt; have := o2.base
      omega
theorem high_le {a b K α β : Nat} (hα : α < K) (h : b * K + β ≤ a * K + α) : b ≤ a := by
  rcases Nat.lt_or_ge a b with h1 | h1
  · have h2 : (a + 1) * K ≤ b * K := Nat.mul_le_mul_right _ h1
    rw [Nat.add_mul] at h2
    omega
  · exact h1
/-- What common keeps of its two lists. -/
structure Cm (w0 w : World) (A C : Option Addr) (us vs : List Nat) (c d G L : Nat) : Prop where
  m1 : Mine w w0.heap.size A us c
  m2 : Mine w w0.heap.size C vs d
  far : Far A C us vs
  d1 : Dig W64 us
  d2 : Dig W64 vs
  n1 : Norm us
  n2 : Norm vs
  le : val W64 vs ≤ val W64 us
  gcd : Nat.gcd (val W64 us) (val W64 vs) = G
  len : us.length ≤ L
  below : Below w0.heap.size w0 w
  c1 : us.length ≤ c ∧ c ≤ maxLen
  c2 : vs.length ≤ d ∧ d ≤ maxLen
set_option maxHeartbeats 8000000 in
set_option maxRecDepth 20000 in
theorem common_any (A C : Option Addr) (xs ys : List Nat) (c d L : Nat) (w : World) (hx : Sl .u64 w w.heap.size A xs) (hy : Sl .u64 w w.heap.size C ys) (dx : Dig W64 xs) (dy : Dig W64 ys) (nx : Norm xs) (ny : Norm ys)
    (hl : (L + 2) * 8 ≤ 140737488351232) (h1 : xs.length ≤ L) (h2 : ys.length ≤ L) :
    Calls Tryz.prog 123 #[.slice A xs.length c, .slice C ys.length d] w (WordsL w (Nat.gcd (val W64 xs) (val W64 ys)) (L + 1)) := by
  have hcmp := compare_any A C xs ys c d w hx hy dx dy nx ny (by omega) (by omega)
  have HC := Lib.hid hcmp
  have HN := Lib.hid (And.intro nx ny)
  clear hcmp nx ny
  go_enter Tryz.func123, Tryz.ntmps123
  go_wp2_with fail
  refine (HC.out).mono ?_
  rintro e w1 ⟨rfl, hq⟩
  go_upto_if 11 with fail
  go_cut [0, 1] (fun s0 s1 wx => ∃ (A' C' : Option Addr) (us vs : List Nat) (c' d' : Nat), s0 = .slice A' us.length c' ∧ s1 = .slice C' vs.length d' ∧ Sl .u64 wx w.heap.size A' us ∧ Sl .u64 wx w.heap.size C' vs ∧ Dig W64 us ∧ Dig W64 vs ∧ Norm us ∧ Norm vs ∧
    val W64 vs ≤ val W64 us ∧ Nat.gcd (val W64 us) (val W64 vs) = Nat.gcd (val W64 xs) (val W64 ys) ∧ us.length ≤ L ∧ vs.length ≤ L ∧ Qu w wx)
  case first =>
    rcases Nat.lt_or_ge (val W64 xs) (val W64 ys) with hlt | hge
    · have hz := cmpI_neg (x := (val W64 xs : Nat)) (y := (val W64 ys : Nat)) (by omega)
      go_wp2
      go_meet
      exact ⟨C, A, ys, xs, d, c, rfl, rfl, hy.below (hq.below _), hx.below (hq.below _), dy, dx, HN.out.2, HN.out.1, by omega, Nat.gcd_comm _ _, h2, h1, hq⟩
    · have hz := cmpI_ge (x := (val W64 xs : Nat)) (y := (val W64 ys : Nat)) (by omega)
      go_wp2
      go_meet
      exact ⟨A, C, xs, ys, c, d, rfl, rfl, hx.below (hq.below _), hy.below (hq.below _), dx, dy, HN.out.1, HN.out.2, by omega, rfl, h1, h2, hq⟩
  case rest =>
    clear hx hy dx dy HN HC hq h1 h2
    obtain ⟨A', C', us, vs, c', d', rfl, rfl, hx, hy, dx, dy, nx, ny, hle, hg, h1, h2, hq⟩ := hcut
    have K1 := Lib.hid (clone_all A' us c' wc ((hx.more (hq.below w.heap.size).size)) (by omega))
    have hHY := Lib.hid (And.intro nx (And.intro ny (And.intro hle hg)))
    clear nx ny hle hg
    go_wp2_with fail
    refine (K1.out).mono ?_
    rintro e w2 ⟨A2, c2, rfl, m1, hlc1, hb1⟩
    have K2 := Lib.hid (clone_all C' vs d' w2 ((hy.below (hb1.mono (hq.below w.heap.size).size)).more (by have := (hq.below w.heap.size).size; have := hb1.size; omega)) (by omega))
    go_wp2_with fail
    refine (K2.out).mono ?_
    rintro e w3 ⟨C2, d2, rfl, m2, hlc2, hb2⟩
    have m1' := m1.below hb2
    have hb12 : Below w.heap.size w w3 := (hq.below _).trans ((hb1.trans (hb2.mono hb1.size)).mono (hq.below w.heap.size).size)
    have hcm : Cm w w3 A2 C2 us vs c2 d2 (Nat.gcd (val W64 xs) (val W64 ys)) L :=
      ⟨m1'.less (hq.below w.heap.size).size, m2.less (Nat.le_trans (hq.below w.heap.size).size hb1.size), far_new m1 m2, dx, dy, hHY.out.1, hHY.out.2.1, hHY.out.2.2.1, hHY.out.2.2.2, h1, hb12, hlc1, hlc2⟩
    have hle0 := hHY.out.2.2.1
    have HLE := Lib.hid hle0
    clear hle0 m1 m1' m2 hb12 hb1 hb2 hlc1 hlc2 K1 K2 hHY dx dy h1 h2 hx hy hq
    go_wp2_with fail
    obtain ⟨G, hG⟩ : ∃ G, Nat.gcd (val W64 xs) (val W64 ys) = G := ⟨_, rfl⟩
    rw [hG] at hcm
    have HGG := Lib.hid hG
    clear hG
    go_loopg [0, 1] (val W64 us) (fun m s0 s1 wr => ∃ (A C : Option Addr) (us vs : List Nat) (c d : Nat), s0 = .slice A us.length c ∧ s1 = .slice C vs.length d ∧ Cm w wr A C us vs c d G L ∧ val W64 vs ≤ m)
    case atStart => exact ⟨A2, C2, us, vs, c2, d2, rfl, rfl, hcm, HLE.out⟩
    case round =>
      clear hcm HLE
      obtain ⟨A, C, us, vs, c, d, rfl, rfl, k, hm⟩ := hrel
      have HM := Lib.hid hm
      clear hm
      have hlv : vs.length ≤ us.length := norm_len_le (B := W64) (by decide) k.n2 k.d1 k.le
      have hlu := k.len
      by_cases hv2 : 2 ≤ vs.length
      · obtain ⟨g, rfl, o1⟩ : ∃ g, A = some ⟨g, 0, none⟩ ∧ Ob wr w.heap.size g us c := by
          rcases k.m1 with h0 | h0
          · rw [h0] at hlv; simp only [List.length_nil] at hlv; omega
          · exact h0
        obtain ⟨h, rfl, o2⟩ : ∃ h, C = some ⟨h, 0, none⟩ ∧ Ob wr w.heap.size h vs d := by
          rcases k.m2 with h0 | h0
          · subst h0; simp at hv2
          · exact h0
        have hgh : g ≠ h := k.far g h (by intro e; rw [e] at hlv; simp only [List.length_nil] at hlv; omega) (by intro e; subst e; simp at hv2) rfl rfl
        have hvi : (1 : Int) < (vs.length : Int) := by omega
        obtain ⟨j, hj⟩ : ∃ j, us.length = j + 2 := ⟨us.length - 2, by omega⟩
        have HH := Lib.hid (highest_any (some ⟨g, 0, none⟩) (some ⟨h, 0, none⟩) us vs c d j wr (o1.sl o1.lt) (o2.sl o2.lt) k.d1 k.d2 k.n1 hj (by omega) k.le hlv)
        have HJ := Lib.hid hj
        have hgl := o1.lt
        have hhl := o2.lt
        clear hj
        go_wp2_with fail
        refine (HH.out).mono ?_
        rintro e w4 ⟨a, b, K, α, β, rfl, ha, hα, hβ, eX, eY, hq4⟩
        have hle := k.le
        rw [eX, eY] at hle
        have hba := high_le hα hle
        have HXY := Lib.hid (And.intro eX (And.intro eY hle))
        clear eX eY hle HH
        go_wp2_with fail
        refine (foresee_any a b _ hba ha).mono ?_
        rintro e w5 ⟨p, q, r, s, a', b', odd, rfl, hE, hp, hq', hr, hs, hb5⟩
        have HE := Lib.hid hE
        have hb45 : Below wr.heap.size wr w5 := (hq4.below _).trans (hb5.mono (hq4.below wr.heap.size).size)
        clear hE hb5 hq4
        have hb6 : Below wr.heap.size wr (w5.alloc (.cells #[.int .u64 p, .int .u64 q, .int .u64 r, .int .u64 s, .bool odd] 171)) := hb45.alloc hb45.size _
        have hkk : Blk (w5.alloc (.cells #[.int .u64 p, .int .u64 q, .int .u64 r, .int .u64 s, .bool odd] 171)) w5.heap.size 171 (stp p q r s odd) := Blk.new w5 (stp p q r s odd) 171
        have q0 := hkk.cell (i := 0) (u := .int .u64 (p : Nat)) rfl
        have q1 := hkk.cell (i := 1) (u := .int .u64 (q : Nat)) rfl
        have q2 := hkk.cell (i := 2) (u := .int .u64 (r : Nat)) rfl
        have q3 := hkk.cell (i := 3) (u := .int .u64 (s : Nat)) rfl
        have q4 := hkk.cell (i := 4) (u := .bool odd) rfl
        have p1 := o1.below hb6 hgl
        have p2 := o2.below hb6 hhl
        have hbW := k.below.trans (hb6.mono k.below.size)
        rcases Nat.eq_zero_or_pos q with h0 | h0
        · have hq0 : ((q : Int) == 0) = true := by simp [h0]
          obtain ⟨i, hi⟩ : ∃ i, vs.length = i + 2 := ⟨vs.length - 2, by omega⟩
          have HB := Lib.hid (byWords_own (some ⟨g, 0, none⟩) (some ⟨h, 0, none⟩) us vs c d i _ (p1.sl p1.lt) (p2.sl p2.lt) k.d1 k.d2 k.n2 hi (by omega) (by omega))
          clear hi h0
          unfold stepsV
          go_wp2_with fail
          refine (HB.out).mono ?_
          rintro e w7 ⟨A1, zs, k1, B1, rs, d1, rfl, t1, t2, t3, t4, t5, t6, t7, t8, t9, t10, t11, t12, t13, town⟩
          have r2 := p2.below t13 p2.lt
          have mr := Mine.of_own town
          have hbs := p2.lt
          have hbW7 := hbW.trans (t13.mono hbW.size)
          have hv0 : 0 < val W64 vs := by
            rcases Nat.eq_zero_or_pos (val W64 vs) with e0 | e0
            · have := (norm_zero (B := W64) (by decide) k.n2).1 e0
              rw [this] at hv2; simp at hv2
            · exact e0
          have hlt : val W64 rs < val W64 vs := by rw [t10]; exact Nat.mod_lt _ hv0
          have hgcd : Nat.gcd (val W64 vs) (val W64 rs) = G := by rw [t10, ← k.gcd, Nat.gcd_comm (val W64 vs), ← Nat.gcd_rec, Nat.gcd_comm]
          have HV := Lib.hid (And.intro hlt hgcd)
          clear t1 t2 t3 t4 t5 t6 t7 t10 t13 town hlt hgcd HB q0 q1 q2 q3 q4 hkk
          go_wp2
          go_roundg (val W64 rs)
          case measure => have := HM.out; have := HV.out.1; omega
          case rel =>
            refine ⟨some ⟨h, 0, none⟩, B1, vs, rs, d, d1, rfl, rfl, ⟨.inr ⟨h, rfl, r2⟩, mr.less hbW.size, ?_, k.d2, t8, k.n2, t9, Nat.le_of_lt HV.out.1, HV.out.2, by omega, hbW7, k.c2, t11, by unfold maxLen; omega⟩, Nat.le_refl _⟩
            intro g1 h1 n1 n2 e1 e2
            injection e1 with e1; injection e1 with e1
            rcases mr with m0 | ⟨h', e4, o4⟩
            · exact absurd m0 n2
            · rw [e4] at e2
              injection e2 with e2; injection e2 with e2
              have := o4.base
              omega
        · have hq0 : ((q : Int) == 0) = false := beq_false_of_ne (by omega)
          obtain ⟨X, Y, hMd, hGc, hYX, hpr, _⟩ := HE.out.all K α β hα hβ HXY.out.2.2
          obtain ⟨y1, y2, y3⟩ := hpr (by omega)
          rw [← HXY.out.1, ← HXY.out.2.1] at hMd hGc
          rw [← HXY.out.2.1] at y1 y3
          have hXs : X < W64 ^ us.length := Nat.lt_of_le_of_lt (Nat.le_trans y3 k.le) (val_lt k.d1)
          have hYs : Y < W64 ^ us.length := Nat.lt_trans y2 hXs
          have HB := Lib.hid (do_any w.heap.size g h p q r s odd us vs c d X Y _ p1 p2 hgh k.d1 k.d2 hp hq' hr hs hlv (by omega) (by omega) hMd hXs hYs)
          have HY := Lib.hid (And.intro y1 (And.intro y2 (And.intro y3 hGc)))
          clear hMd hGc hYX y1 y2 y3 hXs hYs hpr
          unfold stepsV
          go_wp2_with fail
          refine (HB.out).mono ?_
          rintro e w7 ⟨g1, h1, us1, vs1, c1, d1, rfl, t1, t2, t3, t4, t5, t6, t7, t8, t9, t10, t11, t12⟩
          have hbW7 := hbW.trans t12
          have HV := Lib.hid (And.intro t6 t9)
          clear t6 t9 t12 HB q0 q1 q2 q3 q4 hkk
          go_wp2
          go_roundg Y
          case measure => have := HM.out; have := HY.out.1; omega
          case rel =>
            refine ⟨some ⟨g1, 0, none⟩, some ⟨h1, 0, none⟩, us1, vs1, c1, d1, rfl, rfl, ⟨.inr ⟨g1, rfl, t1⟩, .inr ⟨h1, rfl, t2⟩, ?_, t4, t7, t5, t8, ?_, ?_, by omega, hbW7, ⟨t1.len, t1.cap⟩, ⟨t2.len, t2.cap⟩⟩, ?_⟩
            · intro g2 h2 _ _ e1 e2
              injection e1 with e1; injection e1 with e1
              injection e2 with e2; injection e2 with e2
              omega
            · rw [HV.out.1, HV.out.2]; exact Nat.le_of_lt HY.out.2.1
            · rw [HV.out.1, HV.out.2, HY.out.2.2.2]; exact k.gcd
            · rw [HV.out.2]; exact Nat.le_refl _
      · have hvi : ¬ (1 : Int) < (vs.length : Int) := by omega
        rcases Nat.eq_zero_or_pos vs.length with h0 | h0
        · have hv0 : ((vs.length : Int) == 0) = true := by simp [h0]
          have hg := k.gcd
          rw [List.eq_nil_of_length_eq_zero h0, val_nil, Nat.gcd_zero_right] at hg
          have hs := k.m1.sl
          have HG := Lib.hid hg
          clear hg h0
          go_wp2
          go_ret
          exact ⟨A, us, c, rfl, hs, k.d1, k.n1, HG.out.trans HGG.out.symm, k.c1.1, k.c1.2, by omega, k.below⟩
        · obtain ⟨y0, rfl⟩ : ∃ y0, vs = [y0] := by
            match vs, h0, hv2 with
            | [y], _, _ => exact ⟨y, rfl⟩
            | _ :: _ :: _, _, h => exact absurd (by simp) h
          have hv1 : val W64 [y0] = y0 := by simp [val]
          have dy0 : y0 < W64 := k.d2 y0 (by simp)
          have hy0 : 0 < y0 := by
            rcases Nat.eq_zero_or_pos y0 with e0 | e0
            · subst e0; exact absurd rfl (k.n2 (by simp))
            · exact e0
          obtain ⟨g, rfl, o1⟩ : ∃ g, A = some ⟨g, 0, none⟩ ∧ Ob wr w.heap.size g us c := by
            rcases k.m1 with h1 | h1
            · rw [h1] at hlv; simp at hlv
            · exact h1
          obtain ⟨h, rfl, o2⟩ : ∃ h, C = some ⟨h, 0, none⟩ ∧ Ob wr w.heap.size h [y0] d := by
            rcases k.m2 with h1 | h1
            · simp at h1
            · exact h1
          have hgh : g ≠ h := k.far g h (by intro e; rw [e] at hlv; simp at hlv) (by simp) rfl rfl
          have cy := o2.cell (i := 0) (by simp)
          simp only [List.getElem_cons_zero] at cy
          obtain ⟨rest, hrw, _⟩ := o1.row
          have hg := k.gcd
          rw [hv1] at hg
          obtain ⟨R, hR⟩ : ∃ R, val W64 us % y0 = R := ⟨_, rfl⟩
          have hRl : R < W64 := by rw [← hR]; exact Nat.lt_trans (Nat.mod_lt _ hy0) dy0
          have hBW := fun W (hz : RowV .u64 W g 160 us rest) => byWordV_any g us us rest (some ⟨g, 0, none⟩) c c y0 W hz (.inl ⟨rfl, rfl⟩) rfl k.d1 hy0 dy0 (by omega)
          rw [hR] at hBW
          have hgG : Nat.gcd y0 R = G := by rw [← hg, ← hR, Nat.gcd_comm y0, ← Nat.gcd_rec, Nat.gcd_comm]
          have hG0 : 0 < G := by rw [← hgG]; exact Nat.gcd_pos_of_pos_left _ hy0
          have hGW : G < W64 := by rw [← hgG]; exact Nat.lt_of_le_of_lt (Nat.le_of_dvd hy0 (Nat.gcd_dvd_left _ _)) dy0
          have hCW := fun W => commonWord_any y0 R W dy0 hRl
          rw [hgG] at hCW
          have HB := Lib.hid hBW
          have HCW := Lib.hid hCW
          have HG := Lib.hid (And.intro hgG (And.intro hR hv1))
          have hgw := o1.base
          have hbel := k.below
          have hz1 : ((([y0] : List Nat).length : Int) == 0) = false := rfl
          clear hg hgG hR hv1 hBW hCW hvi h0
          simp only [List.length_singleton] at *
          go_wp2_with fail
          go_region_held3 (fun W => W.cell? ⟨h, 0, none⟩ = some (.int .u64 (y0 : Nat)))
            (first | exact cy | exact cy7 | exact cy8 | exact Lib.cell?_alloc_some _ cy8 | trivial)
            (first
            | (go_at_call 139; refine (HB.out _ (by first | exact hrw.drew1 | exact hrw)).mono ?_; rintro e w7 ⟨qs, rfl, hql, hqd, hqv, hrow7, hu7⟩
               have cy7 := (hu7.cell (p := ⟨h, 0, none⟩) (Ne.symm hgh)).trans cy
               clear hql hqv)
            | (go_at_call 138; refine (HCW.out _).mono ?_; rintro e w8 ⟨rfl, hq8⟩
               have cy8 := (hq8.cell ⟨h, 0, none⟩).trans cy7))
          have hb8 : Below w.heap.size w w8 := (((hbel.trans ((Below.refl _ _).drew)).trans (hu7.below hgw)).trans (hq8.below _))
          have hrowG : Row .u64 (w8.alloc (.cells #[.int .u64 (G : Nat)] 160)) w8.heap.size 160 [G] := heap_alloc_new _ _
          have hbG : Below w.heap.size w (w8.alloc (.cells #[.int .u64 (G : Nat)] 160)) := hb8.alloc hb8.size _
          go_wp2
          go_ret
          exact ⟨_, [G], 1, rfl, hrowG.sl hrowG.lt, Dig.one hGW, fun _ => by simp; omega, by rw [HGG.out]; simp [val], Nat.le_refl _, by unfold maxLen; omega, by simp, hbG⟩
end Go.Proofs.YtjamfkafgfpobaaGreat
