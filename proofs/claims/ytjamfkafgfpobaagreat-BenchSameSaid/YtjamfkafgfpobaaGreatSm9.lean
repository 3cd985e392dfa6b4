/-
  A bench made simple: what it is, how great its fractions grow, the row that grows and shrinks, the closure that puts one more, Simple itself; it stays as it is. Conditions: as each theorem states.
-/
import Derived.Test.YtjamfkafgfpobaaGreatBe7
import Derived.Test.YtjamfkafgfpobaaGreatBe8
import Derived.Test.YtjamfkafgfpobaaGreatBm7
import Derived.Test.YtjamfkafgfpobaaGreatRst
import Derived.Test.YtjamfkafgfpobaaGreatBe0
import Derived.Deep.RegionHeld3
import Derived.Deep.DeepCutAuto
import Derived.BigRegion
import Derived.Test.YtjamfkafgfpobaaGreatBea
import Derived.Test.YtjamfkafgfpobaaGreatBm4
import Derived.Test.YtjamfkafgfpobaaGreatBm1
namespace Go.Proofs.YtjamfkafgfpobaaGreat
open Go.RowKit Nb
abbrev Kq := Int × Rat
/-- The plain element that has a matrix. -/
def plainQ (m : Mq) : Kq := if m.a < 0 then (5, 0) else if m.b ≠ 0 then (1, m.b) else (2, -m.c)
/-- One more on the stack, the last one first. -/
def putZ (s : List Kq) (z : Kq) : List Kq :=
 match s with
 | [] => if zemp z then [] else [z]
 | t :: r => if t.1 = z.1 then (if z.1 = 5 then r else if zemp (z.1, z.2 + t.2) then r else (z.1, z.2 + t.2) :: r) else if zemp z then t :: r else z :: t :: r
def stackZ (l : List Kq) : List Kq := l.foldl putZ []
def simpleZ (l : List Kq) : List Kq := (stackZ l).reverse
/-- No empty ones, no two of a kind side by side. -/
def FullZ : List Kq → Prop
 | [] => True
 | [z] => zemp z = false ∧ zkind z
 | z :: t :: r => zemp z = false ∧ zkind z ∧ z.1 ≠ t.1 ∧ FullZ (t :: r)
theorem FullZ.tail {z : Kq} {r : List Kq} (h : FullZ (z :: r)) : FullZ r := by
 cases r with
 | nil => trivial
 | cons t r => exact h.2.2.2
theorem FullZ.head {z : Kq} {r : List Kq} (h : FullZ (z :: r)) : zemp z = false ∧ zkind z := by
 cases r with
 | nil => exact h
 | cons t r => exact ⟨h.1, h.2.1⟩
theorem FullZ.swap {z t : Kq} {r : List Kq} (h : FullZ (t :: r)) (hk : t.1 = z.1) (hz : zemp z = false) (k : zkind z) : FullZ (z :: r) := by
 cases r with
 | nil => exact ⟨hz, k⟩
 | cons u r => exact ⟨hz, k, hk ▸ h.2.2.1, h.2.2.2⟩
theorem putZ_full {s : List Kq} {z : Kq} (h : FullZ s) (k : zkind z) : FullZ (putZ s z) := by
 unfold putZ
 cases s with
 | nil =>
  simp only
  split
  · trivial
  · rename_i hz; exact ⟨by simpa using hz, k⟩
 | cons t r =>
  simp only
  split
  · rename_i hk
    split
    · exact h.tail
    · split
      · exact h.tail
      · rename_i h5 hz
        exact h.swap (z := (z.1, z.2 + t.2)) hk (by simpa using hz) k
  · rename_i hk
    split
    · exact h
    · rename_i hz
      exact ⟨by simpa using hz, k, fun e => hk e.symm, h⟩
theorem stack_full {l : List Kq} {s : List Kq} (h : FullZ s) (k : ∀ z ∈ l, zkind z) : FullZ (l.foldl putZ s) := by
 induction l generalizing s with
 | nil => exact h
 | cons z l ih => exact ih (putZ_full h (k z (by simp))) (fun y hy => k y (by simp [hy]))
/-- Pushing what is simple gives what was pushed. -/
theorem put_push {s : List Kq} {z : Kq} (h : FullZ (z :: s)) : putZ s z = z :: s := by
 unfold putZ
 cases s with
 | nil => simp only; rw [if_neg (by simp [h.1])]
 | cons t r => simp only; rw [if_neg (fun e => h.2.2.1 e.symm), if_neg (by simp [h.1])]
theorem stack_rev : ∀ {s : List Kq}, FullZ s → stackZ s.reverse = s
 | [], _ => rfl
 | z :: s, h => by
  unfold stackZ
  rw [List.reverse_cons, List.foldl_append]
  show putZ (stackZ s.reverse) z = z :: s
  rw [stack_rev h.tail]
  exact put_push h
theorem simple_twice {l : List Kq} (k : ∀ z ∈ l, zkind z) : simpleZ (simpleZ l) = simpleZ l := by
 have h : stackZ (stackZ l).reverse = stackZ l := stack_rev (stack_full (s := []) trivial k)
 unfold simpleZ
 rw [h]
theorem stack_app {l m : List Kq} (k : ∀ z ∈ l, zkind z) : stackZ (l ++ m) = stackZ (simpleZ l ++ m) := by
 have h : stackZ (simpleZ l) = stackZ l := stack_rev (stack_full (s := []) trivial k)
 unfold stackZ at *
 rw [List.foldl_append, List.foldl_append, h]
theorem put_len {s : List Kq} {z : Kq} : (putZ s z).length ≤ s.length + 1 := by
 unfold putZ
 cases s with
 | nil => simp only; split <;> simp
 | cons t r =>
  simp only
  split
  · split
    · simp; omega
    · split
      · simp; omega
      · simp
  · split
    · simp
    · simp
theorem stack_len {l : List Kq} : ∀ {s : List Kq}, (l.foldl putZ s).length ≤ s.length + l.length := by
 induction l with
 | nil => intro s; simp
 | cons z l ih =>
  intro s
  have h1 := ih (s := putZ s z)
  have h2 := put_len (s := s) (z := z)
  simp only [List.foldl_cons, List.length_cons]
  omega
theorem simple_len {l : List Kq} : (simpleZ l).length ≤ l.length := by
 unfold simpleZ stackZ
 have := stack_len (l := l) (s := [])
 simpa using this
/-! The matrix. -/
theorem zmat_add {k : Int} {p q : Rat} (h : k = 1 ∨ k = 2) : (zmat (k, p)).mul (zmat (k, q)) = zmat (k, p + q) := by
 rcases h with rfl | rfl
 · rw [zmat1, zmat1, zmat1]; simp only [Mq.space, Mq.mul, Mq.mk.injEq]; grind
 · rw [zmat2, zmat2, zmat2]; simp only [Mq.lens, Mq.mul, Mq.mk.injEq]; grind
theorem zmat_flip {p q : Rat} : (zmat (5, p)).mul (zmat (5, q)) = Mq.one := by
 rw [zmat5, zmat5]; simp only [Mq.one, Mq.neg, Mq.mul, Mq.mk.injEq]; grind
theorem put_mat {s : List Kq} {z : Kq} (h : FullZ s) (k : zkind z) : chainM ((putZ s z).reverse.map zmat) = (zmat z).mul (chainM (s.reverse.map zmat)) := by
 have one (x : Kq) (r : List Kq) : chainM ((x :: r).reverse.map zmat) = (zmat x).mul (chainM (r.reverse.map zmat)) := by
  rw [List.reverse_cons, List.map_append, chainM_app, List.map_cons, List.map_nil, chainM_one]
 unfold putZ
 cases s with
 | nil =>
  simp only
  split
  · rename_i hz; rw [zmat_emp k hz, Mq.one_mul]
  · exact one z []
 | cons t r =>
  obtain ⟨k1, p⟩ := z
  obtain ⟨k2, q⟩ := t
  simp only
  split
  · rename_i hk
    subst hk
    split
    · rename_i h5
      subst h5
      rw [one, ← Mq.mul_assoc, zmat_flip, Mq.one_mul]
    · rename_i h5
      have hk : k2 = 1 ∨ k2 = 2 := by rcases k with k | k | k <;> first | exact .inl k | exact .inr k | exact absurd k h5
      rw [one, ← Mq.mul_assoc, zmat_add hk]
      split
      · rename_i hz; rw [zmat_emp (z := (k2, p + q)) k hz, Mq.one_mul]
      · exact one _ r
  · split
    · rename_i hz; rw [zmat_emp k hz, Mq.one_mul]
    · exact one _ _
theorem stack_mat {l : List Kq} : ∀ {s : List Kq}, FullZ s → (∀ z ∈ l, zkind z) → chainM ((l.foldl putZ s).reverse.map zmat) = (chainM (l.map zmat)).mul (chainM (s.reverse.map zmat)) := by
 induction l with
 | nil => intro s _ _; rw [List.map_nil]; exact Mq.one_mul.symm
 | cons z l ih =>
  intro s h k
  rw [List.foldl_cons, ih (putZ_full h (k z (by simp))) (fun y hy => k y (by simp [hy])), put_mat h (k z (by simp)), List.map_cons, chainM, Mq.mul_assoc]
theorem simple_mat {l : List Kq} (k : ∀ z ∈ l, zkind z) : chainM ((simpleZ l).map zmat) = chainM (l.map zmat) := by
 have h := stack_mat (l := l) (s := []) trivial k
 unfold simpleZ stackZ
 rw [h]
 exact Mq.mul_one
theorem plain_kind (m : Mq) : zkind (plainQ m) := by
 unfold plainQ zkind
 split
 · exact .inr (.inr rfl)
 · split
   · exact .inl rfl
   · exact .inr (.inl rfl)
theorem plain_space (p : Rat) : zmat (plainQ (Mq.space p)) = Mq.space p := by
 unfold plainQ
 rw [if_neg (show ¬ (Mq.space p).a < 0 from by show ¬ (1 : Rat) < 0; decide +kernel)]
 by_cases h : p = 0
 · rw [if_neg (show ¬ (Mq.space p).b ≠ 0 from fun e => e h), zmat2, h]; rfl
 · rw [if_pos (show (Mq.space p).b ≠ 0 from h)]; exact zmat1 _
theorem plain_lens (p : Rat) : zmat (plainQ (Mq.lens p)) = Mq.lens p := by
 unfold plainQ
 rw [if_neg (show ¬ (Mq.lens p).a < 0 from by show ¬ (1 : Rat) < 0; decide +kernel), if_neg (show ¬ (Mq.lens p).b ≠ 0 from fun e => e rfl), zmat2]
 simp only [Mq.lens, Mq.mk.injEq]; grind
theorem plain_flip : zmat (plainQ (Mq.lens 0).neg) = (Mq.lens 0).neg := by
 unfold plainQ
 rw [if_pos (show (Mq.lens 0).neg.a < 0 from by show -(1 : Rat) < 0; decide +kernel), zmat5]
 simp only [Mq.lens, Mq.one, Mq.neg, Mq.mk.injEq]; grind
/-- The plain element of an element has its matrix. -/
theorem plain_mat (e : Eq) : zmat (plainQ e.mat) = e.mat := by
 unfold Eq.mat
 split
 · exact plain_space _
 · split
   · exact plain_lens _
   · split
     · exact plain_space _
     · split
       · exact plain_lens _
       · exact plain_flip
/-- What is simple may be. -/
theorem plain_may (e : Eq) (h : e.may) : (plainQ e.mat).1 = 1 → 0 ≤ (plainQ e.mat).2 := by
 intro hk
 have key : ∀ m : Mq, (plainQ m).1 = 1 → (plainQ m).2 = m.b := fun m hm => by
  unfold plainQ at *
  split at hm
  · simp at hm
  · rename_i h1
    rw [if_neg h1]
    split at hm
    · rename_i h2; rw [if_pos h2]
    · simp at hm
 rw [key _ hk]
 unfold Eq.mat
 rcases h with ⟨k, h1, _⟩ | ⟨k, _⟩ | ⟨k, h1, h2⟩ | k | ⟨k, _, _⟩
 · rw [if_pos k]; exact h1
 · rw [if_neg (by rw [k]; decide), if_pos k]; exact Rat.le_refl
 · rw [if_neg (by rw [k]; decide), if_neg (by rw [k]; decide), if_pos k]; show 0 ≤ e.p / e.q; rw [Rat.div_def]; exact Rat.mul_nonneg h1 (Rat.le_of_lt (Rat.inv_pos.2 h2))
 · rw [if_neg (by rw [k]; decide), if_neg (by rw [k]; decide), if_neg (by rw [k]; decide), if_pos k]; exact Rat.le_refl
 · rw [if_neg (by rw [k]; decide), if_neg (by rw [k]; decide), if_neg (by rw [k]; decide), if_neg (by rw [k]; decide)]; show (0 : Rat) ≤ -(0 : Rat); decide +kernel
end Go.Proofs.YtjamfkafgfpobaaGreat

namespace Go.Proofs.YtjamfkafgfpobaaGreat
open Go.RowKit Nb
theorem pow_64 (k : Nat) : W64 ^ k = 2 ^ (64 * k) := by rw [show W64 = 2 ^ 64 from rfl, ← Nat.pow_mul]
section
variable {W : World} {n : Bool} {A : Option Addr} {ls : List Nat} {c C k K : Nat} {q : Rat} {f : Fv}
theorem fits_len2 (hn : Norm ls) (h : val W64 ls ≤ 2 ^ K) (hk : K < 64 * k) : ls.length ≤ k := by
 apply fits_len k hn
 rw [← pow_6432, pow_64]
 exact Nat.lt_of_le_of_lt h (Nat.pow_lt_pow_right (by decide) hk)
theorem Bg.cap_by (h : Bg W n A ls c C) (hf : (sv n (val W64 ls)).natAbs ≤ 2 ^ K) (hk : K < 64 * k) : Bg W n A ls c k :=
 ⟨h.sl, h.dig, h.norm, h.sign, h.len, fits_len2 h.norm (by rwa [sv_abs] at hf) hk, h.room⟩
/-- The bound set anew. -/
theorem Fq.cap_by (h : Fq W q f C) (hq : Hq K q) (hk : K < 64 * k) : Fq W q f k := by
 obtain ⟨h0, h1⟩ := h
 obtain ⟨p1, p2⟩ := hq.parts
 exact ⟨h0, h1.num.cap_by (by rw [h1.vn]; exact p2) hk, h1.den.cap_by (by rw [h1.svd, Int.natAbs_natCast]; exact p1) hk, h1.vn, h1.vd⟩
theorem Fq.hq (h : Fq W q f C) : Hq (64 * C) q := by
 have h1 := val_lt h.2.num.dig
 have h2 := val_lt h.2.den.dig
 have e1 : val W64 f.xs = q.num.natAbs := by have := h.2.vn; rw [← this, sv_abs]
 rw [e1, pow_64] at h1
 rw [h.2.vd, pow_64] at h2
 have c1 := h.2.num.cap
 have c2 := h.2.den.cap
 refine ⟨(q.den : Int), q.num, by have := q.den_pos; omega, rat_whole q, ?_, bd_mono (Nat.le_of_lt h1) (by omega)⟩
 rw [Int.natAbs_natCast]
 exact Nat.le_trans (Nat.le_of_lt h2) (Nat.pow_le_pow_right (by decide) (by omega))
end
/-- One element's height, and one more. -/
def hOne : Nat := 131201
theorem put_hq {s : List Kq} {z : Kq} {n : Nat} (h : ∀ t ∈ s, Hq (n * hOne) t.2) (hz : Hq 131200 z.2) : ∀ t ∈ putZ s z, Hq ((n + 1) * hOne) t.2 := by
 have m1 : ∀ t ∈ s, Hq ((n + 1) * hOne) t.2 := fun t ht => (h t ht).mono (Nat.mul_le_mul_right _ (by omega))
 have m2 : Hq ((n + 1) * hOne) z.2 := hz.mono (by unfold hOne; omega)
 intro t ht
 unfold putZ at ht
 cases s with
 | nil =>
  simp only at ht
  split at ht
  · cases ht
  · simp only [List.mem_singleton] at ht; subst ht; exact m2
 | cons u r =>
  simp only at ht
  split at ht
  · split at ht
    · exact m1 t (by simp [ht])
    · split at ht
      · exact m1 t (by simp [ht])
      · rcases List.mem_cons.1 ht with rfl | ht
        · exact (hz.add (h u (by simp))).mono (by unfold hOne; omega)
        · exact m1 t (by simp [ht])
  · split at ht
    · exact m1 t ht
    · rcases List.mem_cons.1 ht with rfl | ht
      · exact m2
      · exact m1 t ht
/-- Spaces of a bench that may be are not negative. -/
def SpaceZ (z : Kq) : Prop := z.1 = 1 → 0 ≤ z.2
end Go.Proofs.YtjamfkafgfpobaaGreat

namespace Go.Proofs.YtjamfkafgfpobaaGreat
open Go.RowKit Nb
/-- A row that grows and shrinks: behind its elements lies what once was there. -/
def Rx (B : Nat) (W : World) (a : Option Addr) (c : Nat) (ys : List Pv) : Prop := (a = none ∧ c = 0 ∧ ys = []) ∨ ∃ (b : Nat) (us : List Pv), a = some ⟨b, 0, none⟩ ∧ c = ys.length + us.length ∧ c ≤ maxLen ∧ Box W b ((ys ++ us).flatMap pcs) ∧ Fz W b ∧ B ≤ b
theorem Rx.on {B : Nat} {W W' : World} {a : Option Addr} {c : Nat} {ys : List Pv} (h : Rx B W a c ys) (hb : Below W.heap.size W W') : Rx B W' a c ys := by
 rcases h with h | ⟨b, k, h1, h2, h3, h4, h5, h6⟩
 · exact .inl h
 · exact .inr ⟨b, k, h1, h2, h3, h4.on hb, h5.on hb, h6⟩
theorem Rx.spa {B : Nat} {W : World} {a : Option Addr} {c : Nat} {xs : List Pv} (h : Rx B W a c xs) : Spa W a xs := fun i x hx => by
 rcases h with ⟨_, _, rfl⟩ | ⟨b, k, h1, h2, h3, h4, h5, h6⟩
 · simp at hx
 · exact ⟨b, h1, h4.lt, at_row h4 hx⟩
theorem Rx.pop {B : Nat} {W : World} {a : Option Addr} {c : Nat} {ys : List Pv} {x : Pv} (h : Rx B W a c (ys ++ [x])) : Rx B W a c ys := by
 rcases h with ⟨_, _, h⟩ | ⟨b, us, h1, h2, h3, h4, h5, h6⟩
 · simp at h
 · refine .inr ⟨b, x :: us, h1, ?_, h3, ?_, h5, h6⟩
   · rw [h2]; simp; omega
   · rw [List.append_assoc] at h4; exact h4
theorem Rx.cap {B : Nat} {W : World} {a : Option Addr} {c : Nat} {ys : List Pv} (h : Rx B W a c ys) : ys.length ≤ c := by
 rcases h with ⟨_, rfl, rfl⟩ | ⟨b, us, h1, h2, _⟩
 · simp
 · omega
/-- The row's block is not this one. -/
def NeA (a : Option Addr) (g : Nat) : Prop := ∀ b, a = some ⟨b, 0, none⟩ → b ≠ g
theorem appX (ty : TypeId) {W w : World} {B : Nat} {a : Option Addr} {c g : Nat} {ys : List Pv} {x : Pv} (BW : Below B w W) (hBW : B ≤ W.heap.size) (K : Box W g (pcs x)) (R : Rx B W a c ys) (hl : ys.length + 1 ≤ 4096) :
  ∃ (a2 : Option Addr) (c2 : Nat) (V : World), (Builtin.append_ #[111, 111] ty #[.slice a ys.length c, .slice (some ⟨g, 0, none⟩) 1 1]).run Tryz.prog W = .ok (.slice a2 (ys ++ [x]).length c2) V ∧ Rx B V a2 c2 (ys ++ [x]) ∧ Below B w V ∧ Kept W V ∧ (∀ p us, (∀ b us2, a = some ⟨b, 0, none⟩ → Box W b us2 → p ≠ b) → Box W p us → Box V p us) ∧ (∀ p, p < W.heap.size → Fz W p → Fz V p) ∧ (∀ p, p < W.heap.size → NeA a p → NeA a2 p) := by
 have hi := infoP3
 cases hq : Tryz.prog.info? 113 with
 | none => rw [hq] at hi; cases hi
 | some i =>
  rw [hq] at hi
  simp only [Option.map_some, Option.some.injEq, Prod.mk.injEq] at hi
  obtain ⟨hz, hs, hby⟩ := hi
  have hsrc : ∀ (j : Nat) (v : Value), (pcs x)[j]? = some v → W.cell? (Addr.add ⟨g, 0, none⟩ j) = some v := fun j v hv => by
   rw [addr_addo, Nat.zero_add]
   exact K.c j v hv
  have hlen : (ys ++ [x]).length = ys.length + 1 := by simp
  rcases R with ⟨rfl, rfl, rfl⟩ | ⟨b, us, rfl, rfl, hcm0, KB, ZB, hB⟩
  · have hr := run_append_nil (P := Tryz.prog) W 111 ty 113 i (pv p0v) Tryz.underlying111 hq hz ⟨g, 0, none⟩ 1 1 (pcs x) (by rw [hs]; rfl) hsrc (by omega) (by omega) (by rw [hby]; omega)
    have hge := grownCap_ge W 1 0 113
    have hcm := grownCap_le_maxLen W 1 0 113 (by simp only [maxLen]; omega)
    obtain ⟨V, hV, hb, K2, Z2⟩ := rowP_newZ W [x] (grownCap W 1 0 113 - 1)
    refine ⟨some ⟨W.heap.size, 0, none⟩, grownCap W 1 0 113, V, ?_, .inr ⟨W.heap.size, List.replicate (grownCap W 1 0 113 - 1) p0v, rfl, by simp; omega, hcm, K2, Z2, hBW⟩, BW.trans (hb.mono hBW), Kept.of hb, fun p us _ hp => hp.on hb, fun p _ hp => hp.on hb, fun p hp _ b hb => by cases hb; omega⟩
    rw [show ([] : List Pv).length = 0 from rfl, hr, hV]
    simp
  · have hfl : (ys.flatMap pcs).length = ys.length * 5 := flat_len pcs_len ys
    cases us with
    | cons u us =>
      have hus : ((ys ++ u :: us).flatMap pcs).length = (ys.length + (u :: us).length) * 5 := by rw [flat_len pcs_len, List.length_append]
      have hr := run_append_room_cells (P := Tryz.prog) W 111 ty 113 i Tryz.underlying111 hq b 0 ys.length (ys.length + (u :: us).length) ⟨g, 0, none⟩ 1 1 (pcs x) (by rw [hs]; rfl) hsrc (by have := flatP_one [x]; simpa using this) (by simp)
       (fun j hj => by rw [hs]; rw [KB.c (0 + ys.length * 5 + j) _ (List.getElem?_eq_getElem (by rw [hus]; rw [pcs_len] at hj; simp; omega))]; rfl) (fun j _ => ZB.2 _)
      rw [hs, Nat.zero_add] at hr
      obtain ⟨V, hV⟩ : ∃ V, V = W.setCells b (ys.length * 5) (pcs x) := ⟨_, rfl⟩
      have hu : (ys ++ [x] ++ us).flatMap pcs = ((ys ++ u :: us).flatMap pcs).take (ys.length * 5) ++ (pcs x ++ ((ys ++ u :: us).flatMap pcs).drop (ys.length * 5 + (pcs x).length)) := by
       have hd : ((ys ++ u :: us).flatMap pcs).drop (ys.length * 5 + (pcs x).length) = us.flatMap pcs := by
        rw [← List.drop_drop, List.flatMap_append, List.drop_left' hfl, List.flatMap_cons, List.drop_left' (by rw [pcs_len, pcs_len])]
       rw [hd, List.flatMap_append, List.flatMap_append, List.flatMap_append, List.take_left' hfl, List.append_assoc]
       simp
      have hl9 : ys.length * 5 + (pcs x).length ≤ ((ys ++ u :: us).flatMap pcs).length := by rw [hus, pcs_len]; simp; omega
      have K2 := KB.part hV hu hl9
      have kp := Kept.overE hV KB (flat_soft pcs_soft _) hl9
      refine ⟨some ⟨b, 0, none⟩, ys.length + (u :: us).length, V, by rw [hr, hV, hlen], .inr ⟨b, us, rfl, by rw [hlen]; simp; omega, hcm0, K2, ZB.putE hV, hB⟩, Below.putE BW hV hB, kp, fun p us hp K => K.awayE hV (hp b _ rfl KB), fun p _ hp => hp.putE hV, fun p _ h => h⟩
    | nil =>
      have hr := run_append_grow (P := Tryz.prog) W 111 ty 113 i (pv p0v) Tryz.underlying111 hq hz ⟨b, 0, none⟩ ys.length (ys.length + ([] : List Pv).length) (ys.flatMap pcs) (by rw [hfl, hs]) (fun j v hv => by
        rw [addr_addo, Nat.zero_add]
        exact KB.c j v (by rw [List.flatMap_append, List.getElem?_append_left (List.getElem?_eq_some_iff.1 hv).1]; exact hv))
       ⟨g, 0, none⟩ 1 1 (pcs x) (by rw [hs]; rfl) hsrc (by simp only [List.length_nil]; omega) (by omega) (growslice_fits (by simp only [List.length_nil]; omega) (by rw [hby]; omega))
      have hge := grownCap_ge W (ys.length + 1) (ys.length + ([] : List Pv).length) 113
      have hcm := grownCap_le_maxLen W (ys.length + 1) (ys.length + ([] : List Pv).length) 113 (by simp only [maxLen]; omega)
      obtain ⟨V, hV, hbV, K2, Z2⟩ := rowP_newZ W (ys ++ [x]) (grownCap W (ys.length + 1) (ys.length + ([] : List Pv).length) 113 - (ys.length + 1))
      refine ⟨some ⟨W.heap.size, 0, none⟩, grownCap W (ys.length + 1) (ys.length + ([] : List Pv).length) 113, V, ?_, .inr ⟨W.heap.size, List.replicate (grownCap W (ys.length + 1) (ys.length + ([] : List Pv).length) 113 - (ys.length + 1)) p0v, rfl, by rw [hlen, List.length_replicate]; omega, hcm, K2, Z2, hBW⟩, BW.trans (hbV.mono hBW), Kept.of hbV, fun p us _ hp => hp.on hbV, fun p _ hp => hp.on hbV, fun p hp _ b hb => by cases hb; omega⟩
      rw [hr, hV, hlen, List.flatMap_append]
      simp
end Go.Proofs.YtjamfkafgfpobaaGreat

namespace Go.Proofs.YtjamfkafgfpobaaGreat
open Go.RowKit Nb
theorem Fz.f5 {W : World} {p : Nat} (K : Fz W p) : W.frozen? ⟨p, 0, none⟩ = false ∧ W.frozen? ⟨p, 1, none⟩ = false ∧ W.frozen? ⟨p, 2, none⟩ = false ∧ W.frozen? ⟨p, 3, none⟩ = false ∧ W.frozen? ⟨p, 4, none⟩ = false := ⟨K.2 0, K.2 1, K.2 2, K.2 3, K.2 4⟩
set_option maxHeartbeats 16000000 in
set_option maxRecDepth 100000 in
theorem b_plainly {q : Mq} {m : Mv} {C : Nat} {w : World} (G : Gm w q m C) (hC2 : 2 ≤ C) (hC : C ≤ 1759218604390) :
    Calls Tryz.prog 68 #[mv m] w (fun e w' => ∃ x : Pv, e = .returned (pv x) ∧ (plainQ q).1 = x.k ∧ Fq w' (plainQ q).2 x.P C ∧ Below w.heap.size w w') := by
 have HC2 := Lib.hid hC2
 clear hC2
 have BW : Below w.heap.size w w := Below.refl _ _
 obtain ⟨V2, e3, hb4, K5, Z6, z1⟩ := alloc_new w [.bool m.A.n, .slice m.A.A m.A.xs.length m.A.c, .bool m.A.m, .slice m.A.B m.A.ds.length m.A.d, .bool m.B.n, .slice m.B.A m.B.xs.length m.B.c, .bool m.B.m, .slice m.B.B m.B.ds.length m.B.d, .bool m.C.n, .slice m.C.A m.C.xs.length m.C.c, .bool m.C.m, .slice m.C.B m.C.ds.length m.C.d, .bool m.D.n, .slice m.D.A m.D.xs.length m.D.c, .bool m.D.m, .slice m.D.B m.D.ds.length m.D.d] 76
 replace K5 : Box V2 (w.heap.size) (mcs m) := K5
 have g7 : w.heap.size ≤ w.heap.size := BW.size
 replace G := G.kp (Kept.of hb4)
 replace BW := BW.trans (hb4.mono BW.size)
 clear hb4
 obtain ⟨V8, e9, hb10, K11, Z12, -⟩ := alloc_new V2 [.int .u8 0, .bool false, .slice none 0 0, .bool false, .slice none 0 0] 113
 rw [z1] at K11 Z12
 have n13 : w.heap.size ≠ w.heap.size + 1 := Nat.ne_of_lt (z1 ▸ K5.lt)
 have g14 : w.heap.size ≤ w.heap.size + 1 := z1 ▸ BW.size
 replace K5 := K5.on hb10
 replace Z6 := Z6.on hb10
 replace G := G.kp (Kept.of hb10)
 replace BW := BW.trans (hb10.mono BW.size)
 clear hb10
 clear z1
 go_enter Tryz.func68, Tryz.ntmps68
 go_wp2_with fail
 rw [← e3, ← e9]
 clear e3 e9
 refine (b_sign G.gA (by omega)).mono ?_
 rintro _ w15 ⟨rfl, hb⟩
 replace K5 := K5.on hb
 replace K11 := K11.on hb
 replace Z6 := Z6.on hb
 replace Z12 := Z12.on hb
 replace G := G.kp (Kept.of hb)
 replace BW := BW.trans (hb.mono BW.size)
 clear hb
 generalize hs : sgnQ q.a = s at *
 have HS := Lib.hid hs
 clear hs
 by_cases ha : q.a < 0
 · have hs1 : s < 0 := by rw [← HS.out]; have h1 : ¬ 0 ≤ sgnQ q.a := (fun h => by have h2 := sgn_ge.1 h; grind); omega
   have hpl : plainQ q = (5, 0) := by unfold plainQ; rw [if_pos ha]
   have HP := Lib.hid hpl
   clear hpl ha
   go_wp2_with fail
   refine (b_of (n := 0) (by decide) (by decide)).mono ?_
   rintro _ w16 ⟨z, rfl, LZ, hb⟩
   replace K5 := K5.on hb
   replace K11 := K11.on hb
   replace Z6 := Z6.on hb
   replace Z12 := Z12.on hb
   replace G := G.kp (Kept.of hb)
   replace BW := BW.trans (hb.mono BW.size)
   clear hb
   obtain ⟨c17, c18, c19, c20, c21⟩ := K11.c5
   obtain ⟨c22, c23, c24, c25, c26⟩ := Z12.f5
   obtain ⟨V27, hk29⟩ : ∃ V27, V27 = w16.setCells (w.heap.size + 1) 0 [.int .u8 5, .bool z.n, .slice z.A z.xs.length z.c, .bool z.m, .slice z.B z.ds.length z.d] := ⟨_, rfl⟩
   have e28 := hk29
   simp only [World.setCells, Nat.zero_add, Nat.reduceAdd] at e28
   have hk30 := Kept.overE hk29 K11 rfl (Nat.le_of_ble_eq_true rfl)
   replace K5 := K5.awayE hk29 n13
   replace K11 := K11.overE hk29 rfl
   replace Z6 := Z6.putE hk29
   replace Z12 := Z12.putE hk29
   replace G := G.kp hk30
   replace LZ := LZ.kp hk30
   replace BW := Below.putE BW hk29 g14
   clear hk29 hk30
   go_wp2_with fail
   clear c17 c18 c19 c20 c21 c22 c23 c24 c25 c26
   rw [← e28]
   clear e28
   obtain ⟨c31, c32, c33, c34, c35⟩ := K11.c5
   exact bodyPost_ret (v := .agg #[.int .u8 5, .bool z.n, .slice z.A z.xs.length z.c, .bool z.m, .slice z.B z.ds.length z.d]) (by simp [results, Tryz.results68, go_sem, c31, c32, c33, c34, c35]) rfl ⟨⟨5, z⟩, rfl, (by rw [HP.out]), (by rw [HP.out]; exact LZ.mono HC2.out), BW⟩
 · have hs1 : ¬ s < 0 := by rw [← HS.out]; have h1 : 0 ≤ sgnQ q.a := sgn_ge.2 (by grind); omega
   have HA := Lib.hid ha
   clear ha
   obtain ⟨c16, c17, c18, c19, c20, c21, c22, c23, c24, c25, c26, c27, c28, c29, c30, c31⟩ := K5.c16
   go_wp2_with fail
   clear c16 c17 c18 c19 c20 c21 c22 c23 c24 c25 c26 c27 c28 c29 c30 c31
   refine (b_sign G.gB (by omega)).mono ?_
   rintro _ w32 ⟨rfl, hb⟩
   replace K5 := K5.on hb
   replace K11 := K11.on hb
   replace Z6 := Z6.on hb
   replace Z12 := Z12.on hb
   replace G := G.kp (Kept.of hb)
   replace BW := BW.trans (hb.mono BW.size)
   clear hb
   generalize ht : sgnQ q.b = t at *
   have HT := Lib.hid ht
   clear ht
   by_cases hb0 : q.b = 0
   · obtain rfl : t = 0 := by rw [← HT.out]; exact sgn_zero.2 hb0
     have hpl : plainQ q = (2, -q.c) := by unfold plainQ; rw [if_neg HA.out, if_neg (fun e => e hb0)]
     have HP := Lib.hid hpl
     clear hpl hb0
     obtain ⟨c33, c34, c35, c36, c37, c38, c39, c40, c41, c42, c43, c44, c45, c46, c47, c48⟩ := K5.c16
     go_wp2_with fail
     clear c33 c34 c35 c36 c37 c38 c39 c40 c41 c42 c43 c44 c45 c46 c47 c48
     refine (q_neg G.gC hC).mono ?_
     rintro _ w49 ⟨g, rfl, N, hb⟩
     replace K5 := K5.on hb
     replace K11 := K11.on hb
     replace Z6 := Z6.on hb
     replace Z12 := Z12.on hb
     replace G := G.kp (Kept.of hb)
     replace BW := BW.trans (hb.mono BW.size)
     clear hb
     obtain ⟨c50, c51, c52, c53, c54⟩ := K11.c5
     obtain ⟨c55, c56, c57, c58, c59⟩ := Z12.f5
     obtain ⟨V60, hk62⟩ : ∃ V60, V60 = w49.setCells (w.heap.size + 1) 0 [.int .u8 2, .bool g.n, .slice g.A g.xs.length g.c, .bool g.m, .slice g.B g.ds.length g.d] := ⟨_, rfl⟩
     have e61 := hk62
     simp only [World.setCells, Nat.zero_add, Nat.reduceAdd] at e61
     have hk63 := Kept.overE hk62 K11 rfl (Nat.le_of_ble_eq_true rfl)
     replace K5 := K5.awayE hk62 n13
     replace K11 := K11.overE hk62 rfl
     replace Z6 := Z6.putE hk62
     replace Z12 := Z12.putE hk62
     replace G := G.kp hk63
     replace N := N.kp hk63
     replace BW := Below.putE BW hk62 g14
     clear hk62 hk63
     go_wp2_with fail
     clear c50 c51 c52 c53 c54 c55 c56 c57 c58 c59
     rw [← e61]
     clear e61
     obtain ⟨c64, c65, c66, c67, c68⟩ := K11.c5
     exact bodyPost_ret (v := .agg #[.int .u8 2, .bool g.n, .slice g.A g.xs.length g.c, .bool g.m, .slice g.B g.ds.length g.d]) (by simp [results, Tryz.results68, go_sem, c64, c65, c66, c67, c68]) rfl ⟨⟨2, g⟩, rfl, (by rw [HP.out]), (by rw [HP.out]; exact N), BW⟩
   · have ht0 : t ≠ 0 := by rw [← HT.out]; exact fun e => hb0 (sgn_zero.1 e)
     have htb : (t == 0) = false := beq_eq_false_iff_ne.2 ht0
     have hpl : plainQ q = (1, q.b) := by unfold plainQ; rw [if_neg HA.out, if_pos hb0]
     have HP := Lib.hid hpl
     clear hpl hb0
     obtain ⟨c33, c34, c35, c36, c37, c38, c39, c40, c41, c42, c43, c44, c45, c46, c47, c48⟩ := K5.c16
     obtain ⟨c49, c50, c51, c52, c53⟩ := K11.c5
     obtain ⟨c54, c55, c56, c57, c58⟩ := Z12.f5
     obtain ⟨V59, hk61⟩ : ∃ V59, V59 = w32.setCells (w.heap.size + 1) 0 [.int .u8 1, .bool m.B.n, .slice m.B.A m.B.xs.length m.B.c, .bool m.B.m, .slice m.B.B m.B.ds.length m.B.d] := ⟨_, rfl⟩
     have e60 := hk61
     simp only [World.setCells, Nat.zero_add, Nat.reduceAdd] at e60
     have hk62 := Kept.overE hk61 K11 rfl (Nat.le_of_ble_eq_true rfl)
     replace K5 := K5.awayE hk61 n13
     replace K11 := K11.overE hk61 rfl
     replace Z6 := Z6.putE hk61
     replace Z12 := Z12.putE hk61
     replace G := G.kp hk62
     replace BW := Below.putE BW hk61 g14
     clear hk61 hk62
     go_wp2_with fail
     clear c33 c34 c35 c36 c37 c38 c39 c40 c41 c42 c43 c44 c45 c46 c47 c48 c49 c50 c51 c52 c53 c54 c55 c56 c57 c58
     rw [← e60]
     clear e60
     obtain ⟨c63, c64, c65, c66, c67⟩ := K11.c5
     exact bodyPost_ret (v := .agg #[.int .u8 1, .bool m.B.n, .slice m.B.A m.B.xs.length m.B.c, .bool m.B.m, .slice m.B.B m.B.ds.length m.B.d]) (by simp [results, Tryz.results68, go_sem, c63, c64, c65, c66, c67]) rfl ⟨⟨1, m.B⟩, rfl, (by rw [HP.out]), (by rw [HP.out]; exact G.gB), BW⟩
end Go.Proofs.YtjamfkafgfpobaaGreat

namespace Go.Proofs.YtjamfkafgfpobaaGreat
open Go.RowKit Nb
/-- What lies below B is as it was. -/
def Beb (B : Nat) (w W : World) : Prop := Below B w W ∧ B ≤ W.heap.size
def Leb (B g : Nat) : Prop := B ≤ g
section
variable {W V w : World} {p o g B n c k : Nat} {a : Option Addr} {us vs : List Value} {ys : List Pv} {x : Pv}
theorem Beb.size (h : Beb B w W) : B ≤ W.heap.size := h.2
theorem Beb.trans (h : Beb B w W) (k : Below B W V) : Beb B w V := ⟨h.1.trans k, Nat.le_trans h.2 k.size⟩
theorem Beb.putE (h : Beb B w W) (e : V = W.setCells g o vs) (hw : Leb B g) : Beb B w V := ⟨Below.putE h.1 e hw, by rw [e, size_setCells]; exact h.2⟩
theorem Rx.awayE (h : Rx B W a c ys) (e : V = W.setCells g o vs) (hn : NeA a g) : Rx B V a c ys := by
 rcases h with h | ⟨b, us, h1, h2, h3, h4, h5, h6⟩
 · exact .inl h
 · exact .inr ⟨b, us, h1, h2, h3, h4.awayE e (hn b h1), h5.putE e, h6⟩
theorem Rx.ne (h : Rx B W a c ys) : NeA a W.heap.size := fun b hb => by
 rcases h with ⟨rfl, _, _⟩ | ⟨b2, us, h1, h2, h3, h4, h5, h6⟩
 · cases hb
 · rw [h1] at hb; cases hb; exact Nat.ne_of_lt h4.lt
theorem sizeP_5 (W : World) : (sizeOf (Tryz.prog.elem 111)).run Tryz.prog W = .ok 5 W := by
 have hi := infoP
 have he : Tryz.prog.info? (Tryz.prog.elem 111) = Tryz.prog.info? 113 := by kernel_rfl
 unfold sizeOf typeInfo
 rw [← he] at hi
 cases hq : Tryz.prog.info? (Tryz.prog.elem 111) with
 | none => rw [hq] at hi; cases hi
 | some i =>
  rw [hq] at hi
  have hs : i.size = 5 := by simpa using hi
  simp [Sem.run_bind, hq, hs]
theorem undP : Tryz.prog.underlying 111 = some (.slice (Tryz.prog.elem 111)) := by kernel_rfl
theorem add_noneP (a : Option Addr) : a.map (fun x : Addr => x.add 0) = a := by
 cases a with
 | none => rfl
 | some x => obtain ⟨g, o, s⟩ := x; rfl
theorem wpList_slHP {ops : Array Oper} {rest : List Oper} {op : Oper} {ac : Act} {Q : Exit → Act → World → Prop} {x y : Operand} (hgd : op.guard = none) (ho : op.op = .slice 111 x none (some y) none) (hx : ac.eval x = .slice a n c) (hy : ac.eval y = .int .i64 (k : Int)) (hh : k ≤ c)
  (h : wpList Tryz.prog ops Q rest (ac.put op.dst (.slice a k c)) W) : wpList Tryz.prog ops Q (op :: rest) ac W :=
 wpList_plain hgd fun _ hK => by
  have h1 := run_slice_h (P := Tryz.prog) W 111 a n c undP .i64 (k : Int) (by omega) (by omega)
  have h2 := run_sliceAt_slice (P := Tryz.prog) W 111 (.slice a n c) none (some (.int .i64 (k : Int))) none undP
  unfold Oper.wp execOp
  simp only [ho, hx, hy, Option.map_some, Option.map_none, Sem.run_bind, Sem.run_pure]
  rw [h2, h1, sizeP_5]
  have h3 : sliced a 0 (k : Int).toNat c 5 = .slice a k c := by
   unfold sliced
   simp only [Nat.zero_mul, add_noneP, ite_self, Int.toNat_natCast, Nat.sub_zero]
  simp only [Result.andThen_ok, h3]
  exact hK _ _ h
theorem ixP {ev : Operand → Value} {oi : Oper} {x y : Operand} {i : Nat} (ho : oi.op = .indexAddr 111 x y) (hx : ev x = .slice (some ⟨g, 0, none⟩) n c) (hy : ev y = .int .i64 (i : Int)) (hi : i < n) : (execOp ev oi).run Tryz.prog W = .ok (.value (.pointer (some ⟨g, i * 5, none⟩))) W := by
 have h1 : (i : Int) < (n : Int) := by omega
 have h0 : (0 : Int) ≤ (i : Int) := by omega
 unfold execOp
 simp only [ho, hx, hy, Sem.run_bind, Sem.run_pure]
 go_simp
theorem ldKC {ev : Operand → Value} {oi : Oper} {x : Operand} {u : Value} (ho : oi.op = .load 56 x) (hx : ev x = .pointer (some ⟨p, o, none⟩)) (K : AtC W p o [u]) : (execOp ev oi).run Tryz.prog W = .ok (.value u) W := by
 have hc : W.cell? ⟨p, o, none⟩ = some u := K.2 0 u rfl
 unfold execOp
 simp only [ho, hx, Instr.loadAt, Instr.sureAddr, Sem.run_bind, Sem.run_pure]
 go_simp
theorem infoF4 : (Tryz.prog.info? 74).map (·.size) = some 4 := by kernel_rfl
theorem ldQC {ev : Operand → Value} {oi : Oper} {x : Operand} (ho : oi.op = .load 74 x) (hx : ev x = .pointer (some ⟨p, o, none⟩)) (K : AtC W p o us) (hl : us.length = 4) : (execOp ev oi).run Tryz.prog W = .ok (.value (.agg us.toArray)) W := by
 have hr := run_load_at (P := Tryz.prog) K.2 74 _ Tryz.underlying74 rfl (by rw [infoF4, hl])
 unfold execOp
 simp only [ho, hx, Instr.loadAt, Instr.sureAddr, Sem.run_bind, Sem.run_pure, Result.andThen_ok, hr]
end
theorem Gps.pop {W : World} {t : Kq} {r : List Kq} {ys : List Pv} {C : Nat} (h : Gps W (t :: r).reverse ys C) : ∃ (yr : List Pv) (y : Pv), ys = yr ++ [y] ∧ Gps W r.reverse yr C ∧ t.1 = y.k ∧ Fq W t.2 y.P C ∧ yr.length = r.length := by
 have hl := h.1
 rw [List.length_reverse, List.length_cons] at hl
 obtain ⟨yr, y, rfl⟩ : ∃ yr y, ys = yr ++ [y] := ⟨ys.dropLast, ys.getLast (by intro e; rw [e] at hl; simp at hl), (List.dropLast_concat_getLast _).symm⟩
 have hl2 : yr.length = r.length := by simp at hl; omega
 refine ⟨yr, y, rfl, ⟨by simp [hl2], fun i z x h1 h2 => ?_⟩, ?_⟩
 · have hi : i < yr.length := (List.getElem?_eq_some_iff.1 h2).1
   refine h.2 i z x ?_ ?_
   · rw [List.reverse_cons, List.getElem?_append_left (by simp; omega)]; exact h1
   · rw [List.getElem?_append_left hi]; exact h2
 · have h9 := h.2 yr.length t y (by rw [List.reverse_cons, List.getElem?_append_right (by simp [hl2]), List.length_reverse, hl2, Nat.sub_self]; rfl) (by rw [List.getElem?_append_right (Nat.le_refl _), Nat.sub_self]; rfl)
   exact ⟨h9.1, h9.2, hl2⟩
end Go.Proofs.YtjamfkafgfpobaaGreat

namespace Go.Proofs.YtjamfkafgfpobaaGreat
open Go.RowKit Nb
set_option maxHeartbeats 16000000 in
set_option maxRecDepth 100000 in
theorem put_nil {B g c C : Nat} {a : Option Addr} {x : Pv} {z : Kq} {ys : List Pv} {w : World} (Kg : Box w g [.slice a ys.length c]) (Z : Fz w g) (hB : B ≤ g) (R : Rx B w a c ys) (NG : NeA a g) (GS : Gps w (([] : List Kq)).reverse ys C) (hzk : z.1 = x.k) (X : Fq w z.2 x.P C) (hC : C ≤ 1759218604390) (hl : ys.length + 1 ≤ 4096) :
    Calls Tryz.prog 65 #[pv x, .pointer (some ⟨g, 0, none⟩)] w (fun e w' => ∃ (v : Value) (a2 : Option Addr) (c2 : Nat) (ys2 : List Pv), e = .returned v ∧ Box w' g [.slice a2 ys2.length c2] ∧ Fz w' g ∧ Rx B w' a2 c2 ys2 ∧ NeA a2 g ∧ Gps w' (putZ ([]) z).reverse ys2 C ∧ Kept w w' ∧ Below B w w') := by
 have HZK := Lib.hid hzk
 have HLN := Lib.hid hl
 clear hzk hl
 have HB := hB
 have hBw : B ≤ w.heap.size := Nat.le_trans hB (Nat.le_of_lt Kg.lt)
 have NX := R.ne
 have KP : Kept w w := Kept.of (Below.refl _ _)
 obtain rfl : ys = [] := List.eq_nil_of_length_eq_zero (by rw [← GS.1]; rfl)
 replace Kg : Box w g [.slice a 0 c] := Kg
 have BW : Below w.heap.size w w := Below.refl _ _
 obtain ⟨V1, e2, hb3, K4, Z5, -⟩ := alloc_new w [.int .u8 x.k, .bool x.P.n, .slice x.P.A x.P.xs.length x.P.c, .bool x.P.m, .slice x.P.B x.P.ds.length x.P.d] 113
 have n6 : g ≠ w.heap.size := Nat.ne_of_lt (Kg.lt)
 have g7 : w.heap.size ≤ w.heap.size := BW.size
 replace Kg := Kg.on hb3
 replace Z := Z.on hb3
 replace GS := GS.kp (Kept.of hb3)
 replace X := X.kp (Kept.of hb3)
 replace KP := KP.kp (Kept.of hb3)
 replace BW := BW.trans (hb3.mono BW.size)
 clear hb3
 have c8 := Kg.c1
 rw [e2] at c8
 go_enter Tryz.func65, Tryz.ntmps65
 go_wp2_with fail
 clear c8
 rw [← e2]
 clear e2
 replace R := R.on BW
 have BB : Beb B w V1 := ⟨BW.mono hBw, Nat.le_trans hBw BW.size⟩
 clear BW
 refine wp_region_noPanic ?_
 have hb : Below V1.heap.size V1 V1.drew := (Below.refl _ _).drew
 replace Kg := Kg.on hb
 replace K4 := K4.on hb
 replace R := R.on hb
 replace Z := Z.on hb
 replace Z5 := Z5.on hb
 replace GS := GS.kp (Kept.of hb)
 replace X := X.kp (Kept.of hb)
 replace KP := KP.kp (Kept.of hb)
 replace BB := BB.trans (hb.mono BB.size)
 clear hb
 refine wp_region_held_drew (S := (fun wx => True)) (by kernel_rfl) (by exact trivial) (fun hHeld => ?_)
 generalize V1.drew = Vd9 at *
 refine pT 0 ?_
 (try simp only [p0, p1, p2, p3])
 refine pT 1 ?_
 (try simp only [p0, p1, p2, p3])
 refine pT 2 ?_
 (try simp only [p0, p1, p2, p3])
 refine pS 3 ?_
 (try simp only [p0, p1, p2, p3])
 refine pS 4 ?_
 (try simp only [p0, p1, p2, p3])
 refine pS 5 ?_
 (try simp only [p0, p1, p2, p3])
 refine pS 6 ?_
 (try simp only [p0, p1, p2, p3])
 refine pS 7 ?_
 (try simp only [p0, p1, p2, p3])
 refine pS 8 ?_
 (try simp only [p0, p1, p2, p3])
 refine pS 9 ?_
 (try simp only [p0, p1, p2, p3])
 refine pS 10 ?_
 (try simp only [p0, p1, p2, p3])
 refine pT 11 ?_
 (try simp only [p0, p1, p2, p3])
 refine wpAnyH_done (by kernel_rfl) (NoPanic.normal ?_) _
 go_upto_region 6 with fail
 obtain ⟨c10, c11, c12, c13, c14⟩ := K4.c5
 go_wp2_with fail
 clear c10 c11 c12 c13 c14
 refine (b_empty (z := z) (x := x) ⟨HZK.out, X⟩ (Nat.le_trans hC (by decide))).mono ?_
 rintro _ w15 ⟨r0, rfl, hr, hb⟩
 replace Kg := Kg.on hb
 replace K4 := K4.on hb
 replace R := R.on hb
 replace Z := Z.on hb
 replace Z5 := Z5.on hb
 replace GS := GS.kp (Kept.of hb)
 replace X := X.kp (Kept.of hb)
 replace KP := KP.kp (Kept.of hb)
 replace BB := BB.trans (hb.mono BB.size)
 clear hb
 cases r0
 · have hp : putZ ([]) z = z :: [] := by rw [putZ]; rw [if_neg (by rw [← hr]; simp)]
   have HP := Lib.hid hp
   clear hp hr
   go_upto_region 7 with fail
   have c16 := Kg.c1
   obtain ⟨c17, c18, c19, c20, c21⟩ := K4.c5
   obtain ⟨V8, e8, hb8, K8, -, -⟩ := alloc_new w15 [.int .u8 x.k, .bool x.P.n, .slice x.P.A x.P.xs.length x.P.c, .bool x.P.m, .slice x.P.B x.P.ds.length x.P.d] 113
   replace Kg := Kg.on hb8
   replace K4 := K4.on hb8
   replace R := R.on hb8
   replace Z := Z.on hb8
   replace Z5 := Z5.on hb8
   replace GS := GS.kp (Kept.of hb8)
   replace X := X.kp (Kept.of hb8)
   replace KP := KP.kp (Kept.of hb8)
   replace BB := BB.trans (hb8.mono BB.size)
   clear hb8
   obtain ⟨a9, c9, V9, hr9, R9, BW9, kp9, bx9, fz9, ne9⟩ := appX 111 (x := x) BB.1 BB.2 K8 (R) (by have := HLN.out; omega)
   rw [e8] at hr9
   have HR9 := Lib.hid hr9
   clear hr9
   have K9 := bx9 g _ (fun b us2 e _ => fun h => NG b e h.symm) Kg
   have Z9 := fz9 g Kg.lt Z
   have N9 := ne9 g Kg.lt NG
   have cg := K9.c1
   have fg := Z9.f1
   go_wp2_with (first | (refine wpList_appQ (by rfl) (by rfl) (by rfl) (by rfl) HR9.out ?_))
   (try go_wp2)
   obtain ⟨V10, hk10⟩ : ∃ V10, V10 = V9.setCells g 0 [.slice a9 1 c9] := ⟨_, rfl⟩
   have e10 := hk10
   simp only [World.setCells] at e10
   rw [← e10]
   exact bodyPost_end (v := .tuple #[]) (by simp [results, Tryz.results65, go_sem]) rfl ⟨_, a9, c9, [] ++ [x], rfl, (by rw [show ([] ++ [x] : List Pv).length = 1 from rfl]; exact K9.overE hk10 rfl), Z9.putE hk10, R9.awayE hk10 N9, N9, by rw [HP.out, List.reverse_cons]; exact ((GS.kp kp9).snoc (z := z) (x := x) ⟨HZK.out, X.kp kp9⟩).kp (Kept.overE hk10 K9 rfl (Nat.le_of_ble_eq_true rfl)), (KP.kp kp9).kp (Kept.overE hk10 K9 rfl (Nat.le_of_ble_eq_true rfl)), Below.putE BW9 hk10 HB⟩
 · have hp : putZ ([]) z = [] := by rw [putZ]; rw [if_pos hr.symm]
   have HP := Lib.hid hp
   clear hp hr
   go_wp2_with fail
   exact bodyPost_end (v := .tuple #[]) (by simp [results, Tryz.results65, go_sem]) rfl ⟨_, a, c, [], rfl, Kg, Z, R, NG, by rw [HP.out]; exact GS, KP, BB.1⟩
end Go.Proofs.YtjamfkafgfpobaaGreat

namespace Go.Proofs.YtjamfkafgfpobaaGreat
open Go.RowKit Nb
theorem putZ_flip {t z : Kq} {r : List Kq} (hk : t.1 = z.1) (h5 : z.1 = 5) : putZ (t :: r) z = r := by
 show (if t.1 = z.1 then _ else _) = r
 rw [if_pos hk, if_pos h5]
theorem putZ_add {t z : Kq} {r : List Kq} (hk : t.1 = z.1) (h5 : ¬ z.1 = 5) : putZ (t :: r) z = (if zemp (z.1, z.2 + t.2) then r else (z.1, z.2 + t.2) :: r) := by
 show (if t.1 = z.1 then _ else _) = _
 rw [if_pos hk, if_neg h5]
theorem putZ_ne {t z : Kq} {r : List Kq} (hk : ¬ t.1 = z.1) : putZ (t :: r) z = (if zemp z then t :: r else z :: t :: r) := by
 show (if t.1 = z.1 then _ else _) = _
 rw [if_neg hk]
theorem atP {W : World} {b o : Nat} {y : Pv} (h : AtC W b o (pcs y)) : AtC W b o [.int .u8 y.k] ∧ AtC W b (o + 1) [.bool y.P.n, .slice y.P.A y.P.xs.length y.P.c, .bool y.P.m, .slice y.P.B y.P.ds.length y.P.d] :=
 ⟨⟨h.1, fun j v hv => by
   rcases j with _ | j
   · exact h.2 0 v hv
   · simp at hv⟩, ⟨h.1, fun j v hv => by
   have := h.2 (j + 1) v hv
   rwa [show o + 1 + j = o + (j + 1) by omega]⟩⟩
theorem AtC.awayE {W V : World} {p o g o2 : Nat} {us vs : List Value} (h : AtC W p o us) (e : V = W.setCells g o2 vs) (hn : p ≠ g) : AtC V p o us :=
 ⟨by rw [e, size_setCells]; exact h.1, fun j v hv => by rw [e, World.cell?_setCells_out _ _ _ _ _ (fun h => absurd h hn)]; exact h.2 j v hv⟩
set_option maxHeartbeats 16000000 in
set_option maxRecDepth 100000 in
theorem put_cons {B g c C : Nat} {a : Option Addr} {x : Pv} {z : Kq} {t : Kq} {r : List Kq} {ys : List Pv} {K0 : Nat} {w : World} (Kg : Box w g [.slice a ys.length c]) (Z : Fz w g) (hB : B ≤ g) (R : Rx B w a c ys) (NG : NeA a g) (GS : Gps w (t :: r).reverse ys C) (hzk : z.1 = x.k) (X : Fq w z.2 x.P C) (hC : C ≤ 1759218604390) (hl : ys.length + 1 ≤ 4096) (hq : t.1 = z.1 → Hq K0 (z.2 + t.2)) (hKC : K0 < 64 * C) :
    Calls Tryz.prog 65 #[pv x, .pointer (some ⟨g, 0, none⟩)] w (fun e w' => ∃ (v : Value) (a2 : Option Addr) (c2 : Nat) (ys2 : List Pv), e = .returned v ∧ Box w' g [.slice a2 ys2.length c2] ∧ Fz w' g ∧ Rx B w' a2 c2 ys2 ∧ NeA a2 g ∧ Gps w' (putZ (t :: r) z).reverse ys2 C ∧ Kept w w' ∧ Below B w w') := by
 have HZK := Lib.hid hzk
 have HLN := Lib.hid hl
 clear hzk hl
 have HB := hB
 have hBw : B ≤ w.heap.size := Nat.le_trans hB (Nat.le_of_lt Kg.lt)
 have NX := R.ne
 have KP : Kept w w := Kept.of (Below.refl _ _)
 obtain ⟨yr, y, hy, GR, hty, Y, hyl⟩ := GS.pop
 obtain ⟨b, ha, hbl, hat⟩ := R.spa yr.length y (by rw [hy, List.getElem?_append_right (Nat.le_refl _), Nat.sub_self]; rfl)
 have hlast : (ys.length : Int) - 1 = (yr.length : Int) := by rw [hy]; simp
 have hlt : yr.length < ys.length := by rw [hy]; simp
 have hb1 : (ys.length : Int) ≤ 4096 := by have := HLN.out; omega
 have hb0 : (0 : Int) ≤ (yr.length : Int) := by omega
 have HY := Lib.hid hy
 have HT := Lib.hid hty
 have HLT := Lib.hid hlt
 have HKC := Lib.hid (Nat.le_trans (Nat.le_of_lt hlt) R.cap)
 have HQ0 := Lib.hid hq
 clear hq
 subst ha
 have hA : AtC w b (yr.length * 5) (pcs y) := ⟨hbl, hat⟩
 have NB : b ≠ g := NG b rfl
 have NB2 : b ≠ w.heap.size := Nat.ne_of_lt hbl
 clear hy hty hbl hat hyl
 have BW : Below w.heap.size w w := Below.refl _ _
 obtain ⟨V1, e2, hb3, K4, Z5, -⟩ := alloc_new w [.int .u8 x.k, .bool x.P.n, .slice x.P.A x.P.xs.length x.P.c, .bool x.P.m, .slice x.P.B x.P.ds.length x.P.d] 113
 have n6 : g ≠ w.heap.size := Nat.ne_of_lt (Kg.lt)
 have g7 : w.heap.size ≤ w.heap.size := BW.size
 replace Kg := Kg.on hb3
 replace Z := Z.on hb3
 replace GS := GS.kp (Kept.of hb3)
 replace GR := GR.kp (Kept.of hb3)
 replace X := X.kp (Kept.of hb3)
 replace Y := Y.kp (Kept.of hb3)
 replace KP := KP.kp (Kept.of hb3)
 replace BW := BW.trans (hb3.mono BW.size)
 clear hb3
 have c8 := Kg.c1
 rw [e2] at c8
 go_enter Tryz.func65, Tryz.ntmps65
 go_wp2_with fail
 clear c8
 rw [← e2]
 clear e2
 replace hA := hA.on BW
 replace R := R.on BW
 have BB : Beb B w V1 := ⟨BW.mono hBw, Nat.le_trans hBw BW.size⟩
 clear BW
 obtain ⟨hK1, hQ1⟩ := atP hA
 clear hA hlt hlast
 by_cases hk : t.1 = z.1
 · have hk1 : y.k = x.k := by rw [← HT.out, ← HZK.out]; exact hk
   refine wp_region_noPanic ?_
   have hb : Below V1.heap.size V1 V1.drew := (Below.refl _ _).drew
   replace Kg := Kg.on hb
   replace K4 := K4.on hb
   replace R := R.on hb
   replace hK1 := hK1.on hb
   replace hQ1 := hQ1.on hb
   replace Z := Z.on hb
   replace Z5 := Z5.on hb
   replace GS := GS.kp (Kept.of hb)
   replace GR := GR.kp (Kept.of hb)
   replace X := X.kp (Kept.of hb)
   replace Y := Y.kp (Kept.of hb)
   replace KP := KP.kp (Kept.of hb)
   replace BB := BB.trans (hb.mono BB.size)
   clear hb
   refine wp_region_held_drew (S := (fun wx => Cs wx (g) 0 [.slice (some ⟨b, 0, none⟩) ys.length c] ∧ Cs wx (w.heap.size) 0 [.int .u8 x.k, .bool x.P.n, .slice x.P.A x.P.xs.length x.P.c, .bool x.P.m, .slice x.P.B x.P.ds.length x.P.d] ∧ (AtC wx b (yr.length * 5) [.int .u8 y.k]))) (by kernel_rfl) (by exact ⟨Kg.cs, K4.cs, hK1⟩) (fun hHeld => ?_)
   generalize V1.drew = Vd9 at *
   refine pT 0 ?_
   (try simp only [p0, p1, p2, p3])
   refine pT 1 ?_
   (try simp only [p0, p1, p2, p3])
   refine pT 2 ?_
   (try simp only [p0, p1, p2, p3])
   refine pT 3 ?_
   (try simp only [p0, p1, p2, p3])
   refine pT 4 ?_
   (try simp only [p0, p1, p2, p3])
   refine pT 5 ?_ (hy := fun wt hSw => ixP rfl rfl rfl HLT.out)
   (try simp only [p0, p1, p2, p3])
   refine pT 6 ?_
   (try simp only [p0, p1, p2, p3])
   refine pT 7 ?_ (hy := fun wt hSw => ldKC rfl rfl hSw.2.2)
   (try simp only [p0, p1, p2, p3])
   refine pT 8 ?_
   (try simp only [p0, p1, p2, p3])
   refine pT 9 ?_
   (try simp only [p0, p1, p2, p3])
   refine pT 10 ?_
   (try simp only [p0, p1, p2, p3])
   refine pT 11 ?_
   (try simp only [p0, p1, p2, p3])
   refine wpAnyH_done (by kernel_rfl) (NoPanic.normal ?_) _
   go_wp2_with fail
   refine wp_region_noPanic ?_
   have hb : Below Vd9.heap.size Vd9 Vd9.drew := (Below.refl _ _).drew
   replace Kg := Kg.on hb
   replace K4 := K4.on hb
   replace R := R.on hb
   replace hK1 := hK1.on hb
   replace hQ1 := hQ1.on hb
   replace Z := Z.on hb
   replace Z5 := Z5.on hb
   replace GS := GS.kp (Kept.of hb)
   replace GR := GR.kp (Kept.of hb)
   replace X := X.kp (Kept.of hb)
   replace Y := Y.kp (Kept.of hb)
   replace KP := KP.kp (Kept.of hb)
   replace BB := BB.trans (hb.mono BB.size)
   clear hb
   refine wp_region_held_drew (S := (fun wx => Cs wx (g) 0 [.slice (some ⟨b, 0, none⟩) ys.length c] ∧ (AtC wx b (yr.length * 5 + 1) [.bool y.P.n, .slice y.P.A y.P.xs.length y.P.c, .bool y.P.m, .slice y.P.B y.P.ds.length y.P.d]))) (by kernel_rfl) (by exact ⟨Kg.cs, hQ1⟩) (fun hHeld => ?_)
   generalize Vd9.drew = Vd10 at *
   refine pT 0 ?_
   (try simp only [p0, p1, p2, p3])
   refine pT 2 ?_
   (try simp only [p0, p1, p2, p3])
   refine pT 3 ?_
   (try simp only [p0, p1, p2, p3])
   refine pT 4 ?_ (hy := fun wt hSw => ixP rfl rfl rfl HLT.out)
   (try simp only [p0, p1, p2, p3])
   refine pT 5 ?_
   (try simp only [p0, p1, p2, p3])
   refine pT 6 ?_ (hy := fun wt hSw => ldQC rfl rfl hSw.2 rfl)
   (try simp only [p0, p1, p2, p3])
   refine pR1 1 (fun K hK => ?_)
   obtain ⟨c11, c12, c13, c14, c15⟩ := K4.c5
   go_simp
   clear c11 c12 c13 c14 c15
   clear hHeld
   refine hK.out _ _ (by exact ⟨Kg.cs, hQ1⟩) (fun hHeld => ?_)
   clear hK
   (try simp only [p0, p1, p2, p3])
   refine pR1 7 (fun K hK => ?_)
   go_simp
   (go_at_call 66; with_reducible refine (q_add X Y hC).mono ?_)
   rintro _ w16 ⟨f, rfl, L, hb⟩
   (try go_wp2_with fail)
   replace Kg := Kg.on hb
   replace K4 := K4.on hb
   replace R := R.on hb
   replace hK1 := hK1.on hb
   replace hQ1 := hQ1.on hb
   replace Z := Z.on hb
   replace Z5 := Z5.on hb
   replace GS := GS.kp (Kept.of hb)
   replace GR := GR.kp (Kept.of hb)
   replace X := X.kp (Kept.of hb)
   replace Y := Y.kp (Kept.of hb)
   replace KP := KP.kp (Kept.of hb)
   replace BB := BB.trans (hb.mono BB.size)
   clear hb
   replace L := L.cap_by (HQ0.out hk) hKC
   clear hHeld
   refine hK.out _ _ (by exact ⟨Kg.cs, hQ1⟩) (fun hHeld => ?_)
   clear hK
   (try simp only [p0, p1, p2, p3])
   refine pT 8 ?_
   (try simp only [p0, p1, p2, p3])
   refine pR1 9 (fun K hK => ?_)
   obtain ⟨c17, c18, c19, c20, c21⟩ := K4.c5
   obtain ⟨c22, c23, c24, c25, c26⟩ := Z5.f5
   go_simp
   clear c17 c18 c19 c20 c21 c22 c23 c24 c25 c26
   obtain ⟨V27, hk29⟩ : ∃ V27, V27 = w16.setCells (w.heap.size) 1 [.bool f.n, .slice f.A f.xs.length f.c, .bool f.m, .slice f.B f.ds.length f.d] := ⟨_, rfl⟩
   have e28 := hk29
   simp only [World.setCells, Nat.reduceAdd] at e28
   have hk30 := Kept.overE hk29 K4 rfl (Nat.le_of_ble_eq_true rfl)
   replace Kg := Kg.awayE hk29 n6
   replace K4 := K4.part (us' := [.int .u8 x.k, .bool f.n, .slice f.A f.xs.length f.c, .bool f.m, .slice f.B f.ds.length f.d]) hk29 rfl (Nat.le_of_ble_eq_true rfl)
   replace R := R.awayE hk29 NX
   replace hK1 := hK1.awayE hk29 NB2
   replace hQ1 := hQ1.awayE hk29 NB2
   replace Z := Z.putE hk29
   replace Z5 := Z5.putE hk29
   replace GS := GS.kp hk30
   replace GR := GR.kp hk30
   replace X := X.kp hk30
   replace Y := Y.kp hk30
   replace KP := KP.kp hk30
   replace L := L.kp hk30
   replace BB := BB.putE hk29 hBw
   clear hk29 hk30
   rw [← e28]
   clear e28
   clear hHeld
   refine hK.out _ _ (by exact ⟨Kg.cs, hQ1⟩) (fun hHeld => ?_)
   clear hK
   (try simp only [p0, p1, p2, p3])
   refine wpAnyH_done (by kernel_rfl) (NoPanic.normal ?_) _
   clear hK1 hQ1
   clear X Y
   go_upto_region 4 with fail
   have c31 := Kg.c1
   have c32 := Z.f1
   obtain ⟨V33, hk35⟩ : ∃ V33, V33 = V27.setCells (g) 0 [.slice (some ⟨b, 0, none⟩) yr.length c] := ⟨_, rfl⟩
   have e34 := hk35
   simp only [World.setCells] at e34
   have hk36 := Kept.overE hk35 Kg rfl (Nat.le_of_ble_eq_true rfl)
   replace Kg := Kg.overE hk35 rfl
   replace K4 := K4.awayE hk35 n6.symm
   replace R := R.awayE hk35 NG
   replace Z := Z.putE hk35
   replace Z5 := Z5.putE hk35
   replace GS := GS.kp hk36
   replace GR := GR.kp hk36
   replace KP := KP.kp hk36
   replace L := L.kp hk36
   replace BB := BB.putE hk35 HB
   clear hk35 hk36
   go_upto_region 5 with (first | (refine wpList_slHP (by rfl) (by rfl) (by rfl) (by rfl) HKC.out ?_))
   clear c31 c32
   rw [← e34]
   clear e34
   have R2 := (HY.out ▸ R : Rx B V33 (some ⟨b, 0, none⟩) c (yr ++ [y])).pop
   clear R
   by_cases h5 : x.k = 5
   · have h5b : x.k = 5 := h5
     have hp : putZ (t :: r) z = r := putZ_flip hk (HZK.out.trans h5)
     have HP := Lib.hid hp
     clear hp
     obtain ⟨c37, c38, c39, c40, c41⟩ := K4.c5
     go_wp2_with fail
     clear c37 c38 c39 c40 c41
     exact bodyPost_ret (v := .tuple #[]) (by simp [results, Tryz.results65, go_sem]) rfl ⟨_, (some ⟨b, 0, none⟩), c, yr, rfl, Kg, Z, R2, NG, by rw [HP.out]; exact GR, KP, BB.1⟩
   · have h5b : (x.k == 5) = false := beq_eq_false_iff_ne.2 h5
     obtain ⟨c37, c38, c39, c40, c41⟩ := K4.c5
     go_upto_region 6 with fail
     clear c37 c38 c39 c40 c41
     have X := L
     clear L
     obtain ⟨c42, c43, c44, c45, c46⟩ := K4.c5
     go_wp2_with fail
     clear c42 c43 c44 c45 c46
     refine (b_empty (z := (z.1, z.2 + t.2)) (x := ⟨x.k, f⟩) ⟨HZK.out, X⟩ (Nat.le_trans hC (by decide))).mono ?_
     rintro _ w47 ⟨r0, rfl, hr, hb⟩
     replace Kg := Kg.on hb
     replace K4 := K4.on hb
     replace R2 := R2.on hb
     replace Z := Z.on hb
     replace Z5 := Z5.on hb
     replace GS := GS.kp (Kept.of hb)
     replace GR := GR.kp (Kept.of hb)
     replace KP := KP.kp (Kept.of hb)
     replace X := X.kp (Kept.of hb)
     replace BB := BB.trans (hb.mono BB.size)
     clear hb
     cases r0
     · have hp : putZ (t :: r) z = (z.1, z.2 + t.2) :: r := by rw [putZ_add hk (fun e => h5 (HZK.out.symm.trans e))]; rw [if_neg (by rw [← hr]; simp)]
       have HP := Lib.hid hp
       clear hp hr
       go_upto_region 7 with fail
       have c48 := Kg.c1
       obtain ⟨c49, c50, c51, c52, c53⟩ := K4.c5
       obtain ⟨V8, e8, hb8, K8, -, -⟩ := alloc_new w47 [.int .u8 x.k, .bool f.n, .slice f.A f.xs.length f.c, .bool f.m, .slice f.B f.ds.length f.d] 113
       replace Kg := Kg.on hb8
       replace K4 := K4.on hb8
       replace R2 := R2.on hb8
       replace Z := Z.on hb8
       replace Z5 := Z5.on hb8
       replace GS := GS.kp (Kept.of hb8)
       replace GR := GR.kp (Kept.of hb8)
       replace KP := KP.kp (Kept.of hb8)
       replace X := X.kp (Kept.of hb8)
       replace BB := BB.trans (hb8.mono BB.size)
       clear hb8
       have R8 := R2
       obtain ⟨a9, c9, V9, hr9, R9, BW9, kp9, bx9, fz9, ne9⟩ := appX 111 (x := ⟨x.k, f⟩) BB.1 BB.2 K8 (R2) (by have h1 := HLN.out; have h2 := HLT.out; omega)
       rw [e8] at hr9
       have HR9 := Lib.hid hr9
       clear hr9
       have K9 := bx9 g _ (fun b us2 e _ => fun h => NG b e h.symm) Kg
       have Z9 := fz9 g Kg.lt Z
       have N9 := ne9 g Kg.lt NG
       have cg := K9.c1
       have fg := Z9.f1
       go_wp2_with (first | (refine wpList_appQ (by rfl) (by rfl) (by rfl) (by rfl) HR9.out ?_))
       (try go_wp2)
       obtain ⟨V10, hk10⟩ : ∃ V10, V10 = V9.setCells g 0 [.slice a9 (yr.length + 1) c9] := ⟨_, rfl⟩
       have e10 := hk10
       simp only [World.setCells] at e10
       rw [← e10]
       exact bodyPost_end (v := .tuple #[]) (by simp [results, Tryz.results65, go_sem]) rfl ⟨_, a9, c9, yr ++ [⟨x.k, f⟩], rfl, (by rw [List.length_append]; exact K9.overE hk10 rfl), Z9.putE hk10, R9.awayE hk10 N9, N9, by rw [HP.out, List.reverse_cons]; exact ((GR.kp kp9).snoc (z := (z.1, z.2 + t.2)) (x := ⟨x.k, f⟩) ⟨HZK.out, X.kp kp9⟩).kp (Kept.overE hk10 K9 rfl (Nat.le_of_ble_eq_true rfl)), (KP.kp kp9).kp (Kept.overE hk10 K9 rfl (Nat.le_of_ble_eq_true rfl)), Below.putE BW9 hk10 HB⟩
     · have hp : putZ (t :: r) z = r := by rw [putZ_add hk (fun e => h5 (HZK.out.symm.trans e))]; rw [if_pos hr.symm]
       have HP := Lib.hid hp
       clear hp hr
       go_wp2_with fail
       exact bodyPost_end (v := .tuple #[]) (by simp [results, Tryz.results65, go_sem]) rfl ⟨_, (some ⟨b, 0, none⟩), c, yr, rfl, Kg, Z, R2, NG, by rw [HP.out]; exact GR, KP, BB.1⟩
 · have hk1 : ¬ y.k = x.k := fun e => hk (by rw [HT.out, HZK.out, e])
   have hk2 : (y.k == x.k) = false := beq_eq_false_iff_ne.2 hk1
   refine wp_region_noPanic ?_
   have hb : Below V1.heap.size V1 V1.drew := (Below.refl _ _).drew
   replace Kg := Kg.on hb
   replace K4 := K4.on hb
   replace R := R.on hb
   replace hK1 := hK1.on hb
   replace hQ1 := hQ1.on hb
   replace Z := Z.on hb
   replace Z5 := Z5.on hb
   replace GS := GS.kp (Kept.of hb)
   replace GR := GR.kp (Kept.of hb)
   replace X := X.kp (Kept.of hb)
   replace Y := Y.kp (Kept.of hb)
   replace KP := KP.kp (Kept.of hb)
   replace BB := BB.trans (hb.mono BB.size)
   clear hb
   refine wp_region_held_drew (S := (fun wx => Cs wx (g) 0 [.slice (some ⟨b, 0, none⟩) ys.length c] ∧ Cs wx (w.heap.size) 0 [.int .u8 x.k, .bool x.P.n, .slice x.P.A x.P.xs.length x.P.c, .bool x.P.m, .slice x.P.B x.P.ds.length x.P.d] ∧ (AtC wx b (yr.length * 5) [.int .u8 y.k]))) (by kernel_rfl) (by exact ⟨Kg.cs, K4.cs, hK1⟩) (fun hHeld => ?_)
   generalize V1.drew = Vd9 at *
   refine pT 0 ?_
   (try simp only [p0, p1, p2, p3])
   refine pT 1 ?_
   (try simp only [p0, p1, p2, p3])
   refine pT 2 ?_
   (try simp only [p0, p1, p2, p3])
   refine pT 3 ?_
   (try simp only [p0, p1, p2, p3])
   refine pT 4 ?_
   (try simp only [p0, p1, p2, p3])
   refine pT 5 ?_ (hy := fun wt hSw => ixP rfl rfl rfl HLT.out)
   (try simp only [p0, p1, p2, p3])
   refine pT 6 ?_
   (try simp only [p0, p1, p2, p3])
   refine pT 7 ?_ (hy := fun wt hSw => ldKC rfl rfl hSw.2.2)
   (try simp only [p0, p1, p2, p3])
   refine pT 8 ?_
   (try simp only [p0, p1, p2, p3])
   refine pT 9 ?_
   (try simp only [p0, p1, p2, p3])
   refine pT 10 ?_
   (try simp only [p0, p1, p2, p3])
   refine pT 11 ?_
   (try simp only [p0, p1, p2, p3])
   refine wpAnyH_done (by kernel_rfl) (NoPanic.normal ?_) _
   clear hK1 hQ1
   clear Y GR
   go_upto_region 6 with fail
   obtain ⟨c10, c11, c12, c13, c14⟩ := K4.c5
   go_wp2_with fail
   clear c10 c11 c12 c13 c14
   refine (b_empty (z := z) (x := x) ⟨HZK.out, X⟩ (Nat.le_trans hC (by decide))).mono ?_
   rintro _ w15 ⟨r0, rfl, hr, hb⟩
   replace Kg := Kg.on hb
   replace K4 := K4.on hb
   replace R := R.on hb
   replace Z := Z.on hb
   replace Z5 := Z5.on hb
   replace GS := GS.kp (Kept.of hb)
   replace X := X.kp (Kept.of hb)
   replace KP := KP.kp (Kept.of hb)
   replace BB := BB.trans (hb.mono BB.size)
   clear hb
   cases r0
   · have hp : putZ (t :: r) z = z :: t :: r := by rw [putZ_ne hk]; rw [if_neg (by rw [← hr]; simp)]
     have HP := Lib.hid hp
     clear hp hr
     go_upto_region 7 with fail
     have c16 := Kg.c1
     obtain ⟨c17, c18, c19, c20, c21⟩ := K4.c5
     obtain ⟨V8, e8, hb8, K8, -, -⟩ := alloc_new w15 [.int .u8 x.k, .bool x.P.n, .slice x.P.A x.P.xs.length x.P.c, .bool x.P.m, .slice x.P.B x.P.ds.length x.P.d] 113
     replace Kg := Kg.on hb8
     replace K4 := K4.on hb8
     replace R := R.on hb8
     replace Z := Z.on hb8
     replace Z5 := Z5.on hb8
     replace GS := GS.kp (Kept.of hb8)
     replace X := X.kp (Kept.of hb8)
     replace KP := KP.kp (Kept.of hb8)
     replace BB := BB.trans (hb8.mono BB.size)
     clear hb8
     obtain ⟨a9, c9, V9, hr9, R9, BW9, kp9, bx9, fz9, ne9⟩ := appX 111 (x := x) BB.1 BB.2 K8 (R) (by exact HLN.out)
     rw [e8] at hr9
     have HR9 := Lib.hid hr9
     clear hr9
     have K9 := bx9 g _ (fun b us2 e _ => fun h => NG b e h.symm) Kg
     have Z9 := fz9 g Kg.lt Z
     have N9 := ne9 g Kg.lt NG
     have cg := K9.c1
     have fg := Z9.f1
     go_wp2_with (first | (refine wpList_appQ (by rfl) (by rfl) (by rfl) (by rfl) HR9.out ?_))
     (try go_wp2)
     obtain ⟨V10, hk10⟩ : ∃ V10, V10 = V9.setCells g 0 [.slice a9 (ys.length + 1) c9] := ⟨_, rfl⟩
     have e10 := hk10
     simp only [World.setCells] at e10
     rw [← e10]
     exact bodyPost_end (v := .tuple #[]) (by simp [results, Tryz.results65, go_sem]) rfl ⟨_, a9, c9, ys ++ [x], rfl, (by rw [List.length_append]; exact K9.overE hk10 rfl), Z9.putE hk10, R9.awayE hk10 N9, N9, by rw [HP.out, List.reverse_cons]; exact ((GS.kp kp9).snoc (z := z) (x := x) ⟨HZK.out, X.kp kp9⟩).kp (Kept.overE hk10 K9 rfl (Nat.le_of_ble_eq_true rfl)), (KP.kp kp9).kp (Kept.overE hk10 K9 rfl (Nat.le_of_ble_eq_true rfl)), Below.putE BW9 hk10 HB⟩
   · have hp : putZ (t :: r) z = t :: r := by rw [putZ_ne hk]; rw [if_pos hr.symm]
     have HP := Lib.hid hp
     clear hp hr
     go_wp2_with fail
     exact bodyPost_end (v := .tuple #[]) (by simp [results, Tryz.results65, go_sem]) rfl ⟨_, (some ⟨b, 0, none⟩), c, ys, rfl, Kg, Z, R, NG, by rw [HP.out]; exact GS, KP, BB.1⟩
end Go.Proofs.YtjamfkafgfpobaaGreat

namespace Go.Proofs.YtjamfkafgfpobaaGreat
open Go.RowKit Nb
/-- What stands in a simple bench. -/
def OkZ (z : Kq) : Prop := zkind z ∧ SpaceZ z ∧ (z.1 = 5 → z.2 = 0)
theorem OkZ.may {z : Kq} (h : OkZ z) : (zeq z).may := by
 obtain ⟨k, h1, h2⟩ := h
 rcases k with k | k | k
 · exact .inl ⟨k, h1 k, rfl⟩
 · exact .inr (.inl ⟨k, rfl⟩)
 · exact .inr (.inr (.inr (.inr ⟨k, h2 k, rfl⟩)))
theorem plain_ok (e : Eq) (h : e.may) : OkZ (plainQ e.mat) := by
 refine ⟨plain_kind _, plain_may e h, fun h5 => ?_⟩
 have key : ∀ m : Mq, (plainQ m).1 = 5 → (plainQ m).2 = 0 := fun m hm => by
  unfold plainQ at *
  split at hm
  · rename_i h1; rw [if_pos h1]
  · split at hm
    · simp at hm
    · simp at hm
 exact key _ h5
theorem put_ok {s : List Kq} {z : Kq} (h : ∀ t ∈ s, OkZ t) (hz : OkZ z) : ∀ t ∈ putZ s z, OkZ t := by
 intro t ht
 unfold putZ at ht
 cases s with
 | nil =>
  simp only at ht
  split at ht
  · cases ht
  · simp only [List.mem_singleton] at ht; subst ht; exact hz
 | cons u r =>
  simp only at ht
  split at ht
  · rename_i hk
    split at ht
    · exact h t (by simp [ht])
    · rename_i h5
      split at ht
      · exact h t (by simp [ht])
      · rcases List.mem_cons.1 ht with rfl | ht
        · refine ⟨hz.1, fun h1 => ?_, fun e => absurd e h5⟩
          have a1 := hz.2.1 h1
          have a2 := (h u (by simp)).2.1 (hk.trans h1)
          show 0 ≤ z.2 + u.2
          grind
        · exact h t (by simp [ht])
  · split at ht
    · exact h t ht
    · rcases List.mem_cons.1 ht with rfl | ht
      · exact hz
      · exact h t ht
def hC0 : Nat := 8396865
theorem put_any {B g c : Nat} {a : Option Addr} {x : Pv} {z : Kq} {s : List Kq} {ys : List Pv} {k : Nat} {w : World} (Kg : Box w g [.slice a ys.length c]) (Z : Fz w g) (hB : B ≤ g) (R : Rx B w a c ys) (NG : NeA a g) (GS : Gps w s.reverse ys hC0) (hzk : z.1 = x.k) (X : Fq w z.2 x.P hC0) (hl : ys.length + 1 ≤ 4096) (hs : ∀ t ∈ s, Hq (k * hOne) t.2) (hz : Hq 131200 z.2) (hk : k + 1 ≤ 4096) :
    Calls Tryz.prog 65 #[pv x, .pointer (some ⟨g, 0, none⟩)] w (fun e w' => ∃ (v : Value) (a2 : Option Addr) (c2 : Nat) (ys2 : List Pv), e = .returned v ∧ Box w' g [.slice a2 ys2.length c2] ∧ Fz w' g ∧ Rx B w' a2 c2 ys2 ∧ NeA a2 g ∧ Gps w' (putZ s z).reverse ys2 hC0 ∧ Kept w w' ∧ Below B w w') := by
 cases s with
 | nil => exact put_nil Kg Z hB R NG GS hzk X (by decide) hl
 | cons t r => exact put_cons (K0 := 4096 * hOne) Kg Z hB R NG GS hzk X (by decide) hl (fun _ => (hz.add (hs t (by simp))).mono (by unfold hOne; omega)) (by decide)
theorem stack_snoc {l : List Kq} {z : Kq} {k : Nat} (h : l[k]? = some z) : stackZ (l.take (k + 1)) = putZ (stackZ (l.take k)) z := by
 unfold stackZ
 rw [List.take_add_one, h, List.foldl_append]
 rfl
end Go.Proofs.YtjamfkafgfpobaaGreat

namespace Go.Proofs.YtjamfkafgfpobaaGreat
open Go.RowKit Nb
/-- What Simple answers. -/
def SimIs (W : World) (zs : List Kq) (v : Value) (er : Int) : Prop := ((∀ z ∈ zs, FitsQ z.2) ∧ er = 0 ∧ ∃ (a : Option Addr) (c : Nat) (es : List Ev), v = .slice a es.length c ∧ Fes W (zs.map zeq) es ∧ Sle W a c es) ∨ ((∃ z ∈ zs, ¬ FitsQ z.2) ∧ er = 4 ∧ v = .slice none 0 0)
theorem FitIs.sim {w w' : World} {zs : List Kq} {e : Ending} (h : FitIs w zs e w') : ∃ (v : Value) (er : Int), e = .returned (.tuple #[v, .int .i64 er]) ∧ SimIs w' zs v er ∧ Below w.heap.size w w' := by
 obtain ⟨⟨h1, a, c, es, rfl, h2, h3⟩ | ⟨h1, rfl⟩, hb⟩ := h
 · exact ⟨_, _, rfl, .inl ⟨h1, rfl, a, c, es, rfl, h2, h3⟩, hb⟩
 · exact ⟨_, _, rfl, .inr ⟨h1, rfl, rfl⟩, hb⟩
set_option maxHeartbeats 16000000 in
set_option maxRecDepth 100000 in
theorem b_Simple {a : Option Addr} {c : Nat} {es : List Ev} {zs : List Eq} {w : World} (S : Sle w a c es) (hF : Fes w zs es) (hn : es.length ≤ 4096) :
    Calls Tryz.prog 28 #[.slice a es.length c] w (fun e w' => ∃ (v : Value) (er : Int), e = .returned (.tuple #[v, .int .i64 er]) ∧ SimIs w' (simpleZ (zs.map (fun e => plainQ e.mat))) v er ∧ Below w.heap.size w w') := by
 have HS := Lib.hid S
 have HF := Lib.hid hF
 have HN := Lib.hid hn
 have hn2 : (es.length : Int) ≤ 4096 := by omega
 clear S hF hn
 have BW : Below w.heap.size w w := Below.refl _ _
 go_enter Tryz.func28, Tryz.ntmps28
 go_wp2_with fail
 have BW0 := Lib.hid BW
 refine (b_check (HS.out.on BW)).mono ?_
 rintro _ w1 ⟨r0, rfl, hr, hb⟩
 replace BW := BW.trans (hb.mono BW.size)
 clear hb
 obtain rfl : r0 = 0 := hr.yes (by omega) (HF.out.kp (Kept.of BW0.out)).may
 clear hr
 obtain ⟨V2, e3, hb4, K5, Z6, -⟩ := alloc_new w1 [.slice none 0 0] 111
 have g7 : w.heap.size ≤ w1.heap.size := BW.size
 replace BW := BW.trans (hb4.mono BW.size)
 clear hb4
 go_wp2_with fail
 rw [← e3]
 clear e3
 generalize w1.heap.size = b8 at *
 go_wp2_with fail
 obtain ⟨l, hl⟩ : ∃ l : List Kq, l = zs.map (fun e => plainQ e.mat) := ⟨_, rfl⟩
 have HL := Lib.hid hl
 clear hl
 have GW := Lib.hid (show w.heap.size ≤ b8 from g7)
 go_loopw [17] (fun iv wr => ∃ (k : Nat) (a1 : Option Addr) (c1 : Nat) (ys : List Pv), iv = .int .i64 (k : Nat) ∧ k ≤ es.length ∧ Box wr (b8) [.slice a1 ys.length c1] ∧ Fz wr (b8) ∧ Rx w.heap.size wr a1 c1 ys ∧ NeA a1 (b8) ∧ Gps wr (stackZ (l.take k)).reverse ys hC0 ∧ ys.length ≤ k ∧ (∀ t ∈ stackZ (l.take k), Hq (k * hOne) t.2) ∧ (∀ t ∈ stackZ (l.take k), OkZ t) ∧ Below w.heap.size w wr) (fun iv _ => es.length - (intOf iv).toNat)
 case atStart => exact ⟨0, none, 0, [], rfl, by omega, K5, Z6, .inl ⟨rfl, rfl, rfl⟩, (fun b hb => by cases hb), ⟨rfl, fun i z x h1 h2 => by simp at h2⟩, (by simp), (fun t ht => by simp [stackZ] at ht), (fun t ht => by simp [stackZ] at ht), BW⟩
 case round =>
   obtain ⟨k, a1, c1, ys, rfl, hk, Kg, Zg, R, NG, GS, hyl, hst, hok, BW⟩ := hrel
   have HST := Lib.hid hst
   have HOK := Lib.hid hok
   have HYL := Lib.hid hyl
   clear hst hok hyl
   by_cases hlt : k < es.length
   · have h2 : (k : Int) < (es.length : Int) := by omega
     obtain ⟨e, he⟩ : ∃ e, es[k]? = some e := ⟨_, List.getElem?_eq_getElem hlt⟩
     obtain ⟨z, hz⟩ : ∃ z, zs[k]? = some z := ⟨_, List.getElem?_eq_getElem (by rw [HF.out.1]; exact hlt)⟩
     obtain ⟨ge, o, ha, hge, hat0⟩ := HS.out.2.2.2 k e he
     have hat : AtB wr ge (o + k * 9) [.int .u8 e.k, .bool e.P.n, .slice e.P.A e.P.xs.length e.P.c, .bool e.P.m, .slice e.P.B e.P.ds.length e.P.d, .bool e.Q.n, .slice e.Q.A e.Q.xs.length e.Q.c, .bool e.Q.m, .slice e.Q.B e.Q.ds.length e.Q.d] := hat0.on hge BW
     have X := (HF.out.2 k z e hz he).1.kp (Kept.of BW)
     have HM := Lib.hid (HF.out.2 k z e hz he).2
     have hlz : l[k]? = some (plainQ z.mat) := by rw [HL.out, List.getElem?_map, hz]; rfl
     have HZ := Lib.hid hlz
     have HLT := Lib.hid hlt
     clear hat0 he hz hlz
     subst ha
     go_upto_region 8 with fail
     obtain ⟨V501, e502, hb503, K504, -, -⟩ := alloc_new wr [.int .u8 e.k, .bool e.P.n, .slice e.P.A e.P.xs.length e.P.c, .bool e.P.m, .slice e.P.B e.P.ds.length e.P.d, .bool e.Q.n, .slice e.Q.A e.Q.xs.length e.Q.c, .bool e.Q.m, .slice e.Q.B e.Q.ds.length e.Q.d] 58
     have n505 : b8 ≠ wr.heap.size := Nat.ne_of_lt (Kg.lt)
     replace Kg := Kg.on hb503
     replace R := R.on hb503
     replace Zg := Zg.on hb503
     replace X := X.kp (Kept.of hb503)
     replace GS := GS.kp (Kept.of hb503)
     replace BW := BW.trans (hb503.mono BW.size)
     clear hb503
     go_upto_region 9 with (first | (refine wpList_ldE (by rfl) (by rfl) (by rfl) hat (by rfl) ?_))
     rw [← e502]
     clear e502
     generalize wr.heap.size = b506 at *
     obtain ⟨c507, c508, c509, c510, c511, c512, c513, c514, c515⟩ := K504.c9
     go_wp2_with fail
     clear c507 c508 c509 c510 c511 c512 c513 c514 c515
     refine (b_matrix X HM.out).mono ?_
     rintro _ w516 ⟨m, rfl, G, hb⟩
     replace Kg := Kg.on hb
     replace R := R.on hb
     replace K504 := K504.on hb
     replace Zg := Zg.on hb
     replace X := X.kp (Kept.of hb)
     replace GS := GS.kp (Kept.of hb)
     replace BW := BW.trans (hb.mono BW.size)
     clear hb
     clear X
     go_wp2_with fail
     refine (b_plainly G (by decide) (by decide)).mono ?_
     rintro _ w517 ⟨x, rfl, hx, LX, hb⟩
     replace Kg := Kg.on hb
     replace R := R.on hb
     replace Zg := Zg.on hb
     replace GS := GS.kp (Kept.of hb)
     replace G := G.kp (Kept.of hb)
     replace BW := BW.trans (hb.mono BW.size)
     clear hb
     clear G
     have HX := Lib.hid hx
     have HHQ := Lib.hid LX.hq
     clear hx
     go_wp2_with fail
     refine (put_any (k := k) (s := stackZ (l.take k)) (z := plainQ z.mat) Kg Zg GW.out R NG GS HX.out (LX.mono (by decide)) (by have := HYL.out; have := HLT.out; have := HN.out; omega) HST.out HHQ.out (by have := HLT.out; have := HN.out; omega)).mono ?_
     rintro _ w518 ⟨v, a2, c2, ys2, rfl, Kg2, Zg2, R2, NG2, GS2, kp2, hb2⟩
     rw [← stack_snoc HZ.out] at GS2
     have BW2 : Below w.heap.size w w518 := BW.trans hb2
     clear Kg Zg R NG GS LX BW hb2 kp2
     go_wp2_with fail
     go_roundw
     case rel => exact ⟨k + 1, a2, c2, ys2, by go_num, by omega, Kg2, Zg2, R2, NG2, GS2, by rw [← GS2.1, List.length_reverse]; exact Nat.le_trans stack_len (by simp; omega), by rw [stack_snoc HZ.out]; exact put_hq HST.out HHQ.out, by rw [stack_snoc HZ.out]; exact put_ok HOK.out (plain_ok z HM.out), BW2⟩
     case measure => simp [intOf]; omega
   · obtain rfl : k = es.length := by omega
     have hll : l.length = es.length := by rw [HL.out, List.length_map]; exact HF.out.1
     rw [← hll, List.take_length] at GS
     have HOK2 := Lib.hid (show ∀ t ∈ stackZ l, OkZ t from by have h := HOK.out; rwa [← hll, List.take_length] at h)
     clear hll
     have c901 := Kg.c1
     go_wp2_with fail
     clear c901
     refine ((p_fit R.spa GS (by decide) (by have := HYL.out; have := HN.out; omega) (fun z hz => (HOK2.out z (List.mem_reverse.1 hz)).may)).mono (fun _ _ h => h.sim)).mono ?_
     rintro _ w902 ⟨v9, er9, rfl, FI, hb⟩
     replace Kg := Kg.on hb
     replace R := R.on hb
     replace Zg := Zg.on hb
     replace GS := GS.kp (Kept.of hb)
     replace BW := BW.trans (hb.mono BW.size)
     clear hb
     go_wp2_with fail
     exact bodyPost_ret (v := .tuple #[v9, .int .i64 er9]) (by simp [results, Tryz.results28, go_sem]) rfl ⟨v9, er9, rfl, by rw [← HL.out]; exact FI, BW⟩
end Go.Proofs.YtjamfkafgfpobaaGreat

namespace Go.Proofs.YtjamfkafgfpobaaGreat
open Go.RowKit Nb
theorem plain_back {z : Kq} (h : OkZ z) (hz : zemp z = false) : plainQ (zmat z) = z := by
 obtain ⟨k, p⟩ := z
 obtain ⟨hk, -, h5⟩ := h
 rcases hk with hk | hk | hk
 · simp only at hk; subst hk
   have hp : p ≠ 0 := fun e => by simp [zemp, e] at hz
   rw [zmat1]
   unfold plainQ
   rw [if_neg (show ¬ (Mq.space p).a < 0 from by show ¬ (1 : Rat) < 0; decide +kernel), if_pos (show (Mq.space p).b ≠ 0 from hp)]
   rfl
 · simp only at hk; subst hk
   rw [zmat2]
   unfold plainQ
   rw [if_neg (show ¬ (Mq.lens p).a < 0 from by show ¬ (1 : Rat) < 0; decide +kernel), if_neg (show ¬ (Mq.lens p).b ≠ 0 from fun e => e rfl)]
   rw [Prod.mk.injEq]
   exact ⟨rfl, by simp only [Mq.lens]; grind⟩
 · simp only at hk; subst hk
   have hp : p = 0 := h5 rfl
   subst hp
   rw [zmat5]
   unfold plainQ
   rw [if_pos (show Mq.one.neg.a < 0 from by show -(1 : Rat) < 0; decide +kernel)]
theorem FullZ.all {s : List Kq} (h : FullZ s) : ∀ z ∈ s, zemp z = false := by
 induction s with
 | nil => intro z hz; cases hz
 | cons t r ih =>
  intro z hz
  rcases List.mem_cons.1 hz with rfl | hz
  · exact h.head.1
  · exact ih h.tail z hz
theorem FullZ.adj {s : List Kq} (h : FullZ s) : ∀ (j : Nat) (y z : Kq), s[j]? = some y → s[j + 1]? = some z → y.1 ≠ z.1 := by
 induction s with
 | nil => intro j y z h1; simp at h1
 | cons t r ih =>
  intro j y z h1 h2
  cases j with
  | zero =>
   cases r with
   | nil => simp at h2
   | cons u r =>
    simp at h1 h2
    subst h1; subst h2
    exact h.2.2.1
  | succ j =>
   rw [List.getElem?_cons_succ] at h1 h2
   exact ih h.tail j y z h1 h2
theorem FullZ.adj_rev {s : List Kq} (h : FullZ s) : ∀ (j : Nat) (y z : Kq), s.reverse[j]? = some y → s.reverse[j + 1]? = some z → y.1 ≠ z.1 := by
 intro j y z h1 h2
 have hj : j + 1 < s.reverse.length := (List.getElem?_eq_some_iff.1 h2).1
 rw [List.length_reverse] at hj
 rw [List.getElem?_reverse (by omega)] at h1 h2
 have e : s.length - 1 - j = (s.length - 1 - (j + 1)) + 1 := by omega
 rw [e] at h1
 exact fun hh => h.adj _ _ _ h2 h1 hh.symm
/-- Of a bench the plain elements, one after another. -/
def plainsQ (zs : List Eq) : List Kq := zs.map (fun e => plainQ e.mat)
theorem plains_kind (zs : List Eq) : ∀ z ∈ plainsQ zs, zkind z := fun z hz => by
 obtain ⟨e, _, rfl⟩ := List.mem_map.1 hz
 exact plain_kind _
theorem stack_ok {l s : List Kq} (hl : ∀ z ∈ l, OkZ z) (hs : ∀ z ∈ s, OkZ z) : ∀ z ∈ l.foldl putZ s, OkZ z := by
 induction l generalizing s with
 | nil => exact hs
 | cons z l ih => exact ih (fun y hy => hl y (by simp [hy])) (put_ok hs (hl z (by simp)))
theorem simple_ok {zs : List Eq} (h : ∀ e ∈ zs, e.may) : ∀ z ∈ simpleZ (plainsQ zs), OkZ z := fun z hz => by
 refine stack_ok (l := plainsQ zs) (s := []) (fun y hy => ?_) (fun y hy => by cases hy) z (List.mem_reverse.1 hz)
 obtain ⟨e, he, rfl⟩ := List.mem_map.1 hy
 exact plain_ok e (h e he)
theorem simple_fullZ (zs : List Eq) : FullZ (stackZ (plainsQ zs)) := stack_full (s := []) trivial (plains_kind zs)
theorem simple_full {zs : List Eq} : ∀ z ∈ simpleZ (plainsQ zs), zemp z = false := fun z hz => (simple_fullZ zs).all z (List.mem_reverse.1 hz)
theorem plains_simple {zs : List Eq} (h : ∀ e ∈ zs, e.may) : plainsQ ((simpleZ (plainsQ zs)).map zeq) = simpleZ (plainsQ zs) := by
 unfold plainsQ at *
 rw [List.map_map]
 conv => rhs; rw [← List.map_id (simpleZ _)]
 exact List.map_congr_left fun z hz => plain_back (simple_ok h z hz) (simple_full z hz)
theorem plains_app (zs ys : List Eq) : plainsQ (zs ++ ys) = plainsQ zs ++ plainsQ ys := List.map_append
/-- Made simple twice. -/
theorem same_twice {zs : List Eq} (h : ∀ e ∈ zs, e.may) : simpleZ (plainsQ ((simpleZ (plainsQ zs)).map zeq)) = simpleZ (plainsQ zs) := by
 rw [plains_simple h, simple_twice (plains_kind zs)]
/-- Made simple ahead of what follows. -/
theorem same_app {zs ys : List Eq} (h : ∀ e ∈ zs, e.may) : simpleZ (plainsQ ((simpleZ (plainsQ zs)).map zeq ++ ys)) = simpleZ (plainsQ (zs ++ ys)) := by
 rw [plains_app, plains_app, plains_simple h]
 have e : stackZ (plainsQ zs ++ plainsQ ys) = stackZ (simpleZ (plainsQ zs) ++ plainsQ ys) := stack_app (plains_kind zs)
 show (stackZ (simpleZ (plainsQ zs) ++ plainsQ ys)).reverse = (stackZ (plainsQ zs ++ plainsQ ys)).reverse
 rw [e]
theorem same_mat (zs : List Eq) : benchM ((simpleZ (plainsQ zs)).map zeq) = benchM zs := by
 unfold benchM
 rw [List.map_map]
 show chainM ((simpleZ (plainsQ zs)).map zmat) = _
 rw [simple_mat (plains_kind zs)]
 unfold plainsQ
 rw [List.map_map]
 congr 1
 exact List.map_congr_left fun e _ => plain_mat e
theorem same_len (zs : List Eq) : (simpleZ (plainsQ zs)).length ≤ zs.length := by
 have h := simple_len (l := plainsQ zs)
 unfold plainsQ at *
 rwa [List.length_map] at h
end Go.Proofs.YtjamfkafgfpobaaGreat
