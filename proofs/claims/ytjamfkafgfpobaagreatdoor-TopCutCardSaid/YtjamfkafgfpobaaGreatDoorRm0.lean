/-
  Matrices and rays of fractions: what is reckoned with them, how great their parts grow, where their words lie. No conditions.
-/
import Derived.Test.YtjamfkafgfpobaaGreatDoorFrn
import Derived.Laws.IdiomCopy
import Derived.Deep.RegionHeld3
import Derived.Deep.DeepCutAuto
import Derived.BigRegion
namespace Go.Proofs.YtjamfkafgfpobaaGreatDoor
open Go.RowKit Nb
/-- All words and limbs stay. -/
structure Kept (W W' : World) : Prop where
 size : W.heap.size ≤ W'.heap.size
 w32 : ∀ (p : Addr) (n : Int), p.block < W.heap.size → W.cell? p = some (.int .u32 n) → W'.cell? p = some (.int .u32 n)
 w64 : ∀ (p : Addr) (n : Int), p.block < W.heap.size → W.cell? p = some (.int .u64 n) → W'.cell? p = some (.int .u64 n)
theorem Kept.of {W W' : World} (h : Below W.heap.size W W') : Kept W W' :=
 ⟨h.size, fun _ _ hp hc => (h.cell hp).trans hc, fun _ _ hp hc => (h.cell hp).trans hc⟩
theorem Kept.trans {W W' W'' : World} (h : Kept W W') (k : Kept W' W'') : Kept W W'' :=
 ⟨Nat.le_trans h.size k.size, fun p n hp hc => k.w32 p n (Nat.lt_of_lt_of_le hp h.size) (h.w32 p n hp hc), fun p n hp hc => k.w64 p n (Nat.lt_of_lt_of_le hp h.size) (h.w64 p n hp hc)⟩
/-- No word. -/
def soft : Value → Bool
 | .int .u32 _ => false
 | .int .u64 _ => false
 | _ => true
theorem size_setCells (b : Nat) : ∀ (vs : List Value) (o : Nat) (w : World), (w.setCells b o vs).heap.size = w.heap.size
 | [], _, _ => rfl
 | v :: r, o, w => by rw [World.setCells, size_setCells b r]; simp
section
variable {W W' w : World} {p g o N : Nat} {us vs : List Value}
theorem Kept.over (K : Box W p us) (hu : us.all soft = true) (hl : o + vs.length ≤ us.length) : Kept W (W.setCells p o vs) := by
 have key : ∀ (q : Addr) (v : Value), W.cell? q = some v → soft v = false → (W.setCells p o vs).cell? q = some v := by
  intro q v hc hs
  rw [World.cell?_setCells_out, hc]
  intro h1 h2
  rcases Nat.lt_or_ge q.off o with h | h
  ·exact .inl h
  ·refine .inr ?_
   rcases Nat.lt_or_ge q.off (o + vs.length) with h3 | h3
   ·exfalso
    have h4 : q.off < us.length := by omega
    have h5 := K.c q.off _ (List.getElem?_eq_getElem h4)
    have h6 : q = ⟨p, q.off, none⟩ := by cases q; simp_all
    rw [h6, h5] at hc
    have h7 := List.all_eq_true.1 hu _ (List.getElem_mem h4)
    rw [Option.some.inj hc, hs] at h7
    cases h7
   ·exact h3
 exact ⟨by rw [size_setCells]; exact Nat.le_refl _, fun q n _ hc => key q _ hc rfl, fun q n _ hc => key q _ hc rfl⟩
theorem Box.over (K : Box W p us) (hl : vs.length = us.length) : Box (W.setCells p 0 vs) p vs := by
 refine ⟨by rw [size_setCells]; exact K.lt, fun i v e => ?_⟩
 obtain ⟨hi, rfl⟩ := List.getElem?_eq_some_iff.1 e
 have := World.cell?_setCells_in p vs 0 W (fun j hj => by
  rw [Nat.zero_add, K.c j _ (List.getElem?_eq_getElem (by omega))]; rfl) i hi
 rwa [Nat.zero_add] at this
theorem Box.away (K : Box W p us) (hne : p ≠ g) : Box (W.setCells g o vs) p us :=
 ⟨by rw [size_setCells]; exact K.lt, fun i v e => by rw [World.cell?_setCells_out _ _ _ _ _ (fun h => absurd h hne)]; exact K.c i v e⟩
theorem Fz.put (h : Fz W p) : Fz (W.setCells g o vs) p := ⟨by rw [size_setCells]; exact h.1, fun j => by rw [World.frozen?_setCells]; exact h.2 j⟩
theorem Below.put (hw : N ≤ g) : ∀ {vs : List Value} {o : Nat} {W : World}, Below N w W → Below N w (W.setCells g o vs)
 | [], _, _, h => h
 | v :: r, o, _W, h => Below.put hw (vs := r) (h.setCell (p := ⟨g, o, none⟩) hw v)
theorem Kept.overE {V : World} (e : V = W.setCells p o vs) (K : Box W p us) (hu : us.all soft = true) (hl : o + vs.length ≤ us.length) : Kept W V := e ▸ Kept.over K hu hl
theorem Box.overE {V : World} (K : Box W p us) (e : V = W.setCells p 0 vs) (hl : vs.length = us.length) : Box V p vs := e ▸ K.over hl
theorem Box.awayE {V : World} (K : Box W p us) (e : V = W.setCells g o vs) (hne : p ≠ g) : Box V p us := e ▸ K.away hne
theorem Fz.putE {V : World} (h : Fz W p) (e : V = W.setCells g o vs) : Fz V p := e ▸ h.put
theorem Below.putE {V : World} (h : Below N w W) (e : V = W.setCells g o vs) (hw : N ≤ g) : Below N w V := e ▸ Below.put hw h
end
section
variable {W W' : World} {X Z : Int} {q z : Rat} {C : Nat} {n m : Bool} {A B : Option Addr} {xs ds ls : List Nat} {c d : Nat} {er : Int} {bad : Prop}
theorem Sl.kp32 (h : Sl .u32 W W.heap.size A ls) (k : Kept W W') : Sl .u32 W' W'.heap.size A ls := fun hn => by
 obtain ⟨ad, e, hb, hc⟩ := h hn
 exact ⟨ad, e, Nat.lt_of_lt_of_le hb k.size, fun j hj => k.w32 _ _ (by rw [block_of_add]; exact hb) (hc j hj)⟩
theorem Sl.kp64 (h : Sl .u64 W W.heap.size A ls) (k : Kept W W') : Sl .u64 W' W'.heap.size A ls := fun hn => by
 obtain ⟨ad, e, hb, hc⟩ := h hn
 exact ⟨ad, e, Nat.lt_of_lt_of_le hb k.size, fun j hj => k.w64 _ _ (by rw [block_of_add]; exact hb) (hc j hj)⟩
theorem Bg.kp (h : Bg W n A ls c C) (k : Kept W W') : Bg W' n A ls c C := ⟨h.sl.kp64 k, h.dig, h.norm, h.sign, h.len, h.cap, h.room⟩
theorem Lm.kp (h : Lm W n A ls c) (k : Kept W W') : Lm W' n A ls c := ⟨h.sl.kp32 k, h.dig, h.ok⟩
theorem Nw.kp (h : Nw W Z C n A ls c) (k : Kept W W') : Nw W' Z C n A ls c := ⟨h.bg.kp k, h.v⟩
theorem Nl.kp (h : Nl W Z n A ls c) (k : Kept W W') : Nl W' Z n A ls c := ⟨h.lm.kp k, h.v⟩
theorem Lq.kp (h : Lq W q n A xs c B ds d C) (k : Kept W W') : Lq W' q n A xs c B ds d C := ⟨h.num.kp k, h.den.kp k, h.vn, h.vd⟩
theorem Lf.kp (h : Lf W q n A xs c B ds d) (k : Kept W W') : Lf W' q n A xs c B ds d := ⟨h.num.kp k, h.den.kp k⟩
theorem Rl.kp (h : Rl W A ls) (k : Kept W W') : Rl W' A ls := ⟨h.sl.kp32 k, h.dig, h.sz⟩
theorem Rq.kp (h : Rq W A xs B ds) (k : Kept W W') : Rq W' A xs B ds := ⟨h.x.kp k, h.y.kp k⟩
end
/-- A new block. -/
theorem alloc_new (W : World) (us : List Value) (t : TypeId) : ∃ V : World, V = W.alloc (.cells us.toArray t) ∧ Below W.heap.size W V ∧ Box V W.heap.size us ∧ Fz V W.heap.size ∧ V.heap.size = W.heap.size + 1 :=
 ⟨_, rfl, (Below.refl _ _).alloc (Nat.le_refl _) _, Box.new W us t, Fz.new W _ t, by go_size⟩
theorem Box.c1 {W : World} {p : Nat} {a0 : Value} (K : Box W p [a0]) : W.cell? ⟨p, 0, none⟩ = some a0 := K.c 0 _ rfl
theorem Fz.f1 {W : World} {p : Nat} (K : Fz W p) : W.frozen? ⟨p, 0, none⟩ = false := K.2 0
theorem Box.c2 {W : World} {p : Nat} {a0 a1 : Value} (K : Box W p [a0, a1]) : W.cell? ⟨p, 0, none⟩ = some a0 ∧ W.cell? ⟨p, 1, none⟩ = some a1 := ⟨K.c 0 _ rfl, K.c 1 _ rfl⟩
theorem Box.c4 {W : World} {p : Nat} {a0 a1 a2 a3 : Value} (K : Box W p [a0, a1, a2, a3]) : W.cell? ⟨p, 0, none⟩ = some a0 ∧ W.cell? ⟨p, 1, none⟩ = some a1 ∧ W.cell? ⟨p, 2, none⟩ = some a2 ∧ W.cell? ⟨p, 3, none⟩ = some a3 := ⟨K.c 0 _ rfl, K.c 1 _ rfl, K.c 2 _ rfl, K.c 3 _ rfl⟩
theorem Fz.f4 {W : World} {p : Nat} (K : Fz W p) : W.frozen? ⟨p, 0, none⟩ = false ∧ W.frozen? ⟨p, 1, none⟩ = false ∧ W.frozen? ⟨p, 2, none⟩ = false ∧ W.frozen? ⟨p, 3, none⟩ = false := ⟨K.2 0, K.2 1, K.2 2, K.2 3⟩
theorem Box.c8 {W : World} {p : Nat} {a0 a1 a2 a3 a4 a5 a6 a7 : Value} (K : Box W p [a0, a1, a2, a3, a4, a5, a6, a7]) : W.cell? ⟨p, 0, none⟩ = some a0 ∧ W.cell? ⟨p, 1, none⟩ = some a1 ∧ W.cell? ⟨p, 2, none⟩ = some a2 ∧ W.cell? ⟨p, 3, none⟩ = some a3 ∧ W.cell? ⟨p, 4, none⟩ = some a4 ∧ W.cell? ⟨p, 5, none⟩ = some a5 ∧ W.cell? ⟨p, 6, none⟩ = some a6 ∧ W.cell? ⟨p, 7, none⟩ = some a7 := ⟨K.c 0 _ rfl, K.c 1 _ rfl, K.c 2 _ rfl, K.c 3 _ rfl, K.c 4 _ rfl, K.c 5 _ rfl, K.c 6 _ rfl, K.c 7 _ rfl⟩
theorem Fz.f8 {W : World} {p : Nat} (K : Fz W p) : W.frozen? ⟨p, 0, none⟩ = false ∧ W.frozen? ⟨p, 1, none⟩ = false ∧ W.frozen? ⟨p, 2, none⟩ = false ∧ W.frozen? ⟨p, 3, none⟩ = false ∧ W.frozen? ⟨p, 4, none⟩ = false ∧ W.frozen? ⟨p, 5, none⟩ = false ∧ W.frozen? ⟨p, 6, none⟩ = false ∧ W.frozen? ⟨p, 7, none⟩ = false := ⟨K.2 0, K.2 1, K.2 2, K.2 3, K.2 4, K.2 5, K.2 6, K.2 7⟩
theorem Box.c16 {W : World} {p : Nat} {a0 a1 a2 a3 a4 a5 a6 a7 a8 a9 a10 a11 a12 a13 a14 a15 : Value} (K : Box W p [a0, a1, a2, a3, a4, a5, a6, a7, a8, a9, a10, a11, a12, a13, a14, a15]) : W.cell? ⟨p, 0, none⟩ = some a0 ∧ W.cell? ⟨p, 1, none⟩ = some a1 ∧ W.cell? ⟨p, 2, none⟩ = some a2 ∧ W.cell? ⟨p, 3, none⟩ = some a3 ∧ W.cell? ⟨p, 4, none⟩ = some a4 ∧ W.cell? ⟨p, 5, none⟩ = some a5 ∧ W.cell? ⟨p, 6, none⟩ = some a6 ∧ W.cell? ⟨p, 7, none⟩ = some a7 ∧ W.cell? ⟨p, 8, none⟩ = some a8 ∧ W.cell? ⟨p, 9, none⟩ = some a9 ∧ W.cell? ⟨p, 10, none⟩ = some a10 ∧ W.cell? ⟨p, 11, none⟩ = some a11 ∧ W.cell? ⟨p, 12, none⟩ = some a12 ∧ W.cell? ⟨p, 13, none⟩ = some a13 ∧ W.cell? ⟨p, 14, none⟩ = some a14 ∧ W.cell? ⟨p, 15, none⟩ = some a15 := ⟨K.c 0 _ rfl, K.c 1 _ rfl, K.c 2 _ rfl, K.c 3 _ rfl, K.c 4 _ rfl, K.c 5 _ rfl, K.c 6 _ rfl, K.c 7 _ rfl, K.c 8 _ rfl, K.c 9 _ rfl, K.c 10 _ rfl, K.c 11 _ rfl, K.c 12 _ rfl, K.c 13 _ rfl, K.c 14 _ rfl, K.c 15 _ rfl⟩
theorem Fz.f16 {W : World} {p : Nat} (K : Fz W p) : W.frozen? ⟨p, 0, none⟩ = false ∧ W.frozen? ⟨p, 1, none⟩ = false ∧ W.frozen? ⟨p, 2, none⟩ = false ∧ W.frozen? ⟨p, 3, none⟩ = false ∧ W.frozen? ⟨p, 4, none⟩ = false ∧ W.frozen? ⟨p, 5, none⟩ = false ∧ W.frozen? ⟨p, 6, none⟩ = false ∧ W.frozen? ⟨p, 7, none⟩ = false ∧ W.frozen? ⟨p, 8, none⟩ = false ∧ W.frozen? ⟨p, 9, none⟩ = false ∧ W.frozen? ⟨p, 10, none⟩ = false ∧ W.frozen? ⟨p, 11, none⟩ = false ∧ W.frozen? ⟨p, 12, none⟩ = false ∧ W.frozen? ⟨p, 13, none⟩ = false ∧ W.frozen? ⟨p, 14, none⟩ = false ∧ W.frozen? ⟨p, 15, none⟩ = false := ⟨K.2 0, K.2 1, K.2 2, K.2 3, K.2 4, K.2 5, K.2 6, K.2 7, K.2 8, K.2 9, K.2 10, K.2 11, K.2 12, K.2 13, K.2 14, K.2 15⟩
/-- The parts of a fraction's value. -/
structure Fv where
 n : Bool
 A : Option Addr
 xs : List Nat
 c : Nat
 m : Bool
 B : Option Addr
 ds : List Nat
 d : Nat
abbrev fv (f : Fv) : Value := .agg #[.bool f.n, .slice f.A f.xs.length f.c, .bool f.m, .slice f.B f.ds.length f.d]
/-- A fraction in words. -/
def Fq (W : World) (q : Rat) (f : Fv) (C : Nat) : Prop := f.m = false ∧ Lq W q f.n f.A f.xs f.c f.B f.ds f.d C
/-- A fraction in limbs. -/
def Ff (W : World) (q : Rat) (f : Fv) : Prop := f.m = false ∧ Lf W q f.n f.A f.xs f.c f.B f.ds f.d
/-- A fraction as it is handed in. -/
def Fx (W : World) (f : Fv) : Prop := Rq W f.A f.xs f.B f.ds
/-- May it be? -/
def okv (f : Fv) : Prop := Okf f.n f.xs f.m f.ds
noncomputable def chkv (f : Fv) : Int := chkF f.n f.xs f.m f.ds
/-- None. -/
def fv0 : Fv := ⟨false, none, [], 0, false, none, [], 0⟩
/-- What is answered: the fraction, or the refusal. -/
def Fr (W : World) (bad : Prop) (z : Rat) (f : Fv) (er : Int) : Prop := (¬ bad ∧ FitsQ z ∧ er = 0 ∧ Ff W z f) ∨ ((bad ∧ er = 3 ∨ ¬ bad ∧ ¬ FitsQ z ∧ er = 4) ∧ f = fv0)
def GQ (w : World) (q : Rat) (C : Nat) (e : Ending) (w' : World) : Prop := ∃ f : Fv, e = .returned (fv f) ∧ Fq w' q f C ∧ Below w.heap.size w w'
def GF (w : World) (q : Rat) (e : Ending) (w' : World) : Prop := ∃ f : Fv, e = .returned (fv f) ∧ Ff w' q f ∧ Below w.heap.size w w'
def GR (w : World) (bad : Prop) (z : Rat) (e : Ending) (w' : World) : Prop := ∃ (f : Fv) (er : Int), e = .returned (.tuple #[fv f, .int .i64 er]) ∧ Fr w' bad z f er ∧ Below w.heap.size w w'
section
variable {W W' : World} {q p z : Rat} {f g : Fv} {C C' : Nat} {er : Int} {bad : Prop}
theorem Fq.kp (h : Fq W q f C) (k : Kept W W') : Fq W' q f C := ⟨h.1, h.2.kp k⟩
theorem Ff.kp (h : Ff W q f) (k : Kept W W') : Ff W' q f := ⟨h.1, h.2.kp k⟩
theorem Fx.kp (h : Fx W f) (k : Kept W W') : Fx W' f := Rq.kp h k
theorem Fr.kp (h : Fr W bad z f er) (k : Kept W W') : Fr W' bad z f er := by
 rcases h with ⟨h1, h2, h3, h4⟩ | h
 ·exact .inl ⟨h1, h2, h3, h4.kp k⟩
 ·exact .inr h
theorem Fq.mono (h : Fq W q f C) (hC : C ≤ C') : Fq W q f C' := ⟨h.1, h.2.mono hC⟩
theorem Ff.fits (h : Ff W q f) : FitsQ q := h.2.fitsQ
theorem Fr.yes (h : Fr W bad z f er) (hb : ¬ bad) (hf : FitsQ z) : er = 0 ∧ Ff W z f := by
 rcases h with ⟨_, _, h, k⟩ | ⟨⟨h, _⟩ | ⟨_, h, _⟩, _⟩
 ·exact ⟨h, k⟩
 ·exact absurd h hb
 ·exact absurd hf h
theorem Ff.okv (h : Ff W q f) : okv f := by
 obtain ⟨hm, h⟩ := h
 have := h.okf
 show Okf f.n f.xs f.m f.ds
 rw [hm]
 exact this
theorem Ff.fx (h : Ff W q f) : Fx W f := h.2.rq
theorem okv.ff (h : okv f) (r : Fx W f) : ∃ q : Rat, Ff W q f := by
 obtain ⟨q, hq⟩ := Okf.lf h r
 exact ⟨q, h.pos, hq⟩
theorem chkv_ok (h : okv f) : chkv f = 0 := chkF_ok h
theorem chkv_zero (h : chkv f = 0) : okv f := chkF_zero h
theorem GR.of {e : Ending} (h : ReckF W bad z e W') : GR W bad z e W' := by
 obtain ⟨n, A, xs, c, m, B, ds, d, er, rfl, ⟨h1, h2, h3, rfl, h4⟩ | ⟨h1, rfl, rfl, rfl, rfl, rfl, rfl, rfl, rfl⟩, hb⟩ := h
 ·exact ⟨⟨n, A, xs, c, false, B, ds, d⟩, er, rfl, .inl ⟨h1, h2, h3, rfl, h4⟩, hb⟩
 ·exact ⟨fv0, er, rfl, .inr ⟨h1, rfl⟩, hb⟩
theorem q_add (h : Fq W q f C) (k : Fq W p g C) (hC : C ≤ 1759218604390) : Calls Tryz.prog 71 #[fv f, fv g] W (GQ W (q + p) (2 * C + 4)) := by
 obtain ⟨n, A, xs, c, m, B, ds, d⟩ := f
 obtain ⟨n', A', ys, c', m', B', es, d'⟩ := g
 obtain ⟨rfl, h⟩ := h
 obtain ⟨rfl, k⟩ := k
 refine (fadd_any q p n n' A B A' B' xs ds ys es c d c' d' C W h k hC).mono ?_
 rintro _ _ ⟨n, A, xs, c, B, ds, d, rfl, hL, hb⟩
 exact ⟨⟨n, A, xs, c, false, B, ds, d⟩, rfl, ⟨rfl, hL⟩, hb⟩
theorem q_mul (h : Fq W q f C) (k : Fq W p g C) (hC : C ≤ 1759218604390) : Calls Tryz.prog 70 #[fv f, fv g] W (GQ W (q * p) (2 * C + 2)) := by
 obtain ⟨n, A, xs, c, m, B, ds, d⟩ := f
 obtain ⟨n', A', ys, c', m', B', es, d'⟩ := g
 obtain ⟨rfl, h⟩ := h
 obtain ⟨rfl, k⟩ := k
 refine (fmul_any q p n n' A B A' B' xs ds ys es c d c' d' C W h k hC).mono ?_
 rintro _ _ ⟨n, A, xs, c, B, ds, d, rfl, hL, hb⟩
 exact ⟨⟨n, A, xs, c, false, B, ds, d⟩, rfl, ⟨rfl, hL⟩, hb⟩
theorem q_neg (h : Fq W q f C) (hC : C ≤ 1759218604390) : Calls Tryz.prog 72 #[fv f] W (GQ W (-q) C) := by
 obtain ⟨n, A, xs, c, m, B, ds, d⟩ := f
 obtain ⟨rfl, h⟩ := h
 refine (fneg_any q n A B xs ds c d C W h (by omega)).mono ?_
 rintro _ _ ⟨n, A, xs, c, B, ds, d, rfl, hL, hb⟩
 exact ⟨⟨n, A, xs, c, false, B, ds, d⟩, rfl, ⟨rfl, hL⟩, hb⟩
theorem q_fit (h : Fq W q f C) (hC : C ≤ 1759218604390) : Calls Tryz.prog 78 #[fv f] W (GR W False q) := by
 obtain ⟨n, A, xs, c, m, B, ds, d⟩ := f
 obtain ⟨rfl, h⟩ := h
 refine (ffit_any q n A B xs ds c d C W h hC).mono ?_
 rintro _ _ ⟨n, A, xs, c, m, B, ds, d, er, rfl, ⟨h1, h2, rfl, h3⟩ | ⟨h1, h2, rfl, rfl, rfl, rfl, rfl, rfl, rfl, rfl⟩, hb⟩
 ·exact ⟨⟨n, A, xs, c, false, B, ds, d⟩, er, rfl, .inl ⟨not_false, h1, h2, rfl, h3⟩, hb⟩
 ·exact ⟨fv0, er, rfl, .inr ⟨.inr ⟨not_false, h1, h2⟩, rfl⟩, hb⟩
theorem q_from (h : Ff W q f) : Calls Tryz.prog 36 #[fv f] W (GQ W q 1024) := by
 obtain ⟨n, A, xs, c, m, B, ds, d⟩ := f
 obtain ⟨rfl, h⟩ := h
 refine (ffrom_any q n A B xs ds c d W h).mono ?_
 rintro _ _ ⟨n, A, xs, c, B, ds, d, rfl, hL, hb⟩
 exact ⟨⟨n, A, xs, c, false, B, ds, d⟩, rfl, ⟨rfl, hL⟩, hb⟩
theorem r_same (h : Ff W q f) (k : Ff W p g) : Calls Tryz.prog 15 #[fv f, fv g] W (fun e w' => e = .returned (.bool (decide (q = p))) ∧ Below W.heap.size W w') := by
 obtain ⟨n, A, xs, c, m, B, ds, d⟩ := f
 obtain ⟨n', A', ys, c', m', B', es, d'⟩ := g
 obtain ⟨rfl, h⟩ := h
 obtain ⟨rfl, k⟩ := k
 exact same_frac q p n n' A B A' B' xs ds ys es c d c' d' W h k
theorem r_check (h : Fx W f) : Calls Tryz.prog 31 #[fv f] W (fun e w' => e = .returned (.int .i64 (chkv f)) ∧ Below W.heap.size W w') := by
 obtain ⟨n, A, xs, c, m, B, ds, d⟩ := f
 exact fcheck_any n m A B xs ds c d W h
theorem r_of (X Y : Int) (W : World) (h0 : -9223372036854775808 ≤ X) (h1 : X ≤ 9223372036854775807) (k0 : -9223372036854775808 ≤ Y) (k1 : Y ≤ 9223372036854775807) :
  Calls Tryz.prog 58 #[.int .i64 X, .int .i64 Y] W (GR W (Y = 0) (Rat.divInt X Y)) := (frac_of X Y W h0 h1 k0 k1).mono (fun _ _ h => GR.of h)
end
end Go.Proofs.YtjamfkafgfpobaaGreatDoor
namespace Go.Proofs.YtjamfkafgfpobaaGreatDoor
open Go.RowKit Nb
theorem rat_int (n : Int) : Rat.divInt n 1 = (n : Rat) := by rw [Rat.divInt_eq_div]; grind
theorem int_num (n : Int) : (n : Rat).num = n := rfl
theorem int_den (n : Int) : (n : Rat).den = 1 := rfl
theorem fits_int {n : Int} (h : n.natAbs < 2 ^ 100) : FitsQ (n : Rat) := ⟨by rw [int_num]; exact fits_low h, by rw [int_den]; exact fits_low (by decide)⟩
theorem f_int {n : Int} {w : World} (h0 : -9223372036854775808 ≤ n) (h1 : n ≤ 9223372036854775807) :
  Calls Tryz.prog 58 #[.int .i64 n, .int .i64 1] w fun e w' => ∃ f : Fv, e = .returned (.tuple #[fv f, .int .i64 0]) ∧ Ff w' (n : Rat) f ∧ Below w.heap.size w w' := by
 refine (r_of n 1 w h0 h1 (by decide) (by decide)).mono ?_
 rintro _ w1 ⟨f, er, rfl, h, hb⟩
 rw [rat_int] at h
 obtain ⟨rfl, k⟩ := h.yes (by decide) (fits_int (by omega))
 exact ⟨f, rfl, k, hb⟩
section
variable {k l : Nat} {a b : Int} {z y s t : Rat}
/-- A fraction of whole numbers of k binary digits. -/
def Hq (k : Nat) (z : Rat) : Prop := ∃ (D a : Int), 0 < D ∧ z * (D : Rat) = (a : Rat) ∧ D.natAbs ≤ 2 ^ k ∧ a.natAbs ≤ 2 ^ k
theorem rat_whole (z : Rat) : z * ((z.den : Int) : Rat) = (z.num : Rat) := by
  have h : z = (z.num : Rat) / ((z.den : Int) : Rat) := by
    conv => lhs; rw [← Rat.num_divInt_den z, Rat.divInt_eq_div]
  have hd : ((z.den : Int) : Rat) ≠ 0 := fun e => z.den_nz (by
    have e2 : ((z.den : Int) : Rat) = ((0 : Int) : Rat) := e
    have := Rat.intCast_inj.1 e2
    omega)
  generalize ((z.den : Int) : Rat) = d at *
  generalize (z.num : Rat) = n at *
  subst h
  grind
end
end Go.Proofs.YtjamfkafgfpobaaGreatDoor
namespace Go.Proofs.YtjamfkafgfpobaaGreatDoor
open Go.RowKit Nb
/-- A matrix in fractions. -/
structure Mq where
 a : Rat
 b : Rat
 c : Rat
 d : Rat
/-- A ray in fractions. -/
structure Yq where
 y : Rat
 u : Rat
theorem Mq.ext4 {m n : Mq} (h1 : m.a = n.a) (h2 : m.b = n.b) (h3 : m.c = n.c) (h4 : m.d = n.d) : m = n := by
 cases m; cases n; simp_all
def Mq.mul (m n : Mq) : Mq := ⟨m.a * n.a + m.b * n.c, m.a * n.b + m.b * n.d, m.c * n.a + m.d * n.c, m.c * n.b + m.d * n.d⟩
def Mq.one : Mq := ⟨1, 0, 0, 1⟩
def Mq.det (m : Mq) : Rat := m.a * m.d - m.b * m.c
def Mq.thr (m : Mq) (r : Yq) : Yq := ⟨m.a * r.y + m.b * r.u, m.c * r.y + m.d * r.u⟩
/-- The parts of a matrix's value, of a ray's. -/
structure Mv where
 A : Fv
 B : Fv
 C : Fv
 D : Fv
structure Yv where
 Y : Fv
 U : Fv
/-- A matrix, a ray, in limbs; as they are handed in. -/
def Fm (W : World) (q : Mq) (m : Mv) : Prop := Ff W q.a m.A ∧ Ff W q.b m.B ∧ Ff W q.c m.C ∧ Ff W q.d m.D
def Fy (W : World) (q : Yq) (r : Yv) : Prop := Ff W q.y r.Y ∧ Ff W q.u r.U
def Xm (W : World) (m : Mv) : Prop := Fx W m.A ∧ Fx W m.B ∧ Fx W m.C ∧ Fx W m.D
def Xy (W : World) (r : Yv) : Prop := Fx W r.Y ∧ Fx W r.U
abbrev mv (m : Mv) : Value := .agg #[.bool m.A.n, .slice m.A.A m.A.xs.length m.A.c, .bool m.A.m, .slice m.A.B m.A.ds.length m.A.d, .bool m.B.n, .slice m.B.A m.B.xs.length m.B.c, .bool m.B.m, .slice m.B.B m.B.ds.length m.B.d, .bool m.C.n, .slice m.C.A m.C.xs.length m.C.c, .bool m.C.m, .slice m.C.B m.C.ds.length m.C.d, .bool m.D.n, .slice m.D.A m.D.xs.length m.D.c, .bool m.D.m, .slice m.D.B m.D.ds.length m.D.d]
abbrev yv (r : Yv) : Value := .agg #[.bool r.Y.n, .slice r.Y.A r.Y.xs.length r.Y.c, .bool r.Y.m, .slice r.Y.B r.Y.ds.length r.Y.d, .bool r.U.n, .slice r.U.A r.U.xs.length r.U.c, .bool r.U.m, .slice r.U.B r.U.ds.length r.U.d]
def mv0 : Mv := ⟨fv0, fv0, fv0, fv0⟩
def yv0 : Yv := ⟨fv0, fv0⟩
section
variable {W W' : World} {q p : Mq} {r s : Yq} {m : Mv} {y : Yv}
theorem Fm.kp (h : Fm W q m) (k : Kept W W') : Fm W' q m := ⟨h.1.kp k, h.2.1.kp k, h.2.2.1.kp k, h.2.2.2.kp k⟩
theorem Fy.kp (h : Fy W r y) (k : Kept W W') : Fy W' r y := ⟨h.1.kp k, h.2.kp k⟩
theorem Xm.kp (h : Xm W m) (k : Kept W W') : Xm W' m := ⟨h.1.kp k, h.2.1.kp k, h.2.2.1.kp k, h.2.2.2.kp k⟩
theorem Xy.kp (h : Xy W y) (k : Kept W W') : Xy W' y := ⟨h.1.kp k, h.2.kp k⟩
theorem Fm.xm (h : Fm W q m) : Xm W m := ⟨h.1.fx, h.2.1.fx, h.2.2.1.fx, h.2.2.2.fx⟩
end
/-- All four of them may be. -/
def okm (m : Mv) : Prop := okv m.A ∧ okv m.B ∧ okv m.C ∧ okv m.D
theorem okm.fm {W : World} {m : Mv} (h : okm m) (r : Xm W m) : ∃ q : Mq, Fm W q m := by
 obtain ⟨a, ha⟩ := h.1.ff r.1
 obtain ⟨b, hb⟩ := h.2.1.ff r.2.1
 obtain ⟨c, hc⟩ := h.2.2.1.ff r.2.2.1
 obtain ⟨d, hd⟩ := h.2.2.2.ff r.2.2.2
 exact ⟨⟨a, b, c, d⟩, ha, hb, hc, hd⟩
theorem Fm.okm {W : World} {q : Mq} {m : Mv} (h : Fm W q m) : okm m := ⟨h.1.okv, h.2.1.okv, h.2.2.1.okv, h.2.2.2.okv⟩
/-- All parts fit. -/
def FitsM (q : Mq) : Prop := FitsQ q.a ∧ FitsQ q.b ∧ FitsQ q.c ∧ FitsQ q.d
def FitsY (r : Yq) : Prop := FitsQ r.y ∧ FitsQ r.u
theorem Fm.fits {W : World} {q : Mq} {m : Mv} (h : Fm W q m) : FitsM q := ⟨h.1.fits, h.2.1.fits, h.2.2.1.fits, h.2.2.2.fits⟩
end Go.Proofs.YtjamfkafgfpobaaGreatDoor
