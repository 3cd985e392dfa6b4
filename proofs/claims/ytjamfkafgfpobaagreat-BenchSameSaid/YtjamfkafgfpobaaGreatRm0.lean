/-
  Matrices and rays of fractions: what is reckoned with them, how great their parts grow, where their words lie. No conditions.
-/
import Derived.Test.YtjamfkafgfpobaaGreatFrn
import Derived.Laws.IdiomCopy
import Derived.Deep.RegionHeld3
import Derived.Deep.DeepCutAuto
import Derived.BigRegion
namespace Go.Proofs.YtjamfkafgfpobaaGreat
open Go.RowKit Nb
/-- All words and limbs stay. -/
structure Kept (W W' : World) : Prop where
 size : W.heap.size ≤ W'.heap.size
 w32 : ∀ (p : Addr) (n : Int), p.block < W.heap.size → W.cell? p = some (.int .u32 n) → W'.cell? p = some (.int .u32 n)
 w64 : ∀ (p : Addr) (n : Int), p.block < W.heap.size → W.cell? p = some (.int .u64 n) → W'.cell? p = some (.int .u64 n)
theorem Kept.of {W W' : World} (h : Below W.heap.size W W') : Kept W W' :=
 ⟨h.size, fun _ _ hp hc => (h.cell hp).trans hc, fun _ _ hp hc => (h.cell hp).trans hc⟩
theorem Kept.trans {W W' W'' : World} (h : Kept W W') (k : Kept W' W'') : Kept W W'' :=
 ⟨Nat.le_trans h.size k.size, fun p n hp hc => k.w32 p n (Nat.lt_of_lt_of_le hp h.size) (h.w32 p n hp hc), fun p n hp hc => k.w64 p n (Nat.lt_of_lt_of_le hp h.size) (h.w64 p n hp hc)⟩
/-- No word. -/
def soft : Value → Bool
 | .int .u32 _ => false
 | .int .u64 _ => false
 | _ => true
theorem size_setCells (b : Nat) : ∀ (vs : List Value) (o : Nat) (w : World), (w.setCells b o vs).heap.size = w.heap.size
 | [], _, _ => rfl
 | v :: r, o, w => by rw [World.setCells, size_setCells b r]; simp
section
variable {W W' w : World} {p g o N : Nat} {us vs : List Value}
theorem Kept.over (K : Box W p us) (hu : us.all soft = true) (hl : o + vs.length ≤ us.length) : Kept W (W.setCells p o vs) := by
 have key : ∀ (q : Addr) (v : Value), W.cell? q = some v → soft v = false → (W.setCells p o vs).cell? q = some v := by
  intro q v hc hs
  rw [World.cell?_setCells_out, hc]
  intro h1 h2
  rcases Nat.lt_or_ge q.off o with h | h
  ·exact .inl h
  ·refine .inr ?_
   rcases Nat.lt_or_ge q.off (o + vs.length) with h3 | h3
   ·exfalso
    have h4 : q.off < us.length := by omega
    have h5 := K.c q.off _ (List.getElem?_eq_getElem h4)
    have h6 : q = ⟨p, q.off, none⟩ := by cases q; simp_all
    rw [h6, h5] at hc
    have h7 := List.all_eq_true.1 hu _ (List.getElem_mem h4)
    rw [Option.some.inj hc, hs] at h7
    cases h7
   ·exact h3
 exact ⟨by rw [size_setCells]; exact Nat.le_refl _, fun q n _ hc => key q _ hc rfl, fun q n _ hc => key q _ hc rfl⟩
theorem Box.over (K : Box W p us) (hl : vs.length = us.length) : Box (W.setCells p 0 vs) p vs := by
 refine ⟨by rw [size_setCells]; exact K.lt, fun i v e => ?_⟩
 obtain ⟨hi, rfl⟩ := List.getElem?_eq_some_iff.1 e
 have := World.cell?_setCells_in p vs 0 W (fun j hj => by
  rw [Nat.zero_add, K.c j _ (List.getElem?_eq_getElem (by omega))]; rfl) i hi
 rwa [Nat.zero_add] at this
theorem Box.away (K : Box W p us) (hne : p ≠ g) : Box (W.setCells g o vs) p us :=
 ⟨by rw [size_setCells]; exact K.lt, fun i v e => by rw [World.cell?_setCells_out _ _ _ _ _ (fun h => absurd h hne)]; exact K.c i v e⟩
theorem Fz.put (h : Fz W p) : Fz (W.setCells g o vs) p := ⟨by rw [size_setCells]; exact h.1, fun j => by rw [World.frozen?_setCells]; exact h.2 j⟩
theorem Below.put (hw : N ≤ g) : ∀ {vs : List Value} {o : Nat} {W : World}, Below N w W → Below N w (W.setCells g o vs)
 | [], _, _, h => h
 | v :: r, o, _W, h => Below.put hw (vs := r) (h.setCell (p := ⟨g, o, none⟩) hw v)
theorem Kept.overE {V : World} (e : V = W.setCells p o vs) (K : Box W p us) (hu : us.all soft = true) (hl : o + vs.length ≤ us.length) : Kept W V := e ▸ Kept.over K hu hl
theorem Box.overE {V : World} (K : Box W p us) (e : V = W.setCells p 0 vs) (hl : vs.length = us.length) : Box V p vs := e ▸ K.over hl
theorem Box.awayE {V : World} (K : Box W p us) (e : V = W.setCells g o vs) (hne : p ≠ g) : Box V p us := e ▸ K.away hne
theorem Fz.putE {V : World} (h : Fz W p) (e : V = W.setCells g o vs) : Fz V p := e ▸ h.put
theorem Below.putE {V : World} (h : Below N w W) (e : V = W.setCells g o vs) (hw : N ≤ g) : Below N w V := e ▸ Below.put hw h
theorem Box.drew (K : Box W p us) : Box W.drew p us := ⟨K.lt, K.c⟩
theorem Fz.drew (K : Fz W p) : Fz W.drew p := ⟨K.1, K.2⟩
end
section
variable {W W' : World} {X Z : Int} {q z : Rat} {C : Nat} {n m : Bool} {A B : Option Addr} {xs ds ls : List Nat} {c d : Nat} {er : Int} {bad : Prop}
theorem Sl.kp32 (h : Sl .u32 W W.heap.size A ls) (k : Kept W W') : Sl .u32 W' W'.heap.size A ls := fun hn => by
 obtain ⟨ad, e, hb, hc⟩ := h hn
 exact ⟨ad, e, Nat.lt_of_lt_of_le hb k.size, fun j hj => k.w32 _ _ (by rw [block_of_add]; exact hb) (hc j hj)⟩
theorem Sl.kp64 (h : Sl .u64 W W.heap.size A ls) (k : Kept W W') : Sl .u64 W' W'.heap.size A ls := fun hn => by
 obtain ⟨ad, e, hb, hc⟩ := h hn
 exact ⟨ad, e, Nat.lt_of_lt_of_le hb k.size, fun j hj => k.w64 _ _ (by rw [block_of_add]; exact hb) (hc j hj)⟩
theorem Bg.kp (h : Bg W n A ls c C) (k : Kept W W') : Bg W' n A ls c C := ⟨h.sl.kp64 k, h.dig, h.norm, h.sign, h.len, h.cap, h.room⟩
theorem Lm.kp (h : Lm W n A ls c) (k : Kept W W') : Lm W' n A ls c := ⟨h.sl.kp32 k, h.dig, h.ok⟩
theorem Nw.kp (h : Nw W Z C n A ls c) (k : Kept W W') : Nw W' Z C n A ls c := ⟨h.bg.kp k, h.v⟩
theorem Nl.kp (h : Nl W Z n A ls c) (k : Kept W W') : Nl W' Z n A ls c := ⟨h.lm.kp k, h.v⟩
theorem Lq.kp (h : Lq W q n A xs c B ds d C) (k : Kept W W') : Lq W' q n A xs c B ds d C := ⟨h.num.kp k, h.den.kp k, h.vn, h.vd⟩
theorem Lf.kp (h : Lf W q n A xs c B ds d) (k : Kept W W') : Lf W' q n A xs c B ds d := ⟨h.num.kp k, h.den.kp k⟩
theorem Rl.kp (h : Rl W A ls) (k : Kept W W') : Rl W' A ls := ⟨h.sl.kp32 k, h.dig, h.sz⟩
theorem Rq.kp (h : Rq W A xs B ds) (k : Kept W W') : Rq W' A xs B ds := ⟨h.x.kp k, h.y.kp k⟩
theorem Rk.kp (h : Rk W bad z n A xs c m B ds d er) (k : Kept W W') : Rk W' bad z n A xs c m B ds d er := by
 rcases h with ⟨h1, h2, h3, h4, h5⟩ | h
 ·exact .inl ⟨h1, h2, h3, h4, h5.kp k⟩
 ·exact .inr h
end
/-- A new block. -/
theorem alloc_new (W : World) (us : List Value) (t : TypeId) : ∃ V : World, V = W.alloc (.cells us.toArray t) ∧ Below W.heap.size W V ∧ Box V W.heap.size us ∧ Fz V W.heap.size ∧ V.heap.size = W.heap.size + 1 :=
 ⟨_, rfl, (Below.refl _ _).alloc (Nat.le_refl _) _, Box.new W us t, Fz.new W _ t, by go_size⟩
theorem Box.c1 {W : World} {p : Nat} {a0 : Value} (K : Box W p [a0]) : W.cell? ⟨p, 0, none⟩ = some a0 := K.c 0 _ rfl
theorem Fz.f1 {W : World} {p : Nat} (K : Fz W p) : W.frozen? ⟨p, 0, none⟩ = false := K.2 0
theorem Box.c2 {W : World} {p : Nat} {a0 a1 : Value} (K : Box W p [a0, a1]) : W.cell? ⟨p, 0, none⟩ = some a0 ∧ W.cell? ⟨p, 1, none⟩ = some a1 := ⟨K.c 0 _ rfl, K.c 1 _ rfl⟩
theorem Fz.f2 {W : World} {p : Nat} (K : Fz W p) : W.frozen? ⟨p, 0, none⟩ = false ∧ W.frozen? ⟨p, 1, none⟩ = false := ⟨K.2 0, K.2 1⟩
theorem Box.c4 {W : World} {p : Nat} {a0 a1 a2 a3 : Value} (K : Box W p [a0, a1, a2, a3]) : W.cell? ⟨p, 0, none⟩ = some a0 ∧ W.cell? ⟨p, 1, none⟩ = some a1 ∧ W.cell? ⟨p, 2, none⟩ = some a2 ∧ W.cell? ⟨p, 3, none⟩ = some a3 := ⟨K.c 0 _ rfl, K.c 1 _ rfl, K.c 2 _ rfl, K.c 3 _ rfl⟩
theorem Fz.f4 {W : World} {p : Nat} (K : Fz W p) : W.frozen? ⟨p, 0, none⟩ = false ∧ W.frozen? ⟨p, 1, none⟩ = false ∧ W.frozen? ⟨p, 2, none⟩ = false ∧ W.frozen? ⟨p, 3, none⟩ = false := ⟨K.2 0, K.2 1, K.2 2, K.2 3⟩
theorem Box.c8 {W : World} {p : Nat} {a0 a1 a2 a3 a4 a5 a6 a7 : Value} (K : Box W p [a0, a1, a2, a3, a4, a5, a6, a7]) : W.cell? ⟨p, 0, none⟩ = some a0 ∧ W.cell? ⟨p, 1, none⟩ = some a1 ∧ W.cell? ⟨p, 2, none⟩ = some a2 ∧ W.cell? ⟨p, 3, none⟩ = some a3 ∧ W.cell? ⟨p, 4, none⟩ = some a4 ∧ W.cell? ⟨p, 5, none⟩ = some a5 ∧ W.cell? ⟨p, 6, none⟩ = some a6 ∧ W.cell? ⟨p, 7, none⟩ = some a7 := ⟨K.c 0 _ rfl, K.c 1 _ rfl, K.c 2 _ rfl, K.c 3 _ rfl, K.c 4 _ rfl, K.c 5 _ rfl, K.c 6 _ rfl, K.c 7 _ rfl⟩
theorem Fz.f8 {W : World} {p : Nat} (K : Fz W p) : W.frozen? ⟨p, 0, none⟩ = false ∧ W.frozen? ⟨p, 1, none⟩ = false ∧ W.frozen? ⟨p, 2, none⟩ = false ∧ W.frozen? ⟨p, 3, none⟩ = false ∧ W.frozen? ⟨p, 4, none⟩ = false ∧ W.frozen? ⟨p, 5, none⟩ = false ∧ W.frozen? ⟨p, 6, none⟩ = false ∧ W.frozen? ⟨p, 7, none⟩ = false := ⟨K.2 0, K.2 1, K.2 2, K.2 3, K.2 4, K.2 5, K.2 6, K.2 7⟩
theorem Box.c16 {W : World} {p : Nat} {a0 a1 a2 a3 a4 a5 a6 a7 a8 a9 a10 a11 a12 a13 a14 a15 : Value} (K : Box W p [a0, a1, a2, a3, a4, a5, a6, a7, a8, a9, a10, a11, a12, a13, a14, a15]) : W.cell? ⟨p, 0, none⟩ = some a0 ∧ W.cell? ⟨p, 1, none⟩ = some a1 ∧ W.cell? ⟨p, 2, none⟩ = some a2 ∧ W.cell? ⟨p, 3, none⟩ = some a3 ∧ W.cell? ⟨p, 4, none⟩ = some a4 ∧ W.cell? ⟨p, 5, none⟩ = some a5 ∧ W.cell? ⟨p, 6, none⟩ = some a6 ∧ W.cell? ⟨p, 7, none⟩ = some a7 ∧ W.cell? ⟨p, 8, none⟩ = some a8 ∧ W.cell? ⟨p, 9, none⟩ = some a9 ∧ W.cell? ⟨p, 10, none⟩ = some a10 ∧ W.cell? ⟨p, 11, none⟩ = some a11 ∧ W.cell? ⟨p, 12, none⟩ = some a12 ∧ W.cell? ⟨p, 13, none⟩ = some a13 ∧ W.cell? ⟨p, 14, none⟩ = some a14 ∧ W.cell? ⟨p, 15, none⟩ = some a15 := ⟨K.c 0 _ rfl, K.c 1 _ rfl, K.c 2 _ rfl, K.c 3 _ rfl, K.c 4 _ rfl, K.c 5 _ rfl, K.c 6 _ rfl, K.c 7 _ rfl, K.c 8 _ rfl, K.c 9 _ rfl, K.c 10 _ rfl, K.c 11 _ rfl, K.c 12 _ rfl, K.c 13 _ rfl, K.c 14 _ rfl, K.c 15 _ rfl⟩
theorem Fz.f16 {W : World} {p : Nat} (K : Fz W p) : W.frozen? ⟨p, 0, none⟩ = false ∧ W.frozen? ⟨p, 1, none⟩ = false ∧ W.frozen? ⟨p, 2, none⟩ = false ∧ W.frozen? ⟨p, 3, none⟩ = false ∧ W.frozen? ⟨p, 4, none⟩ = false ∧ W.frozen? ⟨p, 5, none⟩ = false ∧ W.frozen? ⟨p, 6, none⟩ = false ∧ W.frozen? ⟨p, 7, none⟩ = false ∧ W.frozen? ⟨p, 8, none⟩ = false ∧ W.frozen? ⟨p, 9, none⟩ = false ∧ W.frozen? ⟨p, 10, none⟩ = false ∧ W.frozen? ⟨p, 11, none⟩ = false ∧ W.frozen? ⟨p, 12, none⟩ = false ∧ W.frozen? ⟨p, 13, none⟩ = false ∧ W.frozen? ⟨p, 14, none⟩ = false ∧ W.frozen? ⟨p, 15, none⟩ = false := ⟨K.2 0, K.2 1, K.2 2, K.2 3, K.2 4, K.2 5, K.2 6, K.2 7, K.2 8, K.2 9, K.2 10, K.2 11, K.2 12, K.2 13, K.2 14, K.2 15⟩
theorem Box.c24 {W : World} {p : Nat} {a0 a1 a2 a3 a4 a5 a6 a7 a8 a9 a10 a11 a12 a13 a14 a15 a16 a17 a18 a19 a20 a21 a22 a23 : Value} (K : Box W p [a0, a1, a2, a3, a4, a5, a6, a7, a8, a9, a10, a11, a12, a13, a14, a15, a16, a17, a18, a19, a20, a21, a22, a23]) : W.cell? ⟨p, 0, none⟩ = some a0 ∧ W.cell? ⟨p, 1, none⟩ = some a1 ∧ W.cell? ⟨p, 2, none⟩ = some a2 ∧ W.cell? ⟨p, 3, none⟩ = some a3 ∧ W.cell? ⟨p, 4, none⟩ = some a4 ∧ W.cell? ⟨p, 5, none⟩ = some a5 ∧ W.cell? ⟨p, 6, none⟩ = some a6 ∧ W.cell? ⟨p, 7, none⟩ = some a7 ∧ W.cell? ⟨p, 8, none⟩ = some a8 ∧ W.cell? ⟨p, 9, none⟩ = some a9 ∧ W.cell? ⟨p, 10, none⟩ = some a10 ∧ W.cell? ⟨p, 11, none⟩ = some a11 ∧ W.cell? ⟨p, 12, none⟩ = some a12 ∧ W.cell? ⟨p, 13, none⟩ = some a13 ∧ W.cell? ⟨p, 14, none⟩ = some a14 ∧ W.cell? ⟨p, 15, none⟩ = some a15 ∧ W.cell? ⟨p, 16, none⟩ = some a16 ∧ W.cell? ⟨p, 17, none⟩ = some a17 ∧ W.cell? ⟨p, 18, none⟩ = some a18 ∧ W.cell? ⟨p, 19, none⟩ = some a19 ∧ W.cell? ⟨p, 20, none⟩ = some a20 ∧ W.cell? ⟨p, 21, none⟩ = some a21 ∧ W.cell? ⟨p, 22, none⟩ = some a22 ∧ W.cell? ⟨p, 23, none⟩ = some a23 := ⟨K.c 0 _ rfl, K.c 1 _ rfl, K.c 2 _ rfl, K.c 3 _ rfl, K.c 4 _ rfl, K.c 5 _ rfl, K.c 6 _ rfl, K.c 7 _ rfl, K.c 8 _ rfl, K.c 9 _ rfl, K.c 10 _ rfl, K.c 11 _ rfl, K.c 12 _ rfl, K.c 13 _ rfl, K.c 14 _ rfl, K.c 15 _ rfl, K.c 16 _ rfl, K.c 17 _ rfl, K.c 18 _ rfl, K.c 19 _ rfl, K.c 20 _ rfl, K.c 21 _ rfl, K.c 22 _ rfl, K.c 23 _ rfl⟩
/-- The parts of a fraction's value. -/
structure Fv where
 n : Bool
 A : Option Addr
 xs : List Nat
 c : Nat
 m : Bool
 B : Option Addr
 ds : List Nat
 d : Nat
abbrev fv (f : Fv) : Value := .agg #[.bool f.n, .slice f.A f.xs.length f.c, .bool f.m, .slice f.B f.ds.length f.d]
/-- A fraction in words. -/
def Fq (W : World) (q : Rat) (f : Fv) (C : Nat) : Prop := f.m = false ∧ Lq W q f.n f.A f.xs f.c f.B f.ds f.d C
/-- A fraction in limbs. -/
def Ff (W : World) (q : Rat) (f : Fv) : Prop := f.m = false ∧ Lf W q f.n f.A f.xs f.c f.B f.ds f.d
/-- A fraction as it is handed in. -/
def Fx (W : World) (f : Fv) : Prop := Rq W f.A f.xs f.B f.ds
/-- May it be? -/
def okv (f : Fv) : Prop := Okf f.n f.xs f.m f.ds
noncomputable def chkv (f : Fv) : Int := chkF f.n f.xs f.m f.ds
/-- None. -/
def fv0 : Fv := ⟨false, none, [], 0, false, none, [], 0⟩
/-- What is answered: the fraction, or the refusal. -/
def Fr (W : World) (bad : Prop) (z : Rat) (f : Fv) (er : Int) : Prop := (¬ bad ∧ FitsQ z ∧ er = 0 ∧ Ff W z f) ∨ ((bad ∧ er = 3 ∨ ¬ bad ∧ ¬ FitsQ z ∧ er = 4) ∧ f = fv0)
def GQ (w : World) (q : Rat) (C : Nat) (e : Ending) (w' : World) : Prop := ∃ f : Fv, e = .returned (fv f) ∧ Fq w' q f C ∧ Below w.heap.size w w'
def GF (w : World) (q : Rat) (e : Ending) (w' : World) : Prop := ∃ f : Fv, e = .returned (fv f) ∧ Ff w' q f ∧ Below w.heap.size w w'
def GR (w : World) (bad : Prop) (z : Rat) (e : Ending) (w' : World) : Prop := ∃ (f : Fv) (er : Int), e = .returned (.tuple #[fv f, .int .i64 er]) ∧ Fr w' bad z f er ∧ Below w.heap.size w w'
section
variable {W W' : World} {q p z : Rat} {f g : Fv} {C C' : Nat} {er : Int} {bad : Prop}
theorem Fq.kp (h : Fq W q f C) (k : Kept W W') : Fq W' q f C := ⟨h.1, h.2.kp k⟩
theorem Ff.kp (h : Ff W q f) (k : Kept W W') : Ff W' q f := ⟨h.1, h.2.kp k⟩
theorem Fx.kp (h : Fx W f) (k : Kept W W') : Fx W' f := Rq.kp h k
theorem Fr.kp (h : Fr W bad z f er) (k : Kept W W') : Fr W' bad z f er := by
 rcases h with ⟨h1, h2, h3, h4⟩ | h
 ·exact .inl ⟨h1, h2, h3, h4.kp k⟩
 ·exact .inr h
theorem Fq.mono (h : Fq W q f C) (hC : C ≤ C') : Fq W q f C' := ⟨h.1, h.2.mono hC⟩
theorem Fq.to (h : Fq W q f C) (e : q = p) : Fq W p f C := e ▸ h
theorem Ff.to (h : Ff W q f) (e : q = p) : Ff W p f := e ▸ h
theorem Fr.to (h : Fr W bad q f er) (e : q = p) : Fr W bad p f er := e ▸ h
theorem Ff.fits (h : Ff W q f) : FitsQ q := h.2.fitsQ
theorem Fr.yes (h : Fr W bad z f er) (hb : ¬ bad) (hf : FitsQ z) : er = 0 ∧ Ff W z f := by
 rcases h with ⟨_, _, h, k⟩ | ⟨⟨h, _⟩ | ⟨_, h, _⟩, _⟩
 ·exact ⟨h, k⟩
 ·exact absurd h hb
 ·exact absurd hf h
theorem Fr.ff (h : Fr W bad z f er) (he : er = 0) : Ff W z f := by
 rcases h with ⟨_, _, _, h⟩ | ⟨⟨_, h⟩ | ⟨_, _, h⟩, _⟩
 ·exact h
 ·omega
 ·omega
theorem Ff.okv (h : Ff W q f) : okv f := by
 obtain ⟨hm, h⟩ := h
 have := h.okf
 show Okf f.n f.xs f.m f.ds
 rw [hm]
 exact this
theorem Ff.fx (h : Ff W q f) : Fx W f := h.2.rq
theorem okv.ff (h : okv f) (r : Fx W f) : ∃ q : Rat, Ff W q f := by
 obtain ⟨q, hq⟩ := Okf.lf h r
 exact ⟨q, h.pos, hq⟩
theorem chkv_ok (h : okv f) : chkv f = 0 := chkF_ok h
theorem chkv_zero (h : chkv f = 0) : okv f := chkF_zero h
theorem GR.of {e : Ending} (h : ReckF W bad z e W') : GR W bad z e W' := by
 obtain ⟨n, A, xs, c, m, B, ds, d, er, rfl, ⟨h1, h2, h3, rfl, h4⟩ | ⟨h1, rfl, rfl, rfl, rfl, rfl, rfl, rfl, rfl⟩, hb⟩ := h
 ·exact ⟨⟨n, A, xs, c, false, B, ds, d⟩, er, rfl, .inl ⟨h1, h2, h3, rfl, h4⟩, hb⟩
 ·exact ⟨fv0, er, rfl, .inr ⟨h1, rfl⟩, hb⟩
theorem q_add (h : Fq W q f C) (k : Fq W p g C) (hC : C ≤ 1759218604390) : Calls Tryz.prog 66 #[fv f, fv g] W (GQ W (q + p) (2 * C + 4)) := by
 obtain ⟨n, A, xs, c, m, B, ds, d⟩ := f
 obtain ⟨n', A', ys, c', m', B', es, d'⟩ := g
 obtain ⟨rfl, h⟩ := h
 obtain ⟨rfl, k⟩ := k
 refine (fadd_any q p n n' A B A' B' xs ds ys es c d c' d' C W h k hC).mono ?_
 rintro _ _ ⟨n, A, xs, c, B, ds, d, rfl, hL, hb⟩
 exact ⟨⟨n, A, xs, c, false, B, ds, d⟩, rfl, ⟨rfl, hL⟩, hb⟩
theorem q_mul (h : Fq W q f C) (k : Fq W p g C) (hC : C ≤ 1759218604390) : Calls Tryz.prog 85 #[fv f, fv g] W (GQ W (q * p) (2 * C + 2)) := by
 obtain ⟨n, A, xs, c, m, B, ds, d⟩ := f
 obtain ⟨n', A', ys, c', m', B', es, d'⟩ := g
 obtain ⟨rfl, h⟩ := h
 obtain ⟨rfl, k⟩ := k
 refine (fmul_any q p n n' A B A' B' xs ds ys es c d c' d' C W h k hC).mono ?_
 rintro _ _ ⟨n, A, xs, c, B, ds, d, rfl, hL, hb⟩
 exact ⟨⟨n, A, xs, c, false, B, ds, d⟩, rfl, ⟨rfl, hL⟩, hb⟩
theorem q_neg (h : Fq W q f C) (hC : C ≤ 1759218604390) : Calls Tryz.prog 86 #[fv f] W (GQ W (-q) C) := by
 obtain ⟨n, A, xs, c, m, B, ds, d⟩ := f
 obtain ⟨rfl, h⟩ := h
 refine (fneg_any q n A B xs ds c d C W h (by omega)).mono ?_
 rintro _ _ ⟨n, A, xs, c, B, ds, d, rfl, hL, hb⟩
 exact ⟨⟨n, A, xs, c, false, B, ds, d⟩, rfl, ⟨rfl, hL⟩, hb⟩
theorem q_fit (h : Fq W q f C) (hC : C ≤ 1759218604390) : Calls Tryz.prog 80 #[fv f] W (GR W False q) := by
 obtain ⟨n, A, xs, c, m, B, ds, d⟩ := f
 obtain ⟨rfl, h⟩ := h
 refine (ffit_any q n A B xs ds c d C W h hC).mono ?_
 rintro _ _ ⟨n, A, xs, c, m, B, ds, d, er, rfl, ⟨h1, h2, rfl, h3⟩ | ⟨h1, h2, rfl, rfl, rfl, rfl, rfl, rfl, rfl, rfl⟩, hb⟩
 ·exact ⟨⟨n, A, xs, c, false, B, ds, d⟩, er, rfl, .inl ⟨not_false, h1, h2, rfl, h3⟩, hb⟩
 ·exact ⟨fv0, er, rfl, .inr ⟨.inr ⟨not_false, h1, h2⟩, rfl⟩, hb⟩
theorem q_from (h : Ff W q f) : Calls Tryz.prog 45 #[fv f] W (GQ W q 1024) := by
 obtain ⟨n, A, xs, c, m, B, ds, d⟩ := f
 obtain ⟨rfl, h⟩ := h
 refine (ffrom_any q n A B xs ds c d W h).mono ?_
 rintro _ _ ⟨n, A, xs, c, B, ds, d, rfl, hL, hb⟩
 exact ⟨⟨n, A, xs, c, false, B, ds, d⟩, rfl, ⟨rfl, hL⟩, hb⟩
theorem r_same (h : Ff W q f) (k : Ff W p g) : Calls Tryz.prog 23 #[fv f, fv g] W (fun e w' => e = .returned (.bool (decide (q = p))) ∧ Below W.heap.size W w') := by
 obtain ⟨n, A, xs, c, m, B, ds, d⟩ := f
 obtain ⟨n', A', ys, c', m', B', es, d'⟩ := g
 obtain ⟨rfl, h⟩ := h
 obtain ⟨rfl, k⟩ := k
 exact same_frac q p n n' A B A' B' xs ds ys es c d c' d' W h k
theorem r_check (h : Fx W f) : Calls Tryz.prog 41 #[fv f] W (fun e w' => e = .returned (.int .i64 (chkv f)) ∧ Below W.heap.size W w') := by
 obtain ⟨n, A, xs, c, m, B, ds, d⟩ := f
 exact fcheck_any n m A B xs ds c d W h
theorem r_of (X Y : Int) (W : World) (h0 : -9223372036854775808 ≤ X) (h1 : X ≤ 9223372036854775807) (k0 : -9223372036854775808 ≤ Y) (k1 : Y ≤ 9223372036854775807) :
  Calls Tryz.prog 58 #[.int .i64 X, .int .i64 Y] W (GR W (Y = 0) (Rat.divInt X Y)) := (frac_of X Y W h0 h1 k0 k1).mono (fun _ _ h => GR.of h)
end
end Go.Proofs.YtjamfkafgfpobaaGreat
namespace Go.Proofs.YtjamfkafgfpobaaGreat
open Go.RowKit Nb
theorem rat_int (n : Int) : Rat.divInt n 1 = (n : Rat) := by rw [Rat.divInt_eq_div]; grind
theorem int_num (n : Int) : (n : Rat).num = n := rfl
theorem int_den (n : Int) : (n : Rat).den = 1 := rfl
theorem fits_int {n : Int} (h : n.natAbs < 2 ^ 100) : FitsQ (n : Rat) := ⟨by rw [int_num]; exact fits_low h, by rw [int_den]; exact fits_low (by decide)⟩
theorem f_int {n : Int} {w : World} (h0 : -9223372036854775808 ≤ n) (h1 : n ≤ 9223372036854775807) :
  Calls Tryz.prog 58 #[.int .i64 n, .int .i64 1] w fun e w' => ∃ f : Fv, e = .returned (.tuple #[fv f, .int .i64 0]) ∧ Ff w' (n : Rat) f ∧ Below w.heap.size w w' := by
 refine (r_of n 1 w h0 h1 (by decide) (by decide)).mono ?_
 rintro _ w1 ⟨f, er, rfl, h, hb⟩
 rw [rat_int] at h
 obtain ⟨rfl, k⟩ := h.yes (by decide) (fits_int (by omega))
 exact ⟨f, rfl, k, hb⟩
section
variable {k l : Nat} {a b : Int} {z y s t : Rat}
theorem bd_mul (ha : a.natAbs ≤ 2 ^ k) (hb : b.natAbs ≤ 2 ^ l) : (a * b).natAbs ≤ 2 ^ (k + l) := by
  rw [Int.natAbs_mul, Nat.pow_add]; exact Nat.mul_le_mul ha hb
theorem bd_add (ha : a.natAbs ≤ 2 ^ k) (hb : b.natAbs ≤ 2 ^ k) : (a + b).natAbs ≤ 2 ^ (k + 1) := by
  have := Int.natAbs_add_le a b
  rw [Nat.pow_succ]; omega
theorem bd_sub (ha : a.natAbs ≤ 2 ^ k) (hb : b.natAbs ≤ 2 ^ k) : (a - b).natAbs ≤ 2 ^ (k + 1) := by
  rw [Int.sub_eq_add_neg]; exact bd_add ha (by rw [Int.natAbs_neg]; exact hb)
theorem bd_mono (ha : a.natAbs ≤ 2 ^ k) (h : k ≤ l) : a.natAbs ≤ 2 ^ l := Nat.le_trans ha (Nat.pow_le_pow_right (by decide) h)
/-- A fraction of whole numbers of k binary digits. -/
def Hq (k : Nat) (z : Rat) : Prop := ∃ (D a : Int), 0 < D ∧ z * (D : Rat) = (a : Rat) ∧ D.natAbs ≤ 2 ^ k ∧ a.natAbs ≤ 2 ^ k
/-- Two of them, by one denominator. -/
def Hg (k : Nat) (z y : Rat) : Prop := ∃ (D a b : Int), 0 < D ∧ z * (D : Rat) = (a : Rat) ∧ y * (D : Rat) = (b : Rat) ∧ D.natAbs ≤ 2 ^ k ∧ a.natAbs ≤ 2 ^ k ∧ b.natAbs ≤ 2 ^ k
theorem rat_whole (z : Rat) : z * ((z.den : Int) : Rat) = (z.num : Rat) := by
  have h : z = (z.num : Rat) / ((z.den : Int) : Rat) := by
    conv => lhs; rw [← Rat.num_divInt_den z, Rat.divInt_eq_div]
  have hd : ((z.den : Int) : Rat) ≠ 0 := fun e => z.den_nz (by
    have e2 : ((z.den : Int) : Rat) = ((0 : Int) : Rat) := e
    have := Rat.intCast_inj.1 e2
    omega)
  generalize ((z.den : Int) : Rat) = d at *
  generalize (z.num : Rat) = n at *
  subst h
  grind
theorem Hq.parts (h : Hq k z) : z.den ≤ 2 ^ k ∧ z.num.natAbs ≤ 2 ^ k := by
  obtain ⟨D, a, hD, he, bD, ba⟩ := h
  have h1 := rat_whole z
  have h2 : ((z.num * D : Int) : Rat) = ((a * (z.den : Int) : Int) : Rat) := by
    rw [Rat.intCast_mul, Rat.intCast_mul, ← h1, ← he]; grind
  have h3 := Rat.intCast_inj.1 h2
  have h4 : z.num.natAbs * D.natAbs = a.natAbs * z.den := by
    have := congrArg Int.natAbs h3
    rwa [Int.natAbs_mul, Int.natAbs_mul, Int.natAbs_natCast] at this
  have h5 : z.den ∣ D.natAbs := by
    refine Nat.Coprime.dvd_of_dvd_mul_left (k := z.den) (m := z.num.natAbs) z.reduced.symm ?_
    rw [h4]; exact Nat.dvd_mul_left _ _
  have hDp : 0 < D.natAbs := by omega
  refine ⟨Nat.le_trans (Nat.le_of_dvd hDp h5) bD, ?_⟩
  obtain ⟨m, hm⟩ := h5
  have hmp : 0 < m := Nat.pos_of_ne_zero fun e => by rw [e] at hm; omega
  have h6 : z.num.natAbs * m = a.natAbs := by
    have := h4
    rw [hm, show z.num.natAbs * (z.den * m) = (z.num.natAbs * m) * z.den by grind] at this
    exact Nat.eq_of_mul_eq_mul_right z.den_pos this
  refine Nat.le_trans ?_ ba
  rw [← h6]
  exact Nat.le_mul_of_pos_right _ hmp
theorem pow_32 (n : Nat) : W32 ^ n = 2 ^ (32 * n) := by rw [show W32 = 2 ^ 32 from rfl, ← Nat.pow_mul]
theorem pow_lt_w (n : Nat) (hk : k < 32 * n) : 2 ^ k < W32 ^ n := by rw [pow_32]; exact Nat.pow_lt_pow_right (by decide) hk
theorem Hq.fits (h : Hq k z) (hk : k < 65536) : FitsQ z := by
  obtain ⟨h1, h2⟩ := h.parts
  have h3 := pow_lt_w (k := k) 2048 (by omega)
  refine ⟨?_, ?_⟩
  · unfold Fits; exact Nat.lt_of_le_of_lt h2 h3
  · unfold Fits; rw [Int.natAbs_natCast]; exact Nat.lt_of_le_of_lt h1 h3
theorem Hg.add (h : Hg k z y) (g : Hg l s t) : Hg (k + l + 1) (z + s) (y + t) := by
  obtain ⟨D, a, b, h0, h1, h2, h3, h4, h5⟩ := h
  obtain ⟨E, c, d, g0, g1, g2, g3, g4, g5⟩ := g
  refine ⟨D * E, a * E + c * D, b * E + d * D, Int.mul_pos h0 g0, ?_, ?_, bd_mono (bd_mul h3 g3) (by omega), bd_add (bd_mul h4 g3) (by have := bd_mul g4 h3; rwa [Nat.add_comm] at this), bd_add (bd_mul h5 g3) (by have := bd_mul g5 h3; rwa [Nat.add_comm] at this)⟩
  · simp only [Rat.intCast_mul, Rat.intCast_add]; rw [← h1, ← g1]; grind
  · simp only [Rat.intCast_mul, Rat.intCast_add]; rw [← h2, ← g2]; grind
theorem Hg.neg (h : Hg k z y) : Hg k z (-y) := by
  obtain ⟨D, a, b, h0, h1, h2, h3, h4, h5⟩ := h
  refine ⟨D, a, -b, h0, h1, ?_, h3, h4, by rw [Int.natAbs_neg]; exact h5⟩
  rw [Rat.intCast_neg, ← h2]; grind
theorem Hg.mul (h : Hg k z y) (g : Hg l s t) : Hg (k + l + 1) (z * s - y * t) (z * t + y * s) := by
  obtain ⟨D, a, b, h0, h1, h2, h3, h4, h5⟩ := h
  obtain ⟨E, c, d, g0, g1, g2, g3, g4, g5⟩ := g
  refine ⟨D * E, a * c - b * d, a * d + b * c, Int.mul_pos h0 g0, ?_, ?_, bd_mono (bd_mul h3 g3) (by omega), bd_sub (bd_mul h4 g4) (bd_mul h5 g5), bd_add (bd_mul h4 g5) (bd_mul h5 g4)⟩
  · simp only [Rat.intCast_mul, Rat.intCast_sub]; rw [← h1, ← g1, ← h2, ← g2]; grind
  · simp only [Rat.intCast_mul, Rat.intCast_add]; rw [← h1, ← g1, ← h2, ← g2]; grind
theorem Hq.mul (h : Hq k z) (g : Hq l s) : Hq (k + l) (z * s) := by
  obtain ⟨D, a, h0, h1, h2, h3⟩ := h
  obtain ⟨E, c, g0, g1, g2, g3⟩ := g
  refine ⟨D * E, a * c, Int.mul_pos h0 g0, ?_, bd_mul h2 g2, bd_mul h3 g3⟩
  simp only [Rat.intCast_mul]; rw [← h1, ← g1]; grind
theorem Hq.add (h : Hq k z) (g : Hq l s) : Hq (k + l + 1) (z + s) := by
  obtain ⟨D, a, h0, h1, h2, h3⟩ := h
  obtain ⟨E, c, g0, g1, g2, g3⟩ := g
  refine ⟨D * E, a * E + c * D, Int.mul_pos h0 g0, ?_, bd_mono (bd_mul h2 g2) (by omega), bd_add (bd_mul h3 g2) (by have := bd_mul g3 h2; rwa [Nat.add_comm] at this)⟩
  simp only [Rat.intCast_mul, Rat.intCast_add]; rw [← h1, ← g1]; grind
theorem Hq.one : Hq 0 1 := ⟨1, 1, by decide, by decide +kernel, by decide, by decide⟩
theorem Hq.pair (h : Hq k z) (g : Hq l y) : Hg (k + l) z y := by
  obtain ⟨D, a, h0, h1, h2, h3⟩ := h
  obtain ⟨E, c, g0, g1, g2, g3⟩ := g
  refine ⟨D * E, a * E, c * D, Int.mul_pos h0 g0, ?_, ?_, bd_mul h2 g2, bd_mul h3 g2, by have := bd_mul g3 h2; rwa [Nat.add_comm] at this⟩
  · simp only [Rat.intCast_mul]; rw [← h1]; grind
  · simp only [Rat.intCast_mul]; rw [← g1]; grind
theorem Hg.mono (h : Hg k z y) (hk : k ≤ l) : Hg l z y := by
  obtain ⟨D, a, b, h0, h1, h2, h3, h4, h5⟩ := h
  exact ⟨D, a, b, h0, h1, h2, bd_mono h3 hk, bd_mono h4 hk, bd_mono h5 hk⟩
theorem Hq.mono (h : Hq k z) (hk : k ≤ l) : Hq l z := by
  obtain ⟨D, a, h0, h1, h3, h4⟩ := h
  exact ⟨D, a, h0, h1, bd_mono h3 hk, bd_mono h4 hk⟩
theorem Ff.hq {w : World} {q : Rat} {f : Fv} (h : Ff w q f) : Hq (32 * (f.xs.length + f.ds.length)) q := by
  have h1 := val_lt h.2.num.lm.dig
  have h2 := val_lt h.2.den.lm.dig
  rw [h.2.num_val, pow_32] at h1
  rw [h.2.den_val, pow_32] at h2
  refine ⟨(q.den : Int), q.num, by have := q.den_pos; omega, rat_whole q, ?_, bd_mono (Nat.le_of_lt h1) (by omega)⟩
  rw [Int.natAbs_natCast]
  exact Nat.le_trans (Nat.le_of_lt h2) (Nat.pow_le_pow_right (by decide) (by omega))
end
end Go.Proofs.YtjamfkafgfpobaaGreat
namespace Go.Proofs.YtjamfkafgfpobaaGreat
open Go.RowKit Nb
/-- A matrix in fractions. -/
structure Mq where
 a : Rat
 b : Rat
 c : Rat
 d : Rat
/-- A ray in fractions. -/
structure Yq where
 y : Rat
 u : Rat
theorem Mq.ext4 {m n : Mq} (h1 : m.a = n.a) (h2 : m.b = n.b) (h3 : m.c = n.c) (h4 : m.d = n.d) : m = n := by
 cases m; cases n; simp_all
def Mq.mul (m n : Mq) : Mq := ⟨m.a * n.a + m.b * n.c, m.a * n.b + m.b * n.d, m.c * n.a + m.d * n.c, m.c * n.b + m.d * n.d⟩
def Mq.one : Mq := ⟨1, 0, 0, 1⟩
def Mq.det (m : Mq) : Rat := m.a * m.d - m.b * m.c
def Mq.thr (m : Mq) (r : Yq) : Yq := ⟨m.a * r.y + m.b * r.u, m.c * r.y + m.d * r.u⟩
section
variable {m n o : Mq} {r s : Yq}
end
/-- A matrix of whole numbers of k binary digits over one denominator. -/
def Hm (k : Nat) (m : Mq) : Prop := ∃ (D A B C E : Int), 0 < D ∧ (m.a * (D : Rat) = (A : Rat) ∧ m.b * (D : Rat) = (B : Rat) ∧ m.c * (D : Rat) = (C : Rat) ∧ m.d * (D : Rat) = (E : Rat)) ∧ D.natAbs ≤ 2 ^ k ∧ A.natAbs ≤ 2 ^ k ∧ B.natAbs ≤ 2 ^ k ∧ C.natAbs ≤ 2 ^ k ∧ E.natAbs ≤ 2 ^ k
def Hy (k : Nat) (r : Yq) : Prop := ∃ (D A B : Int), 0 < D ∧ (r.y * (D : Rat) = (A : Rat) ∧ r.u * (D : Rat) = (B : Rat)) ∧ D.natAbs ≤ 2 ^ k ∧ A.natAbs ≤ 2 ^ k ∧ B.natAbs ≤ 2 ^ k
section
variable {k l : Nat} {m n o : Mq} {r s : Yq} {z y : Rat}
theorem Hm.ha (h : Hm k m) : Hq k m.a := by obtain ⟨D, A, B, C, E, h0, ⟨h1, h2, h3, h4⟩, hD, hA, hB, hC, hE⟩ := h; exact ⟨D, A, h0, h1, hD, hA⟩
theorem Hm.hb (h : Hm k m) : Hq k m.b := by obtain ⟨D, A, B, C, E, h0, ⟨h1, h2, h3, h4⟩, hD, hA, hB, hC, hE⟩ := h; exact ⟨D, B, h0, h2, hD, hB⟩
theorem Hm.hc (h : Hm k m) : Hq k m.c := by obtain ⟨D, A, B, C, E, h0, ⟨h1, h2, h3, h4⟩, hD, hA, hB, hC, hE⟩ := h; exact ⟨D, C, h0, h3, hD, hC⟩
theorem Hm.hd (h : Hm k m) : Hq k m.d := by obtain ⟨D, A, B, C, E, h0, ⟨h1, h2, h3, h4⟩, hD, hA, hB, hC, hE⟩ := h; exact ⟨D, E, h0, h4, hD, hE⟩
theorem Hy.hy (h : Hy k r) : Hq k r.y := by obtain ⟨D, A, B, h0, ⟨h1, h2⟩, hD, hA, hB⟩ := h; exact ⟨D, A, h0, h1, hD, hA⟩
theorem Hy.hu (h : Hy k r) : Hq k r.u := by obtain ⟨D, A, B, h0, ⟨h1, h2⟩, hD, hA, hB⟩ := h; exact ⟨D, B, h0, h2, hD, hB⟩
theorem Hm.one : Hm 0 Mq.one := ⟨1, 1, 0, 0, 1, by decide, ⟨by decide +kernel, by decide +kernel, by decide +kernel, by decide +kernel⟩, by decide, by decide, by decide, by decide, by decide⟩
theorem Hm.mul (h : Hm k m) (g : Hm l n) : Hm (k + l + 1) (m.mul n) := by
 obtain ⟨D, A, B, C, E, h0, ⟨h1, h2, h3, h4⟩, hD, hA, hB, hC, hE⟩ := h
 obtain ⟨D', A', B', C', E', g0, ⟨g1, g2, g3, g4⟩, gD, gA, gB, gC, gE⟩ := g
 refine ⟨D * D', A * A' + B * C', A * B' + B * E', C * A' + E * C', C * B' + E * E', Int.mul_pos h0 g0, ⟨?_, ?_, ?_, ?_⟩, bd_mono (bd_mul hD gD) (by omega), bd_add (bd_mul hA gA) (bd_mul hB gC), bd_add (bd_mul hA gB) (bd_mul hB gE), bd_add (bd_mul hC gA) (bd_mul hE gC), bd_add (bd_mul hC gB) (bd_mul hE gE)⟩
 ·simp only [Rat.intCast_mul, Rat.intCast_add, Mq.mul]; rw [← h1, ← h2, ← g1, ← g3]; grind
 ·simp only [Rat.intCast_mul, Rat.intCast_add, Mq.mul]; rw [← h1, ← h2, ← g2, ← g4]; grind
 ·simp only [Rat.intCast_mul, Rat.intCast_add, Mq.mul]; rw [← h3, ← h4, ← g1, ← g3]; grind
 ·simp only [Rat.intCast_mul, Rat.intCast_add, Mq.mul]; rw [← h3, ← h4, ← g2, ← g4]; grind
theorem Hm.thr (h : Hm k m) (g : Hy l r) : Hy (k + l + 1) (m.thr r) := by
 obtain ⟨D, A, B, C, E, h0, ⟨h1, h2, h3, h4⟩, hD, hA, hB, hC, hE⟩ := h
 obtain ⟨D', A', B', g0, ⟨g1, g2⟩, gD, gA, gB⟩ := g
 refine ⟨D * D', A * A' + B * B', C * A' + E * B', Int.mul_pos h0 g0, ⟨?_, ?_⟩, bd_mono (bd_mul hD gD) (by omega), bd_add (bd_mul hA gA) (bd_mul hB gB), bd_add (bd_mul hC gA) (bd_mul hE gB)⟩
 ·simp only [Rat.intCast_mul, Rat.intCast_add, Mq.thr]; rw [← h1, ← h2, ← g1, ← g2]; grind
 ·simp only [Rat.intCast_mul, Rat.intCast_add, Mq.thr]; rw [← h3, ← h4, ← g1, ← g2]; grind
theorem Hg.hy (h : Hg k r.y r.u) : Hy k r := by
 obtain ⟨D, a, b, h0, h1, h2, h3, h4, h5⟩ := h
 exact ⟨D, a, b, h0, ⟨h1, h2⟩, h3, h4, h5⟩
theorem Hg.hm (h : Hg k m.a m.b) (g : Hg l m.c m.d) : Hm (k + l) m := by
 obtain ⟨D, a, b, h0, h1, h2, h3, h4, h5⟩ := h
 obtain ⟨E, c, d, g0, g1, g2, g3, g4, g5⟩ := g
 refine ⟨D * E, a * E, b * E, D * c, D * d, Int.mul_pos h0 g0, ⟨?_, ?_, ?_, ?_⟩, bd_mul h3 g3, bd_mul h4 g3, bd_mul h5 g3, bd_mul h3 g4, bd_mul h3 g5⟩
 ·rw [Rat.intCast_mul, Rat.intCast_mul, ← h1]; grind
 ·rw [Rat.intCast_mul, Rat.intCast_mul, ← h2]; grind
 ·rw [Rat.intCast_mul, Rat.intCast_mul, ← g1]; grind
 ·rw [Rat.intCast_mul, Rat.intCast_mul, ← g2]; grind
theorem Hm.mono (h : Hm k m) (hk : k ≤ l) : Hm l m := by
 obtain ⟨D, A, B, C, E, h0, h1, hD, hA, hB, hC, hE⟩ := h
 exact ⟨D, A, B, C, E, h0, h1, bd_mono hD hk, bd_mono hA hk, bd_mono hB hk, bd_mono hC hk, bd_mono hE hk⟩
theorem Hy.mono (h : Hy k r) (hk : k ≤ l) : Hy l r := by
 obtain ⟨D, A, B, h0, h1, hD, hA, hB⟩ := h
 exact ⟨D, A, B, h0, h1, bd_mono hD hk, bd_mono hA hk, bd_mono hB hk⟩
end
/-- The parts of a matrix's value, of a ray's. -/
structure Mv where
 A : Fv
 B : Fv
 C : Fv
 D : Fv
structure Yv where
 Y : Fv
 U : Fv
/-- A matrix, a ray, in limbs; as they are handed in. -/
def Fm (W : World) (q : Mq) (m : Mv) : Prop := Ff W q.a m.A ∧ Ff W q.b m.B ∧ Ff W q.c m.C ∧ Ff W q.d m.D
def Fy (W : World) (q : Yq) (r : Yv) : Prop := Ff W q.y r.Y ∧ Ff W q.u r.U
def Xm (W : World) (m : Mv) : Prop := Fx W m.A ∧ Fx W m.B ∧ Fx W m.C ∧ Fx W m.D
def Xy (W : World) (r : Yv) : Prop := Fx W r.Y ∧ Fx W r.U
abbrev mv (m : Mv) : Value := .agg #[.bool m.A.n, .slice m.A.A m.A.xs.length m.A.c, .bool m.A.m, .slice m.A.B m.A.ds.length m.A.d, .bool m.B.n, .slice m.B.A m.B.xs.length m.B.c, .bool m.B.m, .slice m.B.B m.B.ds.length m.B.d, .bool m.C.n, .slice m.C.A m.C.xs.length m.C.c, .bool m.C.m, .slice m.C.B m.C.ds.length m.C.d, .bool m.D.n, .slice m.D.A m.D.xs.length m.D.c, .bool m.D.m, .slice m.D.B m.D.ds.length m.D.d]
abbrev yv (r : Yv) : Value := .agg #[.bool r.Y.n, .slice r.Y.A r.Y.xs.length r.Y.c, .bool r.Y.m, .slice r.Y.B r.Y.ds.length r.Y.d, .bool r.U.n, .slice r.U.A r.U.xs.length r.U.c, .bool r.U.m, .slice r.U.B r.U.ds.length r.U.d]
def mv0 : Mv := ⟨fv0, fv0, fv0, fv0⟩
def yv0 : Yv := ⟨fv0, fv0⟩
def msz (m : Mv) : Int := 8 + (m.A.xs.length : Int) + (m.A.ds.length : Int) + (m.B.xs.length : Int) + (m.B.ds.length : Int) + (m.C.xs.length : Int) + (m.C.ds.length : Int) + (m.D.xs.length : Int) + (m.D.ds.length : Int)
def ysz (r : Yv) : Int := 4 + (r.Y.xs.length : Int) + (r.Y.ds.length : Int) + (r.U.xs.length : Int) + (r.U.ds.length : Int)
section
variable {W W' : World} {q p : Mq} {r s : Yq} {m : Mv} {y : Yv}
theorem Fm.kp (h : Fm W q m) (k : Kept W W') : Fm W' q m := ⟨h.1.kp k, h.2.1.kp k, h.2.2.1.kp k, h.2.2.2.kp k⟩
theorem Fy.kp (h : Fy W r y) (k : Kept W W') : Fy W' r y := ⟨h.1.kp k, h.2.kp k⟩
theorem Xm.kp (h : Xm W m) (k : Kept W W') : Xm W' m := ⟨h.1.kp k, h.2.1.kp k, h.2.2.1.kp k, h.2.2.2.kp k⟩
theorem Xy.kp (h : Xy W y) (k : Kept W W') : Xy W' y := ⟨h.1.kp k, h.2.kp k⟩
theorem Fm.to (h : Fm W q m) (e : q = p) : Fm W p m := e ▸ h
theorem Fy.to (h : Fy W r y) (e : r = s) : Fy W s y := e ▸ h
theorem Fm.xm (h : Fm W q m) : Xm W m := ⟨h.1.fx, h.2.1.fx, h.2.2.1.fx, h.2.2.2.fx⟩
theorem Fm.hm (h : Fm W q m) (hs : msz m ≤ 600) : Hm 18944 q :=
 (Hg.hm (h.1.hq.pair h.2.1.hq) (h.2.2.1.hq.pair h.2.2.2.hq)).mono (by unfold msz at hs; omega)
theorem Fy.hy (h : Fy W r y) (hs : ysz y ≤ 300) : Hy 9472 r :=
 (Hg.hy (h.1.hq.pair h.2.hq)).mono (by unfold ysz at hs; omega)
end
/-- All four of them may be. -/
def okm (m : Mv) : Prop := okv m.A ∧ okv m.B ∧ okv m.C ∧ okv m.D
theorem okm.fm {W : World} {m : Mv} (h : okm m) (r : Xm W m) : ∃ q : Mq, Fm W q m := by
 obtain ⟨a, ha⟩ := h.1.ff r.1
 obtain ⟨b, hb⟩ := h.2.1.ff r.2.1
 obtain ⟨c, hc⟩ := h.2.2.1.ff r.2.2.1
 obtain ⟨d, hd⟩ := h.2.2.2.ff r.2.2.2
 exact ⟨⟨a, b, c, d⟩, ha, hb, hc, hd⟩
theorem Fm.okm {W : World} {q : Mq} {m : Mv} (h : Fm W q m) : okm m := ⟨h.1.okv, h.2.1.okv, h.2.2.1.okv, h.2.2.2.okv⟩
/-- All parts fit. -/
def FitsM (q : Mq) : Prop := FitsQ q.a ∧ FitsQ q.b ∧ FitsQ q.c ∧ FitsQ q.d
def FitsY (r : Yq) : Prop := FitsQ r.y ∧ FitsQ r.u
theorem Hm.fits {k : Nat} {q : Mq} (h : Hm k q) (hk : k < 65536) : FitsM q := ⟨h.ha.fits hk, h.hb.fits hk, h.hc.fits hk, h.hd.fits hk⟩
theorem Hy.fits {k : Nat} {r : Yq} (h : Hy k r) (hk : k < 65536) : FitsY r := ⟨h.hy.fits hk, h.hu.fits hk⟩
theorem Fm.fits {W : World} {q : Mq} {m : Mv} (h : Fm W q m) : FitsM q := ⟨h.1.fits, h.2.1.fits, h.2.2.1.fits, h.2.2.2.fits⟩
theorem Fy.fits {W : World} {r : Yq} {y : Yv} (h : Fy W r y) : FitsY r := ⟨h.1.fits, h.2.fits⟩
end Go.Proofs.YtjamfkafgfpobaaGreat
