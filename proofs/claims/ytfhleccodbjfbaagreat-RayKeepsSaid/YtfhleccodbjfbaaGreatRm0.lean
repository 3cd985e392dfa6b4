/-
  Matrices and rays of fractions: what is reckoned with them, how great their parts grow, where their words lie. No conditions.
-/
import Derived.Test.YtfhleccodbjfbaaGreatHt0
namespace Go.Proofs.YtfhleccodbjfbaaGreat
open Go.RowKit Nb
/-- A matrix in fractions. -/
structure Mq where
 a : Rat
 b : Rat
 c : Rat
 d : Rat
/-- A ray in fractions. -/
structure Yq where
 y : Rat
 u : Rat
theorem Mq.ext4 {m n : Mq} (h1 : m.a = n.a) (h2 : m.b = n.b) (h3 : m.c = n.c) (h4 : m.d = n.d) : m = n := by
 cases m; cases n; simp_all
theorem Yq.ext2 {m n : Yq} (h1 : m.y = n.y) (h2 : m.u = n.u) : m = n := by
 cases m; cases n; simp_all
def Mq.mul (m n : Mq) : Mq := ⟨m.a * n.a + m.b * n.c, m.a * n.b + m.b * n.d, m.c * n.a + m.d * n.c, m.c * n.b + m.d * n.d⟩
def Mq.one : Mq := ⟨1, 0, 0, 1⟩
def Mq.back (m : Mq) : Mq := ⟨m.d, -m.b, -m.c, m.a⟩
def Mq.mir (m : Mq) : Mq := ⟨m.d, m.b, m.c, m.a⟩
def Mq.tr (m : Mq) : Rat := m.a + m.d
def Mq.det (m : Mq) : Rat := m.a * m.d - m.b * m.c
def Mq.thr (m : Mq) (r : Yq) : Yq := ⟨m.a * r.y + m.b * r.u, m.c * r.y + m.d * r.u⟩
def Yq.cross (r s : Yq) : Rat := r.y * s.u - s.y * r.u
def Yq.turn (r : Yq) : Yq := ⟨r.y, -r.u⟩
section
variable {m n o : Mq} {r s : Yq}
theorem Mq.det_mul (h : m.det = 1) (k : n.det = 1) : (m.mul n).det = 1 := by
 simp only [Mq.mul, Mq.det] at *; grind
theorem Mq.det_back (h : m.det = 1) : m.back.det = 1 := by simp only [Mq.back, Mq.det] at *; grind
theorem Mq.det_mir (h : m.det = 1) : m.mir.det = 1 := by simp only [Mq.mir, Mq.det] at *; grind
theorem Mq.tr_two : (n.mul m).tr = (m.mul n).tr := by simp only [Mq.mul, Mq.tr]; grind
theorem Mq.square (h : m.det = 1) : m.mul m = ⟨m.tr * m.a - 1, m.tr * m.b, m.tr * m.c, m.tr * m.d - 1⟩ := by
 simp only [Mq.det] at h
 apply Mq.ext4 <;> simp only [Mq.mul, Mq.tr] <;> grind
theorem Mq.cross_thr (h : m.det = 1) : (m.thr r).cross (m.thr s) = r.cross s := by
 simp only [Mq.det, Mq.thr, Yq.cross] at *; grind
theorem Mq.thr_two : (n.mul m).thr r = n.thr (m.thr r) := by
 apply Yq.ext2 <;> simp only [Mq.mul, Mq.thr] <;> grind
theorem Mq.thr_back (h : m.det = 1) : m.back.thr (m.thr r) = r := by
 simp only [Mq.det] at h
 apply Yq.ext2 <;> simp only [Mq.back, Mq.thr] <;> grind
theorem Mq.thr_mir (h : m.det = 1) : m.mir.thr (m.thr r).turn = r.turn := by
 simp only [Mq.det] at h
 apply Yq.ext2 <;> simp only [Mq.mir, Mq.thr, Yq.turn] <;> grind
end
/-- A matrix of whole numbers of k binary digits over one denominator. -/
def Hm (k : Nat) (m : Mq) : Prop := ∃ (D A B C E : Int), 0 < D ∧ (m.a * (D : Rat) = (A : Rat) ∧ m.b * (D : Rat) = (B : Rat) ∧ m.c * (D : Rat) = (C : Rat) ∧ m.d * (D : Rat) = (E : Rat)) ∧ D.natAbs ≤ 2 ^ k ∧ A.natAbs ≤ 2 ^ k ∧ B.natAbs ≤ 2 ^ k ∧ C.natAbs ≤ 2 ^ k ∧ E.natAbs ≤ 2 ^ k
def Hy (k : Nat) (r : Yq) : Prop := ∃ (D A B : Int), 0 < D ∧ (r.y * (D : Rat) = (A : Rat) ∧ r.u * (D : Rat) = (B : Rat)) ∧ D.natAbs ≤ 2 ^ k ∧ A.natAbs ≤ 2 ^ k ∧ B.natAbs ≤ 2 ^ k
section
variable {k l : Nat} {m n o : Mq} {r s : Yq} {z y : Rat}
theorem Hm.ha (h : Hm k m) : Hq k m.a := by obtain ⟨D, A, B, C, E, h0, ⟨h1, h2, h3, h4⟩, hD, hA, hB, hC, hE⟩ := h; exact ⟨D, A, h0, h1, hD, hA⟩
theorem Hm.hb (h : Hm k m) : Hq k m.b := by obtain ⟨D, A, B, C, E, h0, ⟨h1, h2, h3, h4⟩, hD, hA, hB, hC, hE⟩ := h; exact ⟨D, B, h0, h2, hD, hB⟩
theorem Hm.hc (h : Hm k m) : Hq k m.c := by obtain ⟨D, A, B, C, E, h0, ⟨h1, h2, h3, h4⟩, hD, hA, hB, hC, hE⟩ := h; exact ⟨D, C, h0, h3, hD, hC⟩
theorem Hm.hd (h : Hm k m) : Hq k m.d := by obtain ⟨D, A, B, C, E, h0, ⟨h1, h2, h3, h4⟩, hD, hA, hB, hC, hE⟩ := h; exact ⟨D, E, h0, h4, hD, hE⟩
theorem Hy.hy (h : Hy k r) : Hq k r.y := by obtain ⟨D, A, B, h0, ⟨h1, h2⟩, hD, hA, hB⟩ := h; exact ⟨D, A, h0, h1, hD, hA⟩
theorem Hy.hu (h : Hy k r) : Hq k r.u := by obtain ⟨D, A, B, h0, ⟨h1, h2⟩, hD, hA, hB⟩ := h; exact ⟨D, B, h0, h2, hD, hB⟩
theorem Hm.one : Hm 0 Mq.one := ⟨1, 1, 0, 0, 1, by decide, ⟨by decide +kernel, by decide +kernel, by decide +kernel, by decide +kernel⟩, by decide, by decide, by decide, by decide, by decide⟩
theorem Hm.back (h : Hm k m) : Hm k m.back := by
 obtain ⟨D, A, B, C, E, h0, ⟨h1, h2, h3, h4⟩, hD, hA, hB, hC, hE⟩ := h
 refine ⟨D, E, -B, -C, A, h0, ⟨h4, ?_, ?_, h1⟩, hD, hE, by rw [Int.natAbs_neg]; exact hB, by rw [Int.natAbs_neg]; exact hC, hA⟩
 ·rw [Rat.intCast_neg, ← h2]; simp only [Mq.back]; grind
 ·rw [Rat.intCast_neg, ← h3]; simp only [Mq.back]; grind
theorem Hm.mir (h : Hm k m) : Hm k m.mir := by
 obtain ⟨D, A, B, C, E, h0, ⟨h1, h2, h3, h4⟩, hD, hA, hB, hC, hE⟩ := h
 exact ⟨D, E, B, C, A, h0, ⟨h4, h2, h3, h1⟩, hD, hE, hB, hC, hA⟩
theorem Hy.turn (h : Hy k r) : Hy k r.turn := by
 obtain ⟨D, A, B, h0, ⟨h1, h2⟩, hD, hA, hB⟩ := h
 refine ⟨D, A, -B, h0, ⟨h1, ?_⟩, hD, hA, by rw [Int.natAbs_neg]; exact hB⟩
 rw [Rat.intCast_neg, ← h2]; simp only [Yq.turn]; grind
theorem Hm.mul (h : Hm k m) (g : Hm l n) : Hm (k + l + 1) (m.mul n) := by
 obtain ⟨D, A, B, C, E, h0, ⟨h1, h2, h3, h4⟩, hD, hA, hB, hC, hE⟩ := h
 obtain ⟨D', A', B', C', E', g0, ⟨g1, g2, g3, g4⟩, gD, gA, gB, gC, gE⟩ := g
 refine ⟨D * D', A * A' + B * C', A * B' + B * E', C * A' + E * C', C * B' + E * E', Int.mul_pos h0 g0, ⟨?_, ?_, ?_, ?_⟩, bd_mono (bd_mul hD gD) (by omega), bd_add (bd_mul hA gA) (bd_mul hB gC), bd_add (bd_mul hA gB) (bd_mul hB gE), bd_add (bd_mul hC gA) (bd_mul hE gC), bd_add (bd_mul hC gB) (bd_mul hE gE)⟩
 ·simp only [Rat.intCast_mul, Rat.intCast_add, Mq.mul]; rw [← h1, ← h2, ← g1, ← g3]; grind
 ·simp only [Rat.intCast_mul, Rat.intCast_add, Mq.mul]; rw [← h1, ← h2, ← g2, ← g4]; grind
 ·simp only [Rat.intCast_mul, Rat.intCast_add, Mq.mul]; rw [← h3, ← h4, ← g1, ← g3]; grind
 ·simp only [Rat.intCast_mul, Rat.intCast_add, Mq.mul]; rw [← h3, ← h4, ← g2, ← g4]; grind
theorem Hm.thr (h : Hm k m) (g : Hy l r) : Hy (k + l + 1) (m.thr r) := by
 obtain ⟨D, A, B, C, E, h0, ⟨h1, h2, h3, h4⟩, hD, hA, hB, hC, hE⟩ := h
 obtain ⟨D', A', B', g0, ⟨g1, g2⟩, gD, gA, gB⟩ := g
 refine ⟨D * D', A * A' + B * B', C * A' + E * B', Int.mul_pos h0 g0, ⟨?_, ?_⟩, bd_mono (bd_mul hD gD) (by omega), bd_add (bd_mul hA gA) (bd_mul hB gB), bd_add (bd_mul hC gA) (bd_mul hE gB)⟩
 ·simp only [Rat.intCast_mul, Rat.intCast_add, Mq.thr]; rw [← h1, ← h2, ← g1, ← g2]; grind
 ·simp only [Rat.intCast_mul, Rat.intCast_add, Mq.thr]; rw [← h3, ← h4, ← g1, ← g2]; grind
theorem Hm.tr (h : Hm k m) : Hq (k + 1) m.tr := by
 obtain ⟨D, A, B, C, E, h0, ⟨h1, h2, h3, h4⟩, hD, hA, hB, hC, hE⟩ := h
 refine ⟨D, A + E, h0, ?_, bd_mono hD (by omega), bd_add hA hE⟩
 rw [Rat.intCast_add, ← h1, ← h4]; simp only [Mq.tr]; grind
theorem Hy.cross (h : Hy k r) (g : Hy l s) : Hq (k + l + 1) (r.cross s) := by
 obtain ⟨D, A, B, h0, ⟨h1, h2⟩, hD, hA, hB⟩ := h
 obtain ⟨D', A', B', g0, ⟨g1, g2⟩, gD, gA, gB⟩ := g
 refine ⟨D * D', A * B' - A' * B, Int.mul_pos h0 g0, ?_, bd_mono (bd_mul hD gD) (by omega), bd_sub (bd_mul hA gB) (by have := bd_mul hB gA; rwa [Int.mul_comm] at this)⟩
 simp only [Rat.intCast_mul, Rat.intCast_sub, Yq.cross]; rw [← h1, ← h2, ← g1, ← g2]; grind
theorem Hg.hy (h : Hg k r.y r.u) : Hy k r := by
 obtain ⟨D, a, b, h0, h1, h2, h3, h4, h5⟩ := h
 exact ⟨D, a, b, h0, ⟨h1, h2⟩, h3, h4, h5⟩
theorem Hg.hm (h : Hg k m.a m.b) (g : Hg l m.c m.d) : Hm (k + l) m := by
 obtain ⟨D, a, b, h0, h1, h2, h3, h4, h5⟩ := h
 obtain ⟨E, c, d, g0, g1, g2, g3, g4, g5⟩ := g
 refine ⟨D * E, a * E, b * E, D * c, D * d, Int.mul_pos h0 g0, ⟨?_, ?_, ?_, ?_⟩, bd_mul h3 g3, bd_mul h4 g3, bd_mul h5 g3, bd_mul h3 g4, bd_mul h3 g5⟩
 ·rw [Rat.intCast_mul, Rat.intCast_mul, ← h1]; grind
 ·rw [Rat.intCast_mul, Rat.intCast_mul, ← h2]; grind
 ·rw [Rat.intCast_mul, Rat.intCast_mul, ← g1]; grind
 ·rw [Rat.intCast_mul, Rat.intCast_mul, ← g2]; grind
theorem Hm.mono (h : Hm k m) (hk : k ≤ l) : Hm l m := by
 obtain ⟨D, A, B, C, E, h0, h1, hD, hA, hB, hC, hE⟩ := h
 exact ⟨D, A, B, C, E, h0, h1, bd_mono hD hk, bd_mono hA hk, bd_mono hB hk, bd_mono hC hk, bd_mono hE hk⟩
theorem Hy.mono (h : Hy k r) (hk : k ≤ l) : Hy l r := by
 obtain ⟨D, A, B, h0, h1, hD, hA, hB⟩ := h
 exact ⟨D, A, B, h0, h1, bd_mono hD hk, bd_mono hA hk, bd_mono hB hk⟩
end
/-- The parts of a matrix's value, of a ray's. -/
structure Mv where
 A : Fv
 B : Fv
 C : Fv
 D : Fv
structure Yv where
 Y : Fv
 U : Fv
/-- A matrix, a ray, in limbs; as they are handed in. -/
def Fm (W : World) (q : Mq) (m : Mv) : Prop := Ff W q.a m.A ∧ Ff W q.b m.B ∧ Ff W q.c m.C ∧ Ff W q.d m.D
def Fy (W : World) (q : Yq) (r : Yv) : Prop := Ff W q.y r.Y ∧ Ff W q.u r.U
def Xm (W : World) (m : Mv) : Prop := Fx W m.A ∧ Fx W m.B ∧ Fx W m.C ∧ Fx W m.D
def Xy (W : World) (r : Yv) : Prop := Fx W r.Y ∧ Fx W r.U
abbrev mv (m : Mv) : Value := .agg #[.bool m.A.n, .slice m.A.A m.A.xs.length m.A.c, .bool m.A.m, .slice m.A.B m.A.ds.length m.A.d, .bool m.B.n, .slice m.B.A m.B.xs.length m.B.c, .bool m.B.m, .slice m.B.B m.B.ds.length m.B.d, .bool m.C.n, .slice m.C.A m.C.xs.length m.C.c, .bool m.C.m, .slice m.C.B m.C.ds.length m.C.d, .bool m.D.n, .slice m.D.A m.D.xs.length m.D.c, .bool m.D.m, .slice m.D.B m.D.ds.length m.D.d]
abbrev yv (r : Yv) : Value := .agg #[.bool r.Y.n, .slice r.Y.A r.Y.xs.length r.Y.c, .bool r.Y.m, .slice r.Y.B r.Y.ds.length r.Y.d, .bool r.U.n, .slice r.U.A r.U.xs.length r.U.c, .bool r.U.m, .slice r.U.B r.U.ds.length r.U.d]
def mv0 : Mv := ⟨fv0, fv0, fv0, fv0⟩
def yv0 : Yv := ⟨fv0, fv0⟩
def msz (m : Mv) : Int := 8 + (m.A.xs.length : Int) + (m.A.ds.length : Int) + (m.B.xs.length : Int) + (m.B.ds.length : Int) + (m.C.xs.length : Int) + (m.C.ds.length : Int) + (m.D.xs.length : Int) + (m.D.ds.length : Int)
def ysz (r : Yv) : Int := 4 + (r.Y.xs.length : Int) + (r.Y.ds.length : Int) + (r.U.xs.length : Int) + (r.U.ds.length : Int)
section
variable {W W' : World} {q p : Mq} {r s : Yq} {m : Mv} {y : Yv}
theorem Fm.kp (h : Fm W q m) (k : Kept W W') : Fm W' q m := ⟨h.1.kp k, h.2.1.kp k, h.2.2.1.kp k, h.2.2.2.kp k⟩
theorem Fy.kp (h : Fy W r y) (k : Kept W W') : Fy W' r y := ⟨h.1.kp k, h.2.kp k⟩
theorem Xm.kp (h : Xm W m) (k : Kept W W') : Xm W' m := ⟨h.1.kp k, h.2.1.kp k, h.2.2.1.kp k, h.2.2.2.kp k⟩
theorem Xy.kp (h : Xy W y) (k : Kept W W') : Xy W' y := ⟨h.1.kp k, h.2.kp k⟩
theorem Fm.to (h : Fm W q m) (e : q = p) : Fm W p m := e ▸ h
theorem Fy.to (h : Fy W r y) (e : r = s) : Fy W s y := e ▸ h
theorem Fm.xm (h : Fm W q m) : Xm W m := ⟨h.1.fx, h.2.1.fx, h.2.2.1.fx, h.2.2.2.fx⟩
theorem Fy.xy (h : Fy W r y) : Xy W y := ⟨h.1.fx, h.2.fx⟩
theorem Fm.hm (h : Fm W q m) (hs : msz m ≤ 600) : Hm 18944 q :=
 (Hg.hm (h.1.hq.pair h.2.1.hq) (h.2.2.1.hq.pair h.2.2.2.hq)).mono (by unfold msz at hs; omega)
theorem Fy.hy (h : Fy W r y) (hs : ysz y ≤ 300) : Hy 9472 r :=
 (Hg.hy (h.1.hq.pair h.2.hq)).mono (by unfold ysz at hs; omega)
end
/-- All four of them may be. -/
def okm (m : Mv) : Prop := okv m.A ∧ okv m.B ∧ okv m.C ∧ okv m.D
def oky (r : Yv) : Prop := okv r.Y ∧ okv r.U
theorem okm.fm {W : World} {m : Mv} (h : okm m) (r : Xm W m) : ∃ q : Mq, Fm W q m := by
 obtain ⟨a, ha⟩ := h.1.ff r.1
 obtain ⟨b, hb⟩ := h.2.1.ff r.2.1
 obtain ⟨c, hc⟩ := h.2.2.1.ff r.2.2.1
 obtain ⟨d, hd⟩ := h.2.2.2.ff r.2.2.2
 exact ⟨⟨a, b, c, d⟩, ha, hb, hc, hd⟩
theorem oky.fy {W : World} {y : Yv} (h : oky y) (r : Xy W y) : ∃ q : Yq, Fy W q y := by
 obtain ⟨a, ha⟩ := h.1.ff r.1
 obtain ⟨b, hb⟩ := h.2.ff r.2
 exact ⟨⟨a, b⟩, ha, hb⟩
theorem Fm.okm {W : World} {q : Mq} {m : Mv} (h : Fm W q m) : okm m := ⟨h.1.okv, h.2.1.okv, h.2.2.1.okv, h.2.2.2.okv⟩
theorem Fy.oky {W : World} {q : Yq} {y : Yv} (h : Fy W q y) : oky y := ⟨h.1.okv, h.2.okv⟩
/-- All parts fit. -/
def FitsM (q : Mq) : Prop := FitsQ q.a ∧ FitsQ q.b ∧ FitsQ q.c ∧ FitsQ q.d
def FitsY (r : Yq) : Prop := FitsQ r.y ∧ FitsQ r.u
theorem Hm.fits {k : Nat} {q : Mq} (h : Hm k q) (hk : k < 65536) : FitsM q := ⟨h.ha.fits hk, h.hb.fits hk, h.hc.fits hk, h.hd.fits hk⟩
theorem Hy.fits {k : Nat} {r : Yq} (h : Hy k r) (hk : k < 65536) : FitsY r := ⟨h.hy.fits hk, h.hu.fits hk⟩
theorem Fm.fits {W : World} {q : Mq} {m : Mv} (h : Fm W q m) : FitsM q := ⟨h.1.fits, h.2.1.fits, h.2.2.1.fits, h.2.2.2.fits⟩
theorem Fy.fits {W : World} {r : Yq} {y : Yv} (h : Fy W r y) : FitsY r := ⟨h.1.fits, h.2.fits⟩
end Go.Proofs.YtfhleccodbjfbaaGreat
