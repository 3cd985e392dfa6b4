/-
  Plain facts and contracts that hold in this seat: joined by program. Conditions: as each theorem states.
-/
import Derived.Test.YtffjkfjokikhnaaBase
import Derived.Test.YtffjkfjokikhnaaPack
import Derived.Deep.QuietTactic
import Derived.BigQuiet
import Derived.Deep.LoopGhost
import Derived.StillTailTactics
import Derived.Test.YtffjkfjokikhnaaArith2
import Derived.Laws.Externs
import Derived.Laws.CopyOwn
import Derived.Deep.RegionHeld3
import Derived.Deep.RegionLaw
import Derived.BigRegion
/-! ### Low -/
namespace Go.Proofs.Ytffjkfjokikhnaa
open Go.RowKit Nb
def trimL (ls : List Nat) : List Nat := (ls.reverse.dropWhile (· == 0)).reverse
theorem trimL_snoc_zero (ls : List Nat) : trimL (ls ++ [0]) = trimL ls := by simp [trimL]
theorem trimL_snoc (ls : List Nat) {x : Nat} (h : x ≠ 0) : trimL (ls ++ [x]) = ls ++ [x] := by simp [trimL, h]
theorem trimL_nil : trimL [] = [] := rfl
theorem trimL_all (ls : List Nat) : ∃ n, ls = trimL ls ++ List.replicate n 0 ∧ Norm (trimL ls) := by
  generalize hk : ls.length = k
  induction k generalizing ls with
  | zero => have : ls = [] := List.eq_nil_of_length_eq_zero hk
            subst this; exact ⟨0, rfl, Norm.nil⟩
  | succ k ih =>
    have hne : ls ≠ [] := by intro e; subst e; simp at hk
    have e := List.dropLast_concat_getLast hne
    by_cases h0 : ls.getLast hne = 0
    · obtain ⟨n, h1, h2⟩ := ih ls.dropLast (by simp; omega)
      have ht : trimL ls = trimL ls.dropLast := by
        have := trimL_snoc_zero ls.dropLast
        rw [h0] at e
        rw [e] at this
        exact this
      refine ⟨n + 1, ?_, by rw [ht]; exact h2⟩
      rw [ht, List.replicate_succ', ← List.append_assoc, ← h1, ← h0, e]
    · have ht : trimL ls = ls := by
        have := trimL_snoc ls.dropLast h0
        rw [e] at this
        exact this
      exact ⟨0, by rw [ht]; simp, by rw [ht]; exact fun _ => h0⟩
theorem norm_trimL (ls : List Nat) : Norm (trimL ls) := (trimL_all ls).choose_spec.2
theorem val_trimL (B : Nat) (ls : List Nat) : val B (trimL ls) = val B ls := by
  obtain ⟨n, h, _⟩ := trimL_all ls
  rw [congrArg (val B) h, val_append, val_replicate]; simp
theorem trimL_len (ls : List Nat) : (trimL ls).length ≤ ls.length := by
  obtain ⟨n, h, _⟩ := trimL_all ls
  have := congrArg List.length h
  rw [List.length_append] at this
  omega
theorem trimL_take (ls : List Nat) : ls.take (trimL ls).length = trimL ls := by
  obtain ⟨n, h, _⟩ := trimL_all ls
  have := congrArg (List.take (trimL ls).length) h
  rw [List.take_append_of_le_length (Nat.le_refl _), List.take_length] at this
  exact this
theorem dig_trimL {B : Nat} {ls : List Nat} (h : Dig B ls) : Dig B (trimL ls) := by rw [← trimL_take]; exact h.take _
theorem trimL_norm {ls : List Nat} (h : Norm ls) : trimL ls = ls := by
  rcases List.eq_nil_or_concat ls with rfl | ⟨l, x, rfl⟩
  · rfl
  · have := h (by simp)
    simp at this
    rw [List.concat_eq_append, trimL_snoc l this]
theorem sl_trimL {k : IntKind} {w : World} {B : Nat} {A : Option Addr} {ls : List Nat} (h : Sl k w B A ls) : Sl k w B A (trimL ls) := by rw [← trimL_take]; exact h.take _
/-- A struct of a sign and a list, as large.Int and api.Int are. -/
abbrev big (neg : Bool) (A : Option Addr) (n c : Nat) : Value := .agg #[.bool neg, .slice A n c]
end Go.Proofs.Ytffjkfjokikhnaa
/-! ### From -/
namespace Go.Proofs.Ytffjkfjokikhnaa
open Go.RowKit Nb
theorem info_u64 : (Try.prog.info? 64).map (fun i => (i.zero, i.size, i.bytes)) = some (some (.int .u64 0), 1, 8) := by kernel_rfl
theorem info_u32 : (Try.prog.info? 85).map (fun i => (i.zero, i.size, i.bytes)) = some (some (.int .u32 0), 1, 4) := by kernel_rfl
end Go.Proofs.Ytffjkfjokikhnaa
/-! ### Mid -/
namespace Go.Proofs.Ytffjkfjokikhnaa
open Go.RowKit Nb
end Go.Proofs.Ytffjkfjokikhnaa
/-! ### Cmp -/
namespace Go.Proofs.Ytffjkfjokikhnaa
open Go.RowKit Nb
def cmpI (x y : Int) : Int := if x < y then -1 else if y < x then 1 else 0
theorem cmpI_lt {x y : Int} (h : x < y) : cmpI x y = -1 := if_pos h
theorem cmpI_gt {x y : Int} (h : y < x) : cmpI x y = 1 := by unfold cmpI; rw [if_neg (by omega), if_pos h]
theorem cmpI_eq {x y : Int} (h : x = y) : cmpI x y = 0 := by unfold cmpI; rw [if_neg (by omega), if_neg (by omega)]
theorem cmpI_ne {x y : Nat} (h : x ≠ y) : (cmpI x y == 0) = false := by
  unfold cmpI; split <;> first | rfl | (split <;> first | rfl | omega)
abbrev W64 : Nat := 18446744073709551616
/-- What the lists' values are, the highest unlike digit deciding. -/
theorem cmpI_top {xs ys : List Nat} (hx : Dig W64 xs) (hy : Dig W64 ys) (hl : xs.length = ys.length) {j : Nat} (h1 : j < xs.length) (h2 : j < ys.length) (hd : xs.drop (j + 1) = ys.drop (j + 1)) (hne : xs[j] ≠ ys[j]) :
    cmpI (xs[j] : Nat) (ys[j] : Nat) = cmpI (val W64 xs : Nat) (val W64 ys : Nat) := by
  rcases Nat.lt_or_gt_of_ne hne with h | h
  · rw [cmpI_lt (by omega), cmpI_lt]
    have := val_top hl (k := j + 1) (by omega) hd (cmp_dig hx hy h1 h2 h)
    omega
  · rw [cmpI_gt (by omega), cmpI_gt]
    have := val_top hl.symm (k := j + 1) (by omega) hd.symm (cmp_dig hy hx h2 h1 h)
    omega
end Go.Proofs.Ytffjkfjokikhnaa
/-! ### Big -/
namespace Go.Proofs.Ytffjkfjokikhnaa
open Go.RowKit Nb
theorem lenL_le {ls : List Nat} (hd : Dig W64 ls) : lenL ls ≤ 64 * ls.length := by
  rcases h : ls.length with _ | j
  · unfold lenL; rw [dif_pos h]; omega
  · rw [lenL_pos h]
    have := bitLen_le64 ls[j] (hd.get (by omega))
    omega
/-- The sign of a number. -/
def sgn (neg : Bool) (ls : List Nat) : Int := if neg then -1 else if ls.length = 0 then 0 else 1
end Go.Proofs.Ytffjkfjokikhnaa
/-! ### Twin -/
namespace Go.Proofs.Ytffjkfjokikhnaa
open Go.RowKit Nb
abbrev W32 : Nat := 4294967296
/-- May a number be (what Check asks)? -/
structure Ok (neg : Bool) (ls : List Nat) : Prop where
  len : ls.length ≤ 2048
  norm : Norm ls
  sign : ls = [] → neg = false
end Go.Proofs.Ytffjkfjokikhnaa
/-! ### Carry -/
namespace Go.Proofs.Ytffjkfjokikhnaa
open Go.RowKit Nb
/-- One block alone has changed. -/
structure Upd (g : Nat) (w w' : World) : Prop where
  os : w'.os = w.os
  tape : w'.tape = w.tape
  output : w'.output = w.output
  size : w'.heap.size = w.heap.size
  block : ∀ k, k ≠ g → w'.heap[k]? = w.heap[k]?
theorem Upd.refl (g : Nat) (w : World) : Upd g w w := ⟨rfl, rfl, rfl, rfl, fun _ _ => rfl⟩
theorem Upd.trans {g : Nat} {a b c : World} (h : Upd g a b) (k : Upd g b c) : Upd g a c :=
  ⟨k.os.trans h.os, k.tape.trans h.tape, k.output.trans h.output, k.size.trans h.size, fun i hi => (k.block i hi).trans (h.block i hi)⟩
theorem Upd.setCell {g : Nat} {a w : World} (h : Upd g a w) (i : Nat) (u : Value) : Upd g a (w.setCell ⟨g, i, none⟩ u) :=
  ⟨h.os, h.tape, h.output, by simpa using h.size, fun k hk => (Below.heap_setCell w _ u k hk).trans (h.block k hk)⟩
theorem Upd.drew {g : Nat} {a w : World} (h : Upd g a w) : Upd g a w.drew := ⟨h.os, h.tape, h.output, h.size, h.block⟩
theorem Upd.drewN {g : Nat} {a w : World} (h : Upd g a w) (n : Nat) : Upd g a (w.drewN n) := ⟨h.os, h.tape, h.output, h.size, h.block⟩
theorem Upd.cell {g : Nat} {w w' : World} (h : Upd g w w') {p : Addr} (hp : p.block ≠ g) : w'.cell? p = w.cell? p := World.cell?_of_block (w := w) (h.block p.block hp)
theorem Upd.frozen {g : Nat} {w w' : World} (h : Upd g w w') {p : Addr} (hp : p.block ≠ g) : w'.frozen? p = w.frozen? p := World.frozen?_of_block (w := w) (h.block p.block hp)
theorem Upd.below {g B : Nat} {w w' : World} (h : Upd g w w') (hB : B ≤ g) : Below B w w' := ⟨h.os, h.tape, h.output, by rw [h.size]; exact Nat.le_refl _, fun k hk => h.block k (by omega)⟩
theorem Row.upd {k : IntKind} {w w' : World} {g g' : Nat} {e : TypeId} {xs : List Nat} (h : Row k w g e xs) (hu : Upd g' w w') (hne : g ≠ g') : Row k w' g e xs := (hu.block g hne).trans h
theorem Sl.upd {k : IntKind} {w w' : World} {g B : Nat} {A : Option Addr} {ls : List Nat} (h : Sl k w B A ls) (hu : Upd g w w') (hB : B ≤ g) : Sl k w' B A ls := h.keep fun p hp => hu.cell (by omega)
def sub64E : Array Value → Sem Value := fun args => do
  let (x, y, b) ← Extern.MathBitsCarry.three "Sub64" args
  pure (Extern.MathBitsCarry.pair ((x + Extern.MathBitsCarry.m64 - y - b) % Extern.MathBitsCarry.m64) (if x < y + b then 1 else 0))
theorem run_sub64E (x y b : Nat) (hb : b ≤ 1) (w : World) :
    (sub64E #[.int .u64 x, .int .u64 y, .int .u64 b]).run Try.prog w =
      .ok (.tuple #[.int .u64 (((x + 18446744073709551616 - y - b) % 18446744073709551616 : Nat) : Int), .int .u64 ((if x < y + b then 1 else 0 : Nat) : Int)]) w := by
  have : b = 0 ∨ b = 1 := by omega
  rcases this with rfl | rfl <;> rfl
end Go.Proofs.Ytffjkfjokikhnaa
/-! ### Sum -/
namespace Go.Proofs.Ytffjkfjokikhnaa
open Go.RowKit Nb
/-- A new list of words that tells a number. -/
def Words (w : World) (V C : Nat) (e : Ending) (w' : World) : Prop := ∃ (A : Option Addr) (zs : List Nat) (c : Nat), e = .returned (.slice A zs.length c) ∧ Sl .u64 w' w'.heap.size A zs ∧ Dig W64 zs ∧ Norm zs ∧ val W64 zs = V ∧ zs.length ≤ c ∧ c ≤ C ∧ Below w.heap.size w w'
theorem wpList_copy_words {P : Program} (w : World) {ops : Array Oper} {rest : List Oper} {o : Oper} {a : Act} {Q : Exit → Act → World → Prop} (hgd : o.guard = none) (d s : Operand) (dT sT : TypeId)
    (ho : o.op = .call { callee := .builtin .copy, args := #[d, s], argTypes := #[dT, sT] }) (elem : TypeId) (hu : P.underlying dT = some (.slice elem)) (hsz : (P.info? elem).map (·.size) = some 1)
    (A : Option Addr) (k : IntKind) (g : Nat) (zs xs : List Nat) (dCap sCap : Nat) (hd : a.eval d = .slice (some ⟨g, 0, none⟩) zs.length dCap) (hs : a.eval s = .slice A xs.length sCap)
    (hz : Row k w g elem zs) (hx : Sl k w g A xs) (hl : xs.length ≤ zs.length)
    (hK : ∀ w', Row k w' g elem (xs ++ zs.drop xs.length) → Below g w w' → wpList P ops Q rest (a.put o.dst (goInt xs.length)) w') : wpList P ops Q (o :: rest) a w := by
  refine wpList_copy_splice hgd d s dT sT ho elem hu hsz _ _ _ _ _ _ hd hs g 0 (zs.map fun n : Nat => Value.int k n) elem hz (xs.map fun n : Nat => Value.int k n) (by rw [List.length_map]; exact (Nat.min_eq_left hl).symm) (fun hn => ⟨rfl, ?_⟩) (by simpa using hl) (fun v hv => ?_) g w (Below.refl _ _) (Nat.le_refl _) (fun w' h1 h2 => ?_)
  · obtain ⟨ad, e, _, hc⟩ := hx (by simpa using hn)
    refine ⟨ad, e, fun j v hv => ?_⟩
    rw [List.getElem?_map] at hv
    rcases hj : xs[j]? with _ | u
    · rw [hj] at hv; cases hv
    · rw [hj] at hv
      obtain ⟨hlt, rfl⟩ := List.getElem?_eq_some_iff.1 hj
      rw [hc j hlt]; exact hv
  · obtain ⟨n, _, rfl⟩ := List.mem_map.1 hv
    rfl
  · rw [List.length_map]
    refine hK w' ?_ h2
    have h3 := h1.out
    unfold Row
    rw [h3]
    simp [splice, List.map_drop]
theorem info_u64s : (Try.prog.info? 64).map (·.size) = some 1 := by kernel_rfl
theorem sum_room {B X Y P P' Q o n m : Nat} (hP : P' + B ^ n * o = P + Y) (hX : X = P + B ^ n * Q) (h : X + Y < B ^ (n + m)) : Q + o < B ^ m := by
  rw [Nat.pow_add] at h
  have h1 : B ^ n * (Q + o) < B ^ n * B ^ m := by rw [Nat.mul_add]; omega
  exact Nat.lt_of_mul_lt_mul_left h1
theorem sum_end {B X Y P P' Q Q' o n : Nat} (hP : P' + B ^ n * o = P + Y) (hX : X = P + B ^ n * Q) (h : Q' = Q + o) : P' + B ^ n * Q' = X + Y := by
  rw [h, Nat.mul_add]; omega
theorem Words.mono {w : World} {V C C' : Nat} {e : Ending} {w' : World} (h : Words w V C e w') (hC : C ≤ C') : Words w V C' e w' := by
  obtain ⟨A, zs, c, h1, h2, h3, h4, h5, h6, h7, h8⟩ := h
  exact ⟨A, zs, c, h1, h2, h3, h4, h5, h6, by omega, h8⟩
end Go.Proofs.Ytffjkfjokikhnaa
/-! ### Diff -/
namespace Go.Proofs.Ytffjkfjokikhnaa
open Go.RowKit Nb
theorem val_take_more (B : Nat) (ys : List Nat) {k : Nat} (h : ys.length ≤ k) : val B (ys.take (k + 1)) = val B (ys.take k) + B ^ k * 0 := by
  rw [List.take_of_length_le (by omega), List.take_of_length_le h]; omega
end Go.Proofs.Ytffjkfjokikhnaa
/-! ### Prod -/
namespace Go.Proofs.Ytffjkfjokikhnaa
open Go.RowKit Nb
theorem mulad_eq {K v h l xw z d1 o1 o2 c : Nat} (h1 : l + K * h = xw) (h2 : d1 + K * o1 = l + z + 0) (h3 : v + K * o2 = d1 + c + 0) : v + K * (h + o1 + o2) = xw + z + c := by
  rw [Nat.mul_add, Nat.mul_add]; omega
end Go.Proofs.Ytffjkfjokikhnaa
/-! ### Prod2 -/
namespace Go.Proofs.Ytffjkfjokikhnaa
open Go.RowKit Nb
theorem Words.nil {w : World} {C : Nat} {w' : World} (hb : Below w.heap.size w w') : Words w 0 C (.returned (.slice none 0 0)) w' :=
  ⟨none, [], 0, rfl, Sl.none_, Dig.nil _, Norm.nil, rfl, Nat.le_refl _, Nat.zero_le _, hb⟩
theorem replicate_split {n k : Nat} (h : k < n) : List.replicate (n - k) 0 = 0 :: List.replicate (n - (k + 1)) 0 := by
  rw [show n - k = n - (k + 1) + 1 by omega, List.replicate_succ]
end Go.Proofs.Ytffjkfjokikhnaa
/-! ### Text1 -/
namespace Go.Proofs.Ytffjkfjokikhnaa
open Go.RowKit Nb
/-- Block g begins with these numbers. -/
def RowV (k : IntKind) (w : World) (g : Nat) (e : TypeId) (xs : List Nat) (rest : List Value) : Prop := w.heap[g]? = some (.cells (xs.map (fun n : Nat => Value.int k n) ++ rest).toArray e (0, 0))
section
variable {k : IntKind} {w w' : World} {g : Nat} {e : TypeId} {xs ys : List Nat} {rest : List Value}
theorem RowV.lt (h : RowV k w g e xs rest) : g < w.heap.size := by
  rcases Nat.lt_or_ge g w.heap.size with hlt | hge
  · exact hlt
  · unfold RowV at h; rw [Array.getElem?_eq_none hge] at h; cases h
theorem RowV.cell (h : RowV k w g e xs rest) {i : Nat} (hi : i < xs.length) : w.cell? ⟨g, i, none⟩ = some (.int k (xs[i] : Nat)) := by
  unfold RowV at h
  rw [cell_of_row w g i _ _ _ h]
  simp [List.getElem?_append, hi]
theorem RowV.frozen (h : RowV k w g e xs rest) (i : Nat) : w.frozen? ⟨g, i, none⟩ = false := by
  unfold RowV at h
  simp [World.frozen?, h]
theorem RowV.set_ (h : RowV k w g e xs rest) {i n : Nat} (hi : i < xs.length) : RowV k (w.setCell ⟨g, i, none⟩ (.int k n)) g e (xs.set i n) rest := by
  unfold RowV at h ⊢
  simp only [World.setCell, Array.getElem?_modify, h, if_true, Option.map_some]
  congr 2
  simp [List.map_set, hi]
theorem RowV.drew (h : RowV k w g e xs rest) (n : Nat) : RowV k (w.drewN n) g e xs rest := h
theorem RowV.drew1 (h : RowV k w g e xs rest) : RowV k w.drew g e xs rest := h
theorem RowV.alloc (h : RowV k w g e xs rest) (o : Obj) : RowV k (w.alloc o) g e xs rest := (Below.heap_alloc w o g h.lt).trans h
theorem RowV.upd {g' : Nat} (h : RowV k w g e xs rest) (hu : Upd g' w w') (hne : g ≠ g') : RowV k w' g e xs rest := (hu.block g hne).trans h
theorem RowV.below {B : Nat} (h : RowV k w g e xs rest) (hb : Below B w w') (hg : g < B) : RowV k w' g e xs rest := (hb.block g hg).trans h
theorem RowV.grown {row : Option Nat} (h : RowV k w g e xs rest) (hg : w.grownBy w' row) (hne : some g ≠ row) : RowV k w' g e xs rest := (hg.block g h.lt hne).trans h
theorem RowV.shrink (h : RowV k w g e (xs ++ ys) rest) : RowV k w g e xs (ys.map (fun n : Nat => Value.int k n) ++ rest) := by
  unfold RowV at h ⊢
  rw [h]
  simp [List.append_assoc]
theorem RowV.sl {B : Nat} (h : RowV k w g e xs rest) (hB : g < B) : Sl k w B (some ⟨g, 0, none⟩) xs := fun _ =>
  ⟨_, rfl, hB, fun j hj => by rw [add_zero_none]; exact h.cell hj⟩
theorem RowV.of_own {base c : Nat} (h : w.ownsRow base e 1 (.slice (some ⟨g, 0, none⟩) xs.length c) xs.length (xs.map fun n : Nat => Value.int k n)) : ∃ rest, RowV k w g e xs rest ∧ base ≤ g := by
  obtain ⟨hl, ⟨h0, _⟩ | ⟨g', cap, cur, hv, hbg, hg, _, _, hcs, ht⟩⟩ := h
  · cases h0
  · injection hv with hA _ hc
    injection hA with hA
    injection hA with hA
    subst hA; subst hc
    refine ⟨cur.toList.drop (xs.length * 1), ?_, hbg⟩
    unfold RowV
    rw [hg, ← ht, List.take_append_drop]
theorem own_upd {base n : Nat} {v : Value} {vs : List Value} (h : w.ownsRow base e 1 v n vs) (hu : Upd g w w') (hg : g < base) : w'.ownsRow base e 1 v n vs := by
  obtain ⟨hl, h0 | ⟨g', cap, cur, hv, hbg, hh, r⟩⟩ := h
  · exact ⟨hl, .inl h0⟩
  · exact ⟨hl, .inr ⟨g', cap, cur, hv, hbg, (hu.block g' (by omega)).trans hh, r⟩⟩
end
/-- Turned round, the first k and the last k places. -/
structure Turned (xs ms : List Nat) (k : Nat) : Prop where
  len : ms.length = xs.length
  low : ∀ i (h : i < xs.length) (h' : i < ms.length), i < k → ms[i] = xs[xs.length - 1 - i]
  high : ∀ i (h : i < xs.length) (h' : i < ms.length), xs.length - k ≤ i → ms[i] = xs[xs.length - 1 - i]
  mid : ∀ i (h : i < xs.length) (h' : i < ms.length), k ≤ i → i < xs.length - k → ms[i] = xs[i]
theorem Turned.start (xs : List Nat) : Turned xs xs 0 := ⟨rfl, fun _ _ _ h => by omega, fun _ _ _ h => by omega, fun _ _ _ _ _ => rfl⟩
theorem Turned.step {xs ms : List Nat} {k : Nat} (t : Turned xs ms k) (h : 2 * k + 1 < xs.length) (h1 : k < ms.length) (h2 : xs.length - 1 - k < ms.length) : Turned xs ((ms.set k ms[xs.length - 1 - k]).set (xs.length - 1 - k) ms[k]) (k + 1) := by
  have hl := t.len
  refine ⟨by simp [hl], fun i hi h' hk => ?_, fun i hi h' hk => ?_, fun i hi h' hk hk2 => ?_⟩
  · rw [List.getElem_set_ne (by omega)]
    by_cases e : k = i
    · subst e; rw [List.getElem_set_self]; exact t.mid _ (by omega) h2 (by omega) (by omega)
    · rw [List.getElem_set_ne e]; exact t.low i hi (by omega) (by omega)
  · by_cases e : xs.length - 1 - k = i
    · subst e; rw [List.getElem_set_self, t.mid k (by omega) h1 (by omega) (by omega)]; congr 1; omega
    · rw [List.getElem_set_ne e, List.getElem_set_ne (by omega)]; exact t.high i hi (by omega) (by omega)
  · rw [List.getElem_set_ne (by omega), List.getElem_set_ne (by omega)]; exact t.mid i hi (by omega) (by omega) (by omega)
theorem Turned.step' {xs ms : List Nat} {k j : Nat} (t : Turned xs ms k) (h : 2 * k + 1 < xs.length) (hj : xs.length - 1 - k = j) (h1 : k < ms.length) (h2 : j < ms.length) : Turned xs ((ms.set k ms[j]).set j ms[k]) (k + 1) := by
  subst hj
  exact t.step h h1 h2
theorem Turned.done {xs ms : List Nat} {k : Nat} (t : Turned xs ms k) (h : xs.length ≤ 2 * k + 1) : ms = xs.reverse := by
  apply List.ext_getElem
  · simp [t.len]
  · intro i h1 h2
    have hl := t.len
    rw [List.getElem_reverse]
    by_cases a : i < k
    · exact t.low i (by omega) h1 a
    · by_cases b : xs.length - k ≤ i
      · exact t.high i (by omega) h1 b
      · rw [t.mid i (by omega) h1 (by omega) (by omega)]; congr 1; omega
end Go.Proofs.Ytffjkfjokikhnaa
/-! ### Rsh -/
namespace Go.Proofs.Ytffjkfjokikhnaa
open Go.RowKit Nb
set_option maxHeartbeats 400000 in
theorem rtrim_any (A : Option Addr) (ls : List Nat) (c : Nat) (w : World) (hr : Sl .u32 w w.heap.size A ls) (hl : ls.length ≤ c) (hc : c ≤ maxLen) :
    Calls Try.prog 108 #[.slice A ls.length c] w fun e w' => e = .returned (.slice A (trimL ls).length c) ∧ w = w' := by
  unfold maxLen at hc
  go_enter Try.func108, Try.ntmps108
  go_wp2
  go_loop [0] (fun x => ∃ k : Nat, k ≤ ls.length ∧ x = .slice A k c ∧ trimL ls = trimL (ls.take k)) (fun x => match x with | .slice _ n _ => n | _ => 0)
  case atStart => exact ⟨ls.length, Nat.le_refl _, rfl, by rw [List.take_length]⟩
  case round =>
    obtain ⟨k, hk, rfl, ht⟩ := hrel
    have HT := Lib.hid ht; clear ht
    rcases k with _ | j
    · go_wp2
      go_ret
      exact ⟨by rw [HT.out]; rfl, rfl⟩
    · obtain ⟨ad, rfl, hb, hcell⟩ := hr.at_ (i := j) (by omega)
      have hts := take_succ' (xs := ls) (k := j) (by omega)
      by_cases hz : ls[j] = 0
      · rw [hz] at hts hcell
        have HS := Lib.hid hts; clear hts hz
        go_wp2
        go_round
        case rel => exact ⟨j, by omega, by simp, by rw [HT.out, HS.out, trimL_snoc_zero]⟩
        case measure => simp
      · have hts2 := trimL_snoc (ls.take j) hz
        have hln : (ls.take j ++ [ls[j]]).length = j + 1 := by simp; omega
        have HS := Lib.hid hts; clear hts
        have HS2 := Lib.hid hts2; clear hts2
        have HLn := Lib.hid hln; clear hln
        go_wp2
        go_ret
        exact ⟨by rw [HT.out, HS.out, HS2.out, HLn.out]; rfl, rfl⟩
/-- A new list of limbs that tells a number. -/
def Limbs (w : World) (V C : Nat) (v : Value) (w' : World) : Prop := ∃ (A : Option Addr) (zs : List Nat) (c : Nat), v = .slice A zs.length c ∧ Sl .u32 w' w'.heap.size A zs ∧ Dig W32 zs ∧ Norm zs ∧ val W32 zs = V ∧ zs.length ≤ c ∧ c ≤ C ∧ Below w.heap.size w w'
set_option maxHeartbeats 800000 in
theorem short_any (A : Option Addr) (xs : List Nat) (c y : Nat) (w : World) (hx : Sl .u32 w w.heap.size A xs) (dx : Dig W32 xs) (hy : 0 < y) (hy2 : y ≤ 4294967295) (hb : xs.length * 4 ≤ 140737488351232) :
    Calls Try.prog 110 #[.slice A xs.length c, .int .u32 y] w fun e w' => ∃ v, e = .returned (.tuple #[v, .int .u32 (val W32 xs % y : Nat)]) ∧ Limbs w (val W32 xs / y) xs.length v w' := by
  go_enter Try.func110, Try.ntmps110
  go_wp2_with (at_make; refine wpList_make_row _ rfl _ _ 47 rfl 85 .u32 4 Try.underlying47 info_u32 _ _ _ _ xs.length rfl rfl (by omega) (by omega) (by omega) (by unfold maxLen; omega) ?_
               intro w1 hrow1 hbel1)
  obtain ⟨zs, hzs⟩ : ∃ zs, List.replicate xs.length 0 = zs := ⟨_, rfl⟩
  have hzl : zs.length = xs.length := by rw [← hzs]; simp
  rw [hzs] at hrow1
  have HL := Lib.hid hzl
  clear hzl hzs
  go_loopw [7, 8] (fun rv iv wr => ∃ (k r : Nat) (q : Int) (qs : List Nat), k ≤ xs.length ∧ iv = .int .i64 q ∧ q + 1 = k ∧ rv = .int .u64 r ∧ r < y ∧ qs.length = xs.length - k ∧ Dig W32 qs ∧ val W32 qs * y + r = val W32 (xs.drop k) ∧
      Row .u32 wr w.heap.size 85 (zs.take k ++ qs) ∧ Below w.heap.size w wr) (fun _ iv _ => (intOf iv + 1).toNat)
  case atStart => exact ⟨xs.length, 0, xs.length - 1, [], Nat.le_refl _, rfl, by omega, rfl, hy, by simp, Dig.nil _, by simp [val], by rw [← HL.out, List.take_length, List.append_nil]; exact hrow1, hbel1⟩
  case round =>
    obtain ⟨k, r, q, qs, hk, rfl, hq, rfl, hr, hql, hqd, he, hrow, hbel⟩ := hrel
    have HQ := Lib.hid hql; clear hql
    have HE := Lib.hid he; clear he
    rcases k with _ | j
    · obtain rfl : q = -1 := by omega
      clear hq
      rw [List.take_zero, List.nil_append] at hrow
      have h1 := HE.out
      rw [List.drop_zero, Nat.mul_comm] at h1
      have h2 : val W32 xs / y = val W32 qs := by rw [← h1, Nat.mul_add_div hy, Nat.div_eq_of_lt hr]; rfl
      have h3 : val W32 xs % y = r := by rw [← h1, Nat.mul_add_mod, Nat.mod_eq_of_lt hr]
      have H2 := Lib.hid h2
      have H3 := Lib.hid h3
      clear h1 h2 h3
      have hT : Calls Try.prog 108 #[.slice (some ⟨w.heap.size, 0, none⟩) xs.length xs.length] wr fun e w' => e = .returned (.slice (some ⟨w.heap.size, 0, none⟩) (trimL qs).length xs.length) ∧ wr = w' := by
        have := rtrim_any (some ⟨w.heap.size, 0, none⟩) qs xs.length wr (hrow.sl hrow.lt) (by have := HQ.out; omega) (by unfold maxLen; omega)
        rw [HQ.out] at this
        exact this
      have HT := Lib.hid hT
      clear hT
      go_wp2_with fail
      refine (HT.out).mono ?_
      rintro e w5 ⟨rfl, rfl⟩
      go_wp2_with fail
      go_ret2
      have hqT := trimL_len qs
      rw [HQ.out] at hqT
      exact ⟨.slice (some ⟨w.heap.size, 0, none⟩) (trimL qs).length xs.length, by rw [H3.out]; rfl, _, _, _, rfl, sl_trimL (hrow.sl hrow.lt), dig_trimL hqd, norm_trimL _, by rw [val_trimL, H2.out], by omega, Nat.le_refl _, hbel⟩
    · obtain rfl : q = j := by omega
      clear hq
      have hjz : j < zs.length := by have := HL.out; omega
      have hjx : j < xs.length := by omega
      have hlen : j < (zs.take (j + 1) ++ qs).length := by simp; omega
      have gf := hrow.frozen j
      have gc := hrow.cell hlen
      rw [down_get zs qs hjz hlen] at gc
      obtain ⟨ad, rfl, _, h1⟩ := (hx.below hbel).at_ hjx
      have hxx := dx.get hjx
      have hstep := fun q' r' => step_quo (q := q') (r' := r') (x := xs[j]) HE.out
      rw [← val_drop_pred W32 hjx] at hstep
      have hset := fun v => down_put zs qs v hjz
      have hrs := fun v => hrow.set_ j v
      have hbs := fun v : Nat => hbel.setCell (p := ⟨w.heap.size, j, none⟩) (Nat.le_refl _) (.int .u32 v)
      generalize xs[j] = x at *
      generalize zs[j] = z at *
      have hxx' : x < 4294967296 := hxx
      have hqr : (r * W32 + x) / y * y + (r * W32 + x) % y = r * W32 + x := by rw [Nat.mul_comm]; exact Nat.div_add_mod _ _
      have hq1 : (r * W32 + x) / y < 4294967296 := quo_lt hr hxx
      have hq2 : (r * W32 + x) % y < y := Nat.mod_lt _ hy
      have hi1 : ((r : Int) * 4294967296 + (x : Int)) / (y : Int) = (((r * W32 + x) / y : Nat) : Int) := by simp [W32]
      have hi2 : ((r : Int) * 4294967296 + (x : Int)) % (y : Int) = (((r * W32 + x) % y : Nat) : Int) := by simp [W32]
      obtain ⟨Q, hQ⟩ : ∃ Q, (r * W32 + x) / y = Q := ⟨_, rfl⟩
      obtain ⟨R, hR⟩ : ∃ R, (r * W32 + x) % y = R := ⟨_, rfl⟩
      rw [hQ] at hqr hq1 hi1
      rw [hR] at hqr hq2 hi2
      have hst' := hstep Q R hqr
      have hrs' := hrs Q
      have hbs' := hbs Q
      rw [hset Q] at hrs'
      have HS := Lib.hid hst'
      have HR := Lib.hid hrs'
      have HB := Lib.hid hbs'
      clear hstep hset hrs hbs hst' hrs' hbs' hqr hQ hR hlen hrow hx hxx
      have hji : (j : Int) < (xs.length : Int) := by omega
      go_wp2_with fail
      go_roundw
      case rel => exact ⟨j, R, _, Q :: qs, by omega, rfl, by omega, congrArg _ hi2, hq2, by have := HQ.out; simp; omega, dig_cons hq1 hqd, HS.out, HR.out, HB.out⟩
      case measure => simp [intOf]
end Go.Proofs.Ytffjkfjokikhnaa
/-! ### Rmul -/
namespace Go.Proofs.Ytffjkfjokikhnaa
open Go.RowKit Nb
theorem rat_get (b c : List Nat) (t : Nat) {i : Nat} (hb : b.length = i) (h : i < (b ++ (t :: c)).length) : (b ++ (t :: c))[i] = t := by
  subst hb; simp
theorem rat_set (b c : List Nat) (t v : Nat) {i : Nat} (hb : b.length = i) : (b ++ (t :: c)).set i v = b ++ (v :: c) := by
  subst hb; simp
theorem rat_lt (b c : List Nat) (t : Nat) {i : Nat} (hb : b.length = i) : i < (b ++ (t :: c)).length := by
  subst hb; simp
theorem rmul_val {B V T X x o i n : Nat} {ms ds pre : List Nat} (hp : pre.length = i) (hd : ds.length = n) (hm : val B ms = val B pre + B ^ i * V) (he : val B ds + B ^ n * o = V + T * x) (hv : val B ms = T * X) :
    val B (pre ++ ds ++ [o]) = T * (X + B ^ i * x) := by
  rw [val_snoc, val_append, List.length_append, hp, hd, Nat.pow_add, Nat.mul_assoc, Nat.add_assoc, ← Nat.mul_add, he, Nat.mul_add, Nat.mul_add, ← hv, hm]
  have : B ^ i * (T * x) = T * (B ^ i * x) := by rw [← Nat.mul_assoc, Nat.mul_comm (B ^ i), Nat.mul_assoc]
  omega
set_option maxHeartbeats 1600000 in
set_option maxRecDepth 20000 in
theorem rmul_any (A B : Option Addr) (xs ys : List Nat) (c d : Nat) (w : World) (hx : Sl .u32 w w.heap.size A xs) (hy : Sl .u32 w w.heap.size B ys) (dx : Dig W32 xs) (dy : Dig W32 ys)
    (hl : (xs.length + ys.length) * 4 ≤ 140737488351232) :
    Calls Try.prog 96 #[.slice A xs.length c, .slice B ys.length d] w fun e w' => ∃ v, e = .returned v ∧ Limbs w (val W32 ys * val W32 xs) (xs.length + ys.length) v w' := by
  go_enter Try.func96, Try.ntmps96
  go_wp2_with (at_make; refine wpList_make_row _ rfl _ _ 47 rfl 85 .u32 4 Try.underlying47 info_u32 _ _ _ _ (xs.length + ys.length) rfl rfl (by omega) (by omega) (by omega) (by unfold maxLen; omega) ?_
               intro w1 hrow1 hbel1)
  have hg : w.heap.size < w1.heap.size := hrow1.lt
  go_loopg [6] xs.length (fun g iv wr => ∃ (i : Nat) (ms : List Nat), iv = .int .i64 i ∧ i + g = xs.length ∧ ms.length = ys.length + i ∧ Dig W32 ms ∧ val W32 ms = val W32 ys * val W32 (xs.take i) ∧
      Row .u32 wr w.heap.size 85 (ms ++ List.replicate g 0) ∧ Upd w.heap.size w1 wr)
  case atStart => exact ⟨0, List.replicate ys.length 0, rfl, by omega, by simp, Dig.replicate (by decide) _, by rw [val_replicate]; simp [val], by rw [List.replicate_append_replicate, Nat.add_comm]; exact hrow1, Upd.refl _ _⟩
  case round =>
    obtain ⟨i, ms, rfl, hig, hml, hmd, hv, hrow, hu⟩ := hrel
    have HM := Lib.hid hml; clear hml
    have HV := Lib.hid hv; clear hv
    have HI := Lib.hid hig
    cases gk with
    | zero =>
      obtain rfl : i = xs.length := by omega
      clear hig HI
      rw [List.replicate_zero, List.append_nil] at hrow
      have h1 := HV.out
      rw [List.take_length] at h1
      have HV1 := Lib.hid h1
      have hsl := hrow.sl hrow.lt
      have hT : Calls Try.prog 108 #[.slice (some ⟨w.heap.size, 0, none⟩) (xs.length + ys.length) (xs.length + ys.length)] wr fun e w' => e = .returned (.slice (some ⟨w.heap.size, 0, none⟩) (trimL ms).length (xs.length + ys.length)) ∧ wr = w' := by
        have := rtrim_any (some ⟨w.heap.size, 0, none⟩) ms (xs.length + ys.length) wr hsl (by have := HM.out; omega) (by unfold maxLen; omega)
        rw [HM.out, Nat.add_comm ys.length] at this
        exact this
      have HT := Lib.hid hT
      clear hT h1
      go_wp2_with fail
      refine (HT.out).mono ?_
      rintro e w5 ⟨rfl, rfl⟩
      go_wp2_with fail
      go_ret
      have hln := trimL_len ms
      rw [HM.out] at hln
      exact ⟨_, rfl, _, _, _, rfl, sl_trimL hsl, dig_trimL hmd, norm_trimL _, by rw [val_trimL, HV1.out], by omega, Nat.le_refl _, hbel1.trans (hu.below (Nat.le_refl _))⟩
    | succ g1 =>
      have hlt : i < xs.length := by omega
      clear hig
      obtain ⟨ad, rfl, hb1, h1⟩ := (hx.below hbel1).at_ hlt
      have hxx := dx.get hlt
      have hty := val_take_succ W32 hlt
      generalize xs[i] = x at *
      have HX := Lib.hid h1
      have HTY := Lib.hid hty
      have hal : (ms.take i).length = i := by rw [List.length_take]; have := HM.out; omega
      have hbl : (ms.drop i).length = ys.length := by rw [List.length_drop]; have := HM.out; omega
      have hsp := val_take_drop W32 ms i (by have := HM.out; omega)
      have hrow2 : Row .u32 wr w.heap.size 85 (ms.take i ++ (ms.drop i ++ List.replicate (g1 + 1) 0)) := by rw [← List.append_assoc, List.take_append_drop]; exact hrow
      have hpd := hmd.take i
      have htd := hmd.drop i
      obtain ⟨pre, hpre⟩ : ∃ pre, ms.take i = pre := ⟨_, rfl⟩
      obtain ⟨zs, hzs⟩ : ∃ zs, ms.drop i = zs := ⟨_, rfl⟩
      obtain ⟨Z, hZ⟩ : ∃ Z, List.replicate (g1 + 1) 0 = Z := ⟨_, rfl⟩
      rw [hpre] at hal hsp hrow2 hpd
      rw [hzs] at hbl hsp hrow2 htd
      rw [hZ] at hrow2
      have HAL := Lib.hid hal
      have HBL := Lib.hid hbl
      have HSP := Lib.hid hsp
      have HZ := Lib.hid hZ
      clear hal hbl hsp hrow hpre hzs hZ hty h1
      have hji : (i : Int) < (xs.length : Int) := by omega
      have hxx' : x ≤ 4294967295 := by have : x < 4294967296 := hxx; omega
      go_wp2_with fail
      go_loopg [7, 8] ys.length (fun h cv kv wx => ∃ (k o : Nat) (ds : List Nat), kv = .int .i64 k ∧ k + h = ys.length ∧ cv = .int .u64 o ∧ o < W32 ∧ ds.length = k ∧ Dig W32 ds ∧ val W32 ds + W32 ^ k * o = val W32 (zs.take k) + val W32 (ys.take k) * x ∧
          Row .u32 wx w.heap.size 85 (pre ++ ((ds ++ zs.drop k) ++ Z)) ∧ Upd w.heap.size w1 wx)
      case atStart => exact ⟨0, 0, [], rfl, by omega, rfl, by decide, rfl, Dig.nil _, by simp [val], by simpa using hrow2, hu⟩
      case round =>
        clear hrow2 hu
        obtain ⟨k, o, ds, rfl, hkg, rfl, ho, hdl, hdd, he, hrow, hu⟩ := hrel
        have HD := Lib.hid hdl; clear hdl
        have HE := Lib.hid he; clear he
        have HK := Lib.hid hkg
        have h1 := (hu.cell (p := ad.add i) (Nat.ne_of_lt hb1)).trans HX.out
        cases gk with
        | zero =>
          obtain rfl : k = ys.length := by omega
          clear hkg HK
          have h3 : zs.drop ys.length = [] := by rw [← HBL.out, List.drop_length]
          rw [h3, List.append_nil, ← HZ.out, List.replicate_succ] at hrow
          have hpl : (pre ++ ds).length = i + ys.length := by rw [List.length_append, HAL.out, HD.out]
          rw [← List.append_assoc] at hrow
          have gf := hrow.frozen (i + ys.length)
          have gc := hrow.cell (i := i + ys.length) (rat_lt _ _ _ hpl)
          rw [rat_get _ _ _ hpl] at gc
          have hrs := hrow.set_ (i + ys.length) o
          rw [rat_set _ _ _ _ hpl] at hrs
          have hst : pre ++ ds ++ (o :: List.replicate g1 0) = (pre ++ ds ++ [o]) ++ List.replicate g1 0 := by simp
          rw [hst] at hrs
          have h4 := HE.out
          rw [List.take_length, show zs.take ys.length = zs by rw [← HBL.out, List.take_length]] at h4
          have hval := rmul_val HAL.out HD.out HSP.out h4 HV.out
          rw [← HTY.out] at hval
          have HVAL := Lib.hid hval
          have HRS := Lib.hid hrs
          have HPL := Lib.hid hpl
          have hi2 : (i : Int) + (ys.length : Int) < (xs.length : Int) + (ys.length : Int) := by omega
          have ho' : o < 4294967296 := ho
          clear hrow h3 hst h4 hval hrs hpl h1
          go_wp2
          go_roundg g1
          case measure => omega
          case rel => exact ⟨i + 1, _, by go_num, by have := HI.out; omega, by rw [List.length_append, HPL.out]; simp; omega, dig_snoc (hpd.append hdd) ho, HVAL.out, HRS.out, hu.setCell _ _⟩
        | succ h0 =>
          have hkl : k < ys.length := by omega
          have hkz : k < zs.length := by rw [HBL.out]; exact hkl
          clear hkg
          obtain ⟨bd, rfl, hb2, h2⟩ := ((hy.below hbel1).upd hu (Nat.le_refl _)).at_ hkl
          have hyy := dy.get hkl
          have hzz := htd.get hkz
          have gf := hrow.frozen (i + k)
          have gc := hrow.cell (i := i + k) (by have := HAL.out; have := HD.out; simp; omega)
          have hgz : (pre ++ ((ds ++ zs.drop k) ++ Z))[i + k]'(by have := HAL.out; have := HD.out; simp; omega) = zs[k] := by
            have h := get_mid pre (ds ++ zs.drop k) Z (k := k) (by rw [fill_length ds zs HD.out (by omega)]; exact hkz) (by have := HD.out; simp; omega)
            rw [fill_get ds zs HD.out hkz] at h
            rw [← h]
            congr 1
            rw [HAL.out]
          rw [hgz] at gc
          have hset : ∀ v : Nat, (pre ++ ((ds ++ zs.drop k) ++ Z)).set (i + k) v = pre ++ (((ds ++ [v]) ++ zs.drop (k + 1)) ++ Z) := fun v => by
            have h := set_mid pre (ds ++ zs.drop k) Z (k := k) v (by rw [fill_length ds zs HD.out (by omega)]; exact hkz)
            rw [fill_put ds zs v HD.out hkz] at h
            rw [← h]
            congr 1
            rw [HAL.out]
          have hrs := fun v => hrow.set_ (i + k) v
          have hstep := fun v o' => step_up (v := v) (c' := o') (t := zs[k] + ys[k] * x) HE.out HD.out
          have hty2 : val W32 (zs.take (k + 1)) + val W32 (ys.take (k + 1)) * x = val W32 (zs.take k) + val W32 (ys.take k) * x + W32 ^ k * (zs[k] + ys[k] * x) := by
            rw [val_take_succ W32 hkz, val_take_succ W32 hkl, Nat.mul_add, Nat.add_mul, Nat.mul_assoc]; omega
          generalize zs[k] = z at *
          generalize ys[k] = y at *
          have hyy' : y ≤ 4294967295 := by have : y < 4294967296 := hyy; omega
          have hzz' : z ≤ 4294967295 := by have : z < 4294967296 := hzz; omega
          have hoo' : o ≤ 4294967295 := by have : o < 4294967296 := ho; omega
          have hPb : x * y ≤ 18446744065119617025 := by
            have := Nat.mul_le_mul hxx' hyy'
            omega
          have hcm := Nat.mul_comm x y
          obtain ⟨P, hP⟩ : ∃ P, x * y = P := ⟨_, rfl⟩
          rw [hP] at hPb hcm
          have hPi : (x : Int) * (y : Int) = (P : Int) := by rw [← hP]; simp
          obtain ⟨Q, hQ⟩ : ∃ Q, (P + z + o) / 4294967296 = Q := ⟨_, rfl⟩
          obtain ⟨R, hR⟩ : ∃ R, (P + z + o) % 4294967296 = R := ⟨_, rfl⟩
          have hi1 : ((P : Int) + (z : Int) + (o : Int)) / 4294967296 = (Q : Int) := by omega
          have hi2 : ((P : Int) + (z : Int) + (o : Int)) % 4294967296 = (R : Int) := by omega
          have hQ1 : Q < W32 := by show Q < 4294967296; omega
          have hR1 : R < W32 := by show R < 4294967296; omega
          have hst' := hstep R Q (by rw [← hcm]; show R + 4294967296 * Q = _; omega)
          rw [← hty2] at hst'
          have hrs' := hrs R
          rw [hset R] at hrs'
          have HS := Lib.hid hst'
          have HR := Lib.hid hrs'
          have HQ1 := Lib.hid hQ1
          have HR1 := Lib.hid hR1
          clear hstep hset hrs hst' hrs' hQ hR hgz hty2 hcm hP hrow hxx hyy hzz hQ1 hR1
          have hki : (k : Int) < (ys.length : Int) := by omega
          have hi3 : (i : Int) + (k : Int) < (xs.length : Int) + (ys.length : Int) := by omega
          go_wp2
          go_quiet (fail)
          go_wp2
          go_roundg h0
          case measure => omega
          case rel => exact ⟨k + 1, Q, ds ++ [R], by go_num, by have := HK.out; omega, congrArg _ hi1, HQ1.out, by have := HD.out; simp; omega, dig_snoc hdd HR1.out, HS.out, (HR.out).drew _, by first | exact (hu.drewN _).setCell _ _ | exact (hu.setCell _ _).drewN _⟩
end Go.Proofs.Ytffjkfjokikhnaa
/-! ### Radd -/
namespace Go.Proofs.Ytffjkfjokikhnaa
open Go.RowKit Nb
/-- The digit at k, or nought. -/
theorem val_take_getD (B : Nat) (xs : List Nat) (k : Nat) : val B (xs.take (k + 1)) = val B (xs.take k) + B ^ k * xs.getD k 0 := by
  rcases Nat.lt_or_ge k xs.length with h | h
  · rw [val_take_succ B h, List.getD_eq_getElem?_getD, List.getElem?_eq_getElem h]; rfl
  · rw [List.take_of_length_le (show xs.length ≤ k + 1 by omega), List.take_of_length_le h, List.getD_eq_getElem?_getD, List.getElem?_eq_none h]; simp
theorem getD_in {xs : List Nat} {k : Nat} (h : k < xs.length) : xs.getD k 0 = xs[k] := by
  rw [List.getD_eq_getElem?_getD, List.getElem?_eq_getElem h]; rfl
theorem getD_out {xs : List Nat} {k : Nat} (h : xs.length ≤ k) : xs.getD k 0 = 0 := by
  rw [List.getD_eq_getElem?_getD, List.getElem?_eq_none h]; rfl
theorem radd_step {k o s x y X Y : Nat} {zs : List Nat} (he : val W32 zs + W32 ^ k * o = X + Y) (hl : zs.length = k) (hs : s = o + x + y) :
    val W32 (zs ++ [s % 4294967296]) + W32 ^ (k + 1) * (s / 4294967296) = X + W32 ^ k * x + (Y + W32 ^ k * y) := by
  rw [step_up (v := s % 4294967296) (c' := s / 4294967296) (t := x + y) he hl (by show s % 4294967296 + 4294967296 * (s / 4294967296) = _; omega), Nat.mul_add]
  omega
/-- A new list of limbs that tells a number, noughts above or not. -/
def Limbs0 (w : World) (V C : Nat) (v : Value) (w' : World) : Prop := ∃ (A : Option Addr) (zs : List Nat) (c : Nat), v = .slice A zs.length c ∧ Sl .u32 w' w'.heap.size A zs ∧ Dig W32 zs ∧ val W32 zs = V ∧ zs.length ≤ c ∧ c ≤ maxLen ∧ zs.length ≤ C ∧ Below w.heap.size w w'
theorem limbs_own {w w' : World} {v : Value} {zs : List Nat} {C : Nat} (h : w'.ownsRow w.heap.size 85 1 v zs.length (zs.map fun n : Nat => Value.int .u32 n)) (dz : Dig W32 zs) (hC : zs.length ≤ C) (hb : Below w.heap.size w w') :
    Limbs0 w (val W32 zs) C v w' := by
  have h0 := h
  obtain ⟨hl, ⟨rfl, hn⟩ | ⟨g, cap, cur, rfl, hbg, hg, hnc, hcm, hcs, ht⟩⟩ := h
  · obtain rfl := List.eq_nil_of_length_eq_zero hn
    exact ⟨none, [], 0, rfl, Sl.none_, dz, rfl, Nat.le_refl _, Nat.zero_le _, hC, hb⟩
  · exact ⟨_, zs, cap, rfl, Sl.of_own h0, dz, rfl, hnc, hcm, hC, hb⟩
set_option maxHeartbeats 800000 in
set_option maxRecDepth 20000 in
theorem rtimes_any (A : Option Addr) (xs : List Nat) (c y : Nat) (w : World) (hx : Sl .u32 w w.heap.size A xs) (dx : Dig W32 xs) (hy : y ≤ 4294967295) (hl : (xs.length + 1) * 4 ≤ 140737488351232) :
    Calls Try.prog 94 #[.slice A xs.length c, .int .u32 y] w fun e w' => ∃ v, e = .returned v ∧ Limbs w (y * val W32 xs) (xs.length + 1) v w' := by
  go_enter Try.func94, Try.ntmps94
  go_wp2_with fail
  have hrow : Row .u32 (w.alloc (.cells #[.int .u32 (y : Nat)] 85)) w.heap.size 85 [y] := heap_alloc_new _ _
  have hb : Below w.heap.size w (w.alloc (.cells #[.int .u32 (y : Nat)] 85)) := by go_grown
  generalize hW : w.alloc (.cells #[.int .u32 (y : Nat)] 85) = W at *
  clear hW
  have hd1 : Dig W32 [y] := Dig.one (show y < 4294967296 by omega)
  have hs := hrow.sl hrow.lt
  have hT : Calls Try.prog 108 #[.slice (some ⟨w.heap.size, 0, none⟩) 1 1] W fun e w' => e = .returned (.slice (some ⟨w.heap.size, 0, none⟩) (trimL [y]).length 1) ∧ W = w' :=
    rtrim_any (some ⟨w.heap.size, 0, none⟩) [y] 1 W hs (Nat.le_refl _) (by unfold maxLen; omega)
  have htl := trimL_len [y]
  simp only [List.length_cons, List.length_nil, Nat.zero_add] at htl
  have hM := rmul_any A (some ⟨w.heap.size, 0, none⟩) xs (trimL [y]) c 1 W ((hx.below hb).more hb.size) (sl_trimL hs) dx (dig_trimL hd1) (by omega)
  have hv : val W32 (trimL [y]) = y := by rw [val_trimL]; simp [val]
  rw [hv] at hM
  have HT := Lib.hid hT
  have HM := Lib.hid hM
  clear hT hM hv hs hrow hd1
  refine (HT.out).mono ?_
  rintro e w5 ⟨rfl, rfl⟩
  go_wp2_with fail
  refine (HM.out).mono ?_
  rintro e w6 ⟨v, rfl, B, zs, c', rfl, h1, h2, h3, h4, h5, h6, h7⟩
  go_wp2_with fail
  go_ret
  exact ⟨_, rfl, B, zs, c', rfl, h1, h2, h3, h4, h5, by omega, hb.trans (h7.mono hb.size)⟩
set_option maxHeartbeats 3200000 in
set_option maxRecDepth 20000 in
theorem radd_any (A B : Option Addr) (xs ys : List Nat) (c d N : Nat) (w : World) (hx : Sl .u32 w w.heap.size A xs) (hy : Sl .u32 w w.heap.size B ys) (dx : Dig W32 xs) (dy : Dig W32 ys)
    (hn : xs.length ≤ N) (hm : ys.length ≤ N) (hl : (N + 1) * 4 ≤ 140737488351232) :
    Calls Try.prog 91 #[.slice A xs.length c, .slice B ys.length d] w fun e w' => ∃ v, e = .returned v ∧ Limbs0 w (val W32 xs + val W32 ys) (N + 1) v w' := by
  obtain ⟨i0, hi, hz0, hz1, hz2⟩ := info_parts info_u32
  go_enter Try.func91, Try.ntmps91
  go_wp2_with fail
  go_loopg [5, 6, 7] (N + 1) (fun g ov cv iv wr => ∃ (k o : Nat) (zs : List Nat), iv = .int .i64 k ∧ k + g = N + 1 ∧ cv = .int .u64 o ∧ o ≤ 1 ∧ (k = N + 1 → o = 0) ∧ zs.length = k ∧ Dig W32 zs ∧ val W32 zs + W32 ^ k * o = val W32 (xs.take k) + val W32 (ys.take k) ∧
      wr.ownsRow w.heap.size 85 1 ov zs.length (zs.map fun n : Nat => Value.int .u32 n) ∧ Below w.heap.size w wr)
  case atStart => exact ⟨0, 0, [], rfl, by omega, rfl, by omega, fun _ => rfl, rfl, Dig.nil _, by simp [val], World.ownsRow_nil _ _ _ _, Below.refl _ _⟩
  case round =>
    obtain ⟨k, o, zs, rfl, hkg, rfl, ho, hoN, hzl, hzd, he, hown, hbel⟩ := hrel
    have HZ := Lib.hid hzl
    have HG := Lib.hid hkg
    have HN := Lib.hid hoN
    have htx := val_take_getD W32 xs k
    have hty := val_take_getD W32 ys k
    have hst := fun s (h : s = o + xs.getD k 0 + ys.getD k 0) => radd_step he hzl h
    rw [← htx, ← hty] at hst
    have HE := Lib.hid he
    clear htx hty hzl hkg hoN he
    have hgs := hbel.size
    by_cases hkx : k < xs.length
    · by_cases hky : k < ys.length
      · obtain ⟨ad, rfl, _, h1⟩ := (hx.below hbel).at_ hkx
        have hxx := dx.get hkx
        rw [getD_in hkx] at hst
        generalize xs[k] = x at *
        have hx1 : x ≤ 4294967295 := by have : x < 4294967296 := hxx; omega
        have hxi : (k : Int) < (xs.length : Int) := by omega
        obtain ⟨bd, rfl, _, h2⟩ := (hy.below hbel).at_ hky
        have hyy := dy.get hky
        rw [getD_in hky] at hst
        generalize ys[k] = y at *
        have hy1 : y ≤ 4294967295 := by have : y < 4294967296 := hyy; omega
        have hyi : (k : Int) < (ys.length : Int) := by omega
        obtain ⟨Q, hQ⟩ : ∃ Q, (o + x + y) / 4294967296 = Q := ⟨_, rfl⟩
        obtain ⟨R, hR⟩ : ∃ R, (o + x + y) % 4294967296 = R := ⟨_, rfl⟩
        have hst2 := hst (o + x + y) (by omega)
        rw [hQ, hR] at hst2
        have HST := Lib.hid hst2
        have hQ1 : Q ≤ 1 := by omega
        have hR1 : R < W32 := by show R < 4294967296; omega
        have hi1 : ((o : Int) + (x : Int) + (y : Int)) / 4294967296 = (Q : Int) := by omega
        have hi2 : ((o : Int) + (x : Int) + (y : Int)) % 4294967296 = (R : Int) := by omega
        have HR1 := Lib.hid hR1
        have HQ1 := Lib.hid hQ1
        have hQN : k + 1 = N + 1 → Q = 0 := fun h => by omega
        clear hst hst2 hQ hR hR1
        have hzk : zs.length ≤ N := by have := HZ.out; have := HG.out; omega
        have HOWN := Lib.hid hown
        go_wp2_with (at_builtin; refine wpList_append_own _ rfl (.tmp 48) (.tmp 52) 47 rfl w.heap.size 85 i0 (.int .u32 0) 1 4 Try.underlying47 hi hz0 hz1 hz2 rfl (by decide) _ _ _ rfl (HOWN.out.alloc _) ⟨wr.heap.size, 0, none⟩ 1 1 [.int .u32 (R : Nat)] rfl rfl (by intro j u hj; match j, hj with | 0, hj => simp at hj; subst hj; simp [Addr.add]) (by intro u hu; simp at hu; subst hu; rfl) (by unfold maxLen; omega) (by omega) (by simp; omega) ?_
                     intro v' w3 hown3 hgrow3 _)
        have hbel3 : Below w.heap.size w w3 := (hbel.alloc (by omega) _).grown hgrow3 (by simp; omega) (fun q hq => (HOWN.out.lt q hq).1)
        have HB3 := Lib.hid hbel3
        have HO3 := Lib.hid hown3
        clear hbel3 hown3 hgrow3
        go_wp2_with fail
        go_roundg (gk - 1)
        case measure => have := HG.out; omega
        case rel => exact ⟨k + 1, Q, zs ++ [R], by go_num, by have := HG.out; omega, by first | rfl | exact congrArg _ hi1, HQ1.out, hQN, by rw [List.length_append, HZ.out]; rfl, dig_snoc hzd HR1.out, HST.out, by simpa using HO3.out, HB3.out⟩
      · rw [Nat.not_lt] at hky
        obtain ⟨ad, rfl, _, h1⟩ := (hx.below hbel).at_ hkx
        have hxx := dx.get hkx
        rw [getD_in hkx] at hst
        generalize xs[k] = x at *
        have hx1 : x ≤ 4294967295 := by have : x < 4294967296 := hxx; omega
        have hxi : (k : Int) < (xs.length : Int) := by omega
        rw [getD_out hky] at hst
        have hyi : ¬ (k : Int) < (ys.length : Int) := by omega
        obtain ⟨Q, hQ⟩ : ∃ Q, (o + x) / 4294967296 = Q := ⟨_, rfl⟩
        obtain ⟨R, hR⟩ : ∃ R, (o + x) % 4294967296 = R := ⟨_, rfl⟩
        have hst2 := hst (o + x) (by omega)
        rw [hQ, hR] at hst2
        have HST := Lib.hid hst2
        have hQ1 : Q ≤ 1 := by omega
        have hR1 : R < W32 := by show R < 4294967296; omega
        have hi1 : ((o : Int) + (x : Int)) / 4294967296 = (Q : Int) := by omega
        have hi2 : ((o : Int) + (x : Int)) % 4294967296 = (R : Int) := by omega
        have HR1 := Lib.hid hR1
        have HQ1 := Lib.hid hQ1
        have hQN : k + 1 = N + 1 → Q = 0 := fun h => by omega
        clear hst hst2 hQ hR hR1
        have hzk : zs.length ≤ N := by have := HZ.out; have := HG.out; omega
        have HOWN := Lib.hid hown
        go_wp2_with (at_builtin; refine wpList_append_own _ rfl (.tmp 48) (.tmp 52) 47 rfl w.heap.size 85 i0 (.int .u32 0) 1 4 Try.underlying47 hi hz0 hz1 hz2 rfl (by decide) _ _ _ rfl (HOWN.out.alloc _) ⟨wr.heap.size, 0, none⟩ 1 1 [.int .u32 (R : Nat)] rfl rfl (by intro j u hj; match j, hj with | 0, hj => simp at hj; subst hj; simp [Addr.add]) (by intro u hu; simp at hu; subst hu; rfl) (by unfold maxLen; omega) (by omega) (by simp; omega) ?_
                     intro v' w3 hown3 hgrow3 _)
        have hbel3 : Below w.heap.size w w3 := (hbel.alloc (by omega) _).grown hgrow3 (by simp; omega) (fun q hq => (HOWN.out.lt q hq).1)
        have HB3 := Lib.hid hbel3
        have HO3 := Lib.hid hown3
        clear hbel3 hown3 hgrow3
        go_wp2_with fail
        go_roundg (gk - 1)
        case measure => have := HG.out; omega
        case rel => exact ⟨k + 1, Q, zs ++ [R], by go_num, by have := HG.out; omega, by first | rfl | exact congrArg _ hi1, HQ1.out, hQN, by rw [List.length_append, HZ.out]; rfl, dig_snoc hzd HR1.out, HST.out, by simpa using HO3.out, HB3.out⟩
    · rw [Nat.not_lt] at hkx
      by_cases hky : k < ys.length
      · rw [getD_out hkx] at hst
        have hxi : ¬ (k : Int) < (xs.length : Int) := by omega
        obtain ⟨bd, rfl, _, h2⟩ := (hy.below hbel).at_ hky
        have hyy := dy.get hky
        rw [getD_in hky] at hst
        generalize ys[k] = y at *
        have hy1 : y ≤ 4294967295 := by have : y < 4294967296 := hyy; omega
        have hyi : (k : Int) < (ys.length : Int) := by omega
        obtain ⟨Q, hQ⟩ : ∃ Q, (o + y) / 4294967296 = Q := ⟨_, rfl⟩
        obtain ⟨R, hR⟩ : ∃ R, (o + y) % 4294967296 = R := ⟨_, rfl⟩
        have hst2 := hst (o + y) (by omega)
        rw [hQ, hR] at hst2
        have HST := Lib.hid hst2
        have hQ1 : Q ≤ 1 := by omega
        have hR1 : R < W32 := by show R < 4294967296; omega
        have hi1 : ((o : Int) + (y : Int)) / 4294967296 = (Q : Int) := by omega
        have hi2 : ((o : Int) + (y : Int)) % 4294967296 = (R : Int) := by omega
        have HR1 := Lib.hid hR1
        have HQ1 := Lib.hid hQ1
        have hQN : k + 1 = N + 1 → Q = 0 := fun h => by omega
        clear hst hst2 hQ hR hR1
        have hzk : zs.length ≤ N := by have := HZ.out; have := HG.out; omega
        have HOWN := Lib.hid hown
        go_wp2_with (at_builtin; refine wpList_append_own _ rfl (.tmp 48) (.tmp 52) 47 rfl w.heap.size 85 i0 (.int .u32 0) 1 4 Try.underlying47 hi hz0 hz1 hz2 rfl (by decide) _ _ _ rfl (HOWN.out.alloc _) ⟨wr.heap.size, 0, none⟩ 1 1 [.int .u32 (R : Nat)] rfl rfl (by intro j u hj; match j, hj with | 0, hj => simp at hj; subst hj; simp [Addr.add]) (by intro u hu; simp at hu; subst hu; rfl) (by unfold maxLen; omega) (by omega) (by simp; omega) ?_
                     intro v' w3 hown3 hgrow3 _)
        have hbel3 : Below w.heap.size w w3 := (hbel.alloc (by omega) _).grown hgrow3 (by simp; omega) (fun q hq => (HOWN.out.lt q hq).1)
        have HB3 := Lib.hid hbel3
        have HO3 := Lib.hid hown3
        clear hbel3 hown3 hgrow3
        go_wp2_with fail
        go_roundg (gk - 1)
        case measure => have := HG.out; omega
        case rel => exact ⟨k + 1, Q, zs ++ [R], by go_num, by have := HG.out; omega, by first | rfl | exact congrArg _ hi1, HQ1.out, hQN, by rw [List.length_append, HZ.out]; rfl, dig_snoc hzd HR1.out, HST.out, by simpa using HO3.out, HB3.out⟩
      · rw [Nat.not_lt] at hky
        rcases (show o = 0 ∨ o = 1 by omega) with rfl | rfl
        · have hxi : ¬ (k : Int) < (xs.length : Int) := by omega
          have hyi : ¬ (k : Int) < (ys.length : Int) := by omega
          clear hst
          go_wp2
          go_ret
          have h1 := HE.out
          rw [Nat.mul_zero, Nat.add_zero, List.take_of_length_le hkx, List.take_of_length_le hky] at h1
          refine ⟨_, rfl, ?_⟩
          rw [← h1]
          exact limbs_own hown hzd (by have := HZ.out; have := HG.out; omega) hbel
        · rw [getD_out hkx] at hst
          have hxi : ¬ (k : Int) < (xs.length : Int) := by omega
          rw [getD_out hky] at hst
          have hyi : ¬ (k : Int) < (ys.length : Int) := by omega
          obtain ⟨Q, hQ⟩ : ∃ Q, (1) / 4294967296 = Q := ⟨_, rfl⟩
          obtain ⟨R, hR⟩ : ∃ R, (1) % 4294967296 = R := ⟨_, rfl⟩
          have hst2 := hst (1) (by omega)
          rw [hQ, hR] at hst2
          have HST := Lib.hid hst2
          have hQ1 : Q ≤ 1 := by omega
          have hR1 : R < W32 := by show R < 4294967296; omega
          obtain rfl : Q = 0 := by omega
          obtain rfl : R = 1 := by omega
          have HR1 := Lib.hid hR1
          have HQ1 := Lib.hid hQ1
          have hkN : k ≤ N := by
            rcases Nat.lt_or_ge N k with h | h
            · exact absurd (HN.out (by have := HG.out; omega)) (by decide)
            · exact h
          clear hst hst2 hQ hR hR1
          have hzk : zs.length ≤ N := by have := HZ.out; have := HG.out; omega
          have HOWN := Lib.hid hown
          go_wp2_with (at_builtin; refine wpList_append_own _ rfl (.tmp 48) (.tmp 52) 47 rfl w.heap.size 85 i0 (.int .u32 0) 1 4 Try.underlying47 hi hz0 hz1 hz2 rfl (by decide) _ _ _ rfl (HOWN.out.alloc _) ⟨wr.heap.size, 0, none⟩ 1 1 [.int .u32 (1 : Nat)] rfl rfl (by intro j u hj; match j, hj with | 0, hj => simp at hj; subst hj; simp [Addr.add]) (by intro u hu; simp at hu; subst hu; rfl) (by unfold maxLen; omega) (by omega) (by simp; omega) ?_
                       intro v' w3 hown3 hgrow3 _)
          have hbel3 : Below w.heap.size w w3 := (hbel.alloc (by omega) _).grown hgrow3 (by simp; omega) (fun q hq => (HOWN.out.lt q hq).1)
          have HB3 := Lib.hid hbel3
          have HO3 := Lib.hid hown3
          clear hbel3 hown3 hgrow3
          go_wp2_with fail
          go_roundg (gk - 1)
          case measure => have := HG.out; omega
          case rel => exact ⟨k + 1, 0, zs ++ [1], by go_num, by have := HG.out; omega, by first | rfl | exact congrArg _ hi1, HQ1.out, fun _ => rfl, by rw [List.length_append, HZ.out]; rfl, dig_snoc hzd HR1.out, HST.out, by simpa using HO3.out, HB3.out⟩
end Go.Proofs.Ytffjkfjokikhnaa
/-! ### Of -/
namespace Go.Proofs.Ytffjkfjokikhnaa
open Go.RowKit Nb
def ofL (n : Int) : List Nat := trimL [n.natAbs]
theorem ofL_dig {n : Int} (h0 : -9223372036854775808 ≤ n) (h1 : n ≤ 9223372036854775807) : Dig W64 (ofL n) := dig_trimL (Dig.one (show n.natAbs < 18446744073709551616 by omega))
theorem ofL_norm (n : Int) : Norm (ofL n) := norm_trimL _
theorem ofL_val (n : Int) : val W64 (ofL n) = n.natAbs := by rw [ofL, val_trimL]; simp [val]
theorem ofL_len (n : Int) : (ofL n).length ≤ 1 := trimL_len _
theorem ofL_pos {n : Int} (h : n ≠ 0) : 0 < (ofL n).length := by
  rcases Nat.eq_zero_or_pos (ofL n).length with h0 | h0
  · have := ofL_val n
    rw [List.eq_nil_of_length_eq_zero h0] at this
    simp [val] at this; omega
  · exact h0
end Go.Proofs.Ytffjkfjokikhnaa
/-! ### Ref -/
namespace Go.Proofs.Ytffjkfjokikhnaa
open Go.RowKit Nb
theorem bits_pow (x i : Nat) : x / 2 ^ i / 2 = x / 2 ^ (i + 1) := by rw [Nat.div_div_eq_div_mul, Nat.pow_succ]
set_option maxHeartbeats 400000 in
theorem signed_any (neg : Bool) (A : Option Addr) (ls : List Nat) (c : Nat) (w : World) (hr : Sl .u32 w w.heap.size A ls) (hl : ls.length ≤ c) (hc : c * 4 ≤ 140737488351232) :
    Calls Try.prog 90 #[.bool neg, .slice A ls.length c] w fun e w' => ∃ A' c', e = .returned (big (neg && decide (0 < (trimL ls).length)) A' (trimL ls).length c') ∧
      (0 < (trimL ls).length ∧ A' = A ∧ c' = c ∨ (trimL ls).length = 0 ∧ A' = none ∧ c' = 0) ∧ Below w.heap.size w w' := by
  have hx := rtrim_any A ls c (w.alloc (.cells #[.bool false, .slice none 0 0] 49)) ((hr.alloc (Nat.le_refl _) _).more (by simp)) hl (by unfold maxLen; omega)
  have HX := Lib.hid hx; clear hx
  have hln := trimL_len ls
  rcases hn : (trimL ls).length with _ | n
  · rw [hn] at HX
    go_enter Try.func90, Try.ntmps90
    go_wp2_with (go_at_call 108; refine (HX.out).mono ?_; rintro e w' ⟨rfl, rfl⟩)
    refine bodyPost_ret (v := big false none 0 0) (by simp [results, Try.results90, go_sem]) rfl ?_
    exact ⟨none, 0, by simp, by simp, by go_grown⟩
  · rw [hn] at HX
    have hn2 : n + 1 ≤ c := by omega
    clear hn hln hl
    go_enter Try.func90, Try.ntmps90
    go_wp2_with (go_at_call 108; refine (HX.out).mono ?_; rintro e w' ⟨rfl, rfl⟩)
    refine bodyPost_ret (v := big neg A (n + 1) c) (by simp [results, Try.results90, go_sem]) rfl ?_
    exact ⟨A, c, by simp, by simp, by go_grown⟩
/-- The sign, as the document's own function has it. -/
def rsgn (neg : Bool) (ls : List Nat) : Int := if ls.length = 0 then 0 else if neg then -1 else 1
theorem rsgn_ok {neg : Bool} {ls : List Nat} (h : Ok neg ls) : rsgn neg ls = sgn neg ls := by
  unfold rsgn sgn
  by_cases h0 : ls.length = 0
  · rw [if_pos h0, h.sign (List.eq_nil_of_length_eq_zero h0), if_pos h0]; rfl
  · rw [if_neg h0, if_neg h0]
set_option maxHeartbeats 400000 in
theorem rsign_any (neg : Bool) (A : Option Addr) (ls : List Nat) (c : Nat) (w : World) (hl : ls.length * 4 ≤ 140737488351232) :
    Calls Try.prog 56 #[big neg A ls.length c] w fun e w' => e = .returned (.int .i64 (rsgn neg ls)) ∧ Below w.heap.size w w' := by
  unfold rsgn
  rcases hn : ls.length with _ | j
  · clear hn hl
    go_enter Try.func56, Try.ntmps56
    go_wp2
    go_ret
    exact ⟨rfl, by go_grown⟩
  · have hj : j + 1 ≤ 140737488351232 := by omega
    clear hn hl
    rcases neg with _ | _
    · go_enter Try.func56, Try.ntmps56
      go_wp2
      go_ret
      exact ⟨rfl, by go_grown⟩
    · go_enter Try.func56, Try.ntmps56
      go_wp2
      go_ret
      exact ⟨rfl, by go_grown⟩
set_option maxHeartbeats 400000 in
theorem rbits_any (neg : Bool) (A : Option Addr) (ls : List Nat) (c : Nat) (w : World) (hr : Sl .u32 w w.heap.size A ls) (hd : Dig W32 ls) (hn : Norm ls) (hl : ls.length * 4 ≤ 140737488351232) :
    Calls Try.prog 98 #[big neg A ls.length c] w fun e w' => e = .returned (.int .i64 (bitLen (val W32 ls))) ∧ Below w.heap.size w w' := by
  rcases hln : ls.length with _ | j
  · have e : ls = [] := List.eq_nil_of_length_eq_zero hln
    subst e
    clear hln hl hr
    go_enter Try.func98, Try.ntmps98
    go_wp2
    go_ret
    exact ⟨rfl, by go_grown⟩
  · obtain ⟨ad, rfl, hb, hcell⟩ := hr.at_ (i := j) (by omega)
    have hz := (norm_iff (xs := ls) (by omega)).1 hn
    simp only [hln, Nat.add_sub_cancel] at hz
    have hv := bitLen_val (b := 32) hd hln hz
    have hv2 : (bitLen (val W32 ls) : Int) = 32 * j + bitLen ls[j] := by
      have : bitLen (val W32 ls) = 32 * j + bitLen ls[j] := hv
      omega
    have hj : j + 1 ≤ 35184372087808 := by omega
    have hx : ls[j] < 4294967296 := hd.get (by omega)
    have hbl : bitLen ls[j] ≤ 32 := bitLen_le_iff.2 hx
    have HV := Lib.hid hv2
    generalize ls[j] = x at *
    clear hv hv2 hz hn hr hl hln hd
    go_enter Try.func98, Try.ntmps98
    go_wp2
    go_loop [3, 4] (fun nv tv => ∃ i : Nat, i ≤ bitLen x ∧ nv = .int .i64 (32 * (j : Int) + i) ∧ tv = .int .u32 (x / 2 ^ i : Nat)) (fun nv _ => (32 * (j : Int) + bitLen x - intOf nv).toNat)
    case atStart => exact ⟨0, by omega, by simp, by simp⟩
    case round =>
      obtain ⟨i, hi, rfl, rfl⟩ := hrel
      have hp := bits_pow x i
      have hle := Nat.div_le_self x (2 ^ i)
      by_cases hc : x / 2 ^ i = 0
      · have : x < 2 ^ i := by
          rcases Nat.lt_or_ge x (2 ^ i) with h | h
          · exact h
          · have := Nat.div_pos h (Nat.two_pow_pos i); omega
        have := bitLen_le_iff.2 this
        obtain rfl : i = bitLen x := by omega
        rw [hc]
        clear hp hle hc this
        go_wp2
        go_ret
        exact ⟨by rw [HV.out]; rfl, by go_grown⟩
      · have hi2 : i < bitLen x := by
          rcases Nat.lt_or_ge i (bitLen x) with h | h
          · exact h
          · have := bitLen_le_iff.1 h
            exact absurd (Nat.div_eq_of_lt this) hc
        generalize x / 2 ^ i = y at *
        have HP := Lib.hid hp; clear hp
        have hy : y < 4294967296 := by omega
        go_wp2
        go_round
        case rel => exact ⟨i + 1, by omega, by go_num, by rw [← HP.out]; rfl⟩
        case measure => simp [intOf]; omega
end Go.Proofs.Ytffjkfjokikhnaa
/-! ### Of2 -/
namespace Go.Proofs.Ytffjkfjokikhnaa
open Go.RowKit Nb
/-- The limbs of a number of 64 bits. -/
def ofI (n : Int) : List Nat := unpack (ofL n)
section
variable {n : Int} (h0 : -9223372036854775808 ≤ n) (h1 : n ≤ 9223372036854775807)
include h0 h1
theorem ofI_val : val W32 (ofI n) = n.natAbs := by rw [ofI, val_unpack (ofL_dig h0 h1) (ofL_norm n), ofL_val]
theorem ofI_norm : Norm (ofI n) := norm_unpack (ofL_dig h0 h1) (ofL_norm n)
theorem ofI_len : (ofI n).length ≤ 2 := by
  rw [ofI, unpack_length]
  have h := lenL_le (ofL_dig h0 h1)
  have := ofL_len n
  unfold limbsL; omega
theorem ofI_two : trimL [n.natAbs % 4294967296, n.natAbs / 4294967296] = ofI n := by
  refine norm_inj (B := W32) (by decide) (dig_trimL ?_) (dig_unpack _) (norm_trimL _) (ofI_norm h0 h1) ?_
  · intro x hx
    simp at hx
    show x < 4294967296
    omega
  · rw [ofI_val h0 h1, val_trimL]
    simp [val, W32]; omega
theorem ofI_pos (h : n ≠ 0) : 0 < (ofI n).length := by
  rcases Nat.eq_zero_or_pos (ofI n).length with h2 | h2
  · have := ofI_val h0 h1
    rw [List.eq_nil_of_length_eq_zero h2] at this
    simp [val] at this; omega
  · exact h2
theorem ofI_neg : (decide (n < 0) && decide (0 < (ofI n).length)) = decide (n < 0) := by
  by_cases h : n < 0
  · have := ofI_pos h0 h1 (by omega)
    simp [h, this]
  · simp [h]
theorem ofI_ok : Ok (decide (n < 0)) (ofI n) := by
  refine ⟨by have := ofI_len h0 h1; omega, ofI_norm h0 h1, fun h => ?_⟩
  have := ofI_val h0 h1
  rw [h] at this
  simp [val] at this
  simp; omega
end
theorem ofI_dig (n : Int) : Dig W32 (ofI n) := dig_unpack _
set_option maxHeartbeats 400000 in
theorem rof_any (n : Int) (w : World) (h0 : -9223372036854775808 ≤ n) (h1 : n ≤ 9223372036854775807) :
    Calls Try.prog 89 #[.int .i64 n] w fun e w' => ∃ A c, e = .returned (big (decide (n < 0)) A (ofI n).length c) ∧ Sl .u32 w' w'.heap.size A (ofI n) ∧ (ofI n).length ≤ c ∧ c ≤ 2 ∧ Below w.heap.size w w' := by
  have htwo := ofI_two h0 h1
  have hneg := ofI_neg h0 h1
  have hln := ofI_len h0 h1
  have hrow : ∀ (W : World) (g a b : Nat), g = W.heap.size → Row .u32 (W.alloc (.cells #[.int .u32 a, .int .u32 b] 85)) g 85 [a, b] := fun W g a b hg => by
    subst hg
    exact heap_alloc_new W _
  generalize hm : n.natAbs = m at *
  have hdec : decide (n < 0) = true ∧ IntKind.u64.wrap (-IntKind.u64.wrap n) = (m : Nat) ∨ decide (n < 0) = false ∧ IntKind.u64.wrap n = (m : Nat) := by
    by_cases h : n < 0
    · exact .inl ⟨by simpa using h, by rw [IntKind.wrap_u64, IntKind.wrap_u64]; omega⟩
    · exact .inr ⟨by simpa using h, by rw [IntKind.wrap_u64]; omega⟩
  have hmb : (m : Int) ≤ 9223372036854775808 := by omega
  have hd1 : ((m : Int) % 4294967296) = ((m % 4294967296 : Nat) : Int) := by omega
  have hd2 : ((m : Int) / 4294967296) = ((m / 4294967296 : Nat) : Int) := by omega
  have hd3 : m / 4294967296 < 4294967296 := by omega
  generalize m % 4294967296 = a at *
  generalize m / 4294967296 = b at *
  have HT := Lib.hid htwo; clear htwo
  have HN := Lib.hid hneg; clear hneg hm
  rcases hdec with ⟨hdn, hw⟩ | ⟨hdn, hw⟩
  all_goals rw [hdn] at HN ⊢
  · have hneg : n < 0 := of_decide_eq_true hdn
    clear hdn
    go_enter Try.func89, Try.ntmps89
    go_wp2_with fail
    refine (signed_any true (some ⟨w.heap.size + 1, 0, none⟩) [a, b] 2 _ (by exact ((hrow _ (w.heap.size + 1) a b (by simp)).sl (by simp))) (by simp) (by omega)).mono ?_
    rw [HT.out, HN.out]
    rintro e w1 ⟨A, c, rfl, hA, hb1⟩
    have e0 : w1.cell? ⟨w.heap.size, 0, none⟩ = some (.bool false) := by rw [hb1.cell (by go_size)]; go_cell
    have e1 : w1.cell? ⟨w.heap.size, 1, none⟩ = some (.slice none 0 0) := by rw [hb1.cell (by go_size)]; go_cell
    have f0 : w1.frozen? ⟨w.heap.size, 0, none⟩ = false := by rw [hb1.frozen (by go_size)]; simp
    have f1 : w1.frozen? ⟨w.heap.size, 1, none⟩ = false := by rw [hb1.frozen (by go_size)]; simp
    have hb3 : Below w.heap.size w w1 := by refine Below.trans ?_ (hb1.mono (by go_size)); go_grown
    have hs := hb1.size
    simp at hs
    have hr1 : Row .u32 w1 (w.heap.size + 1) 85 [a, b] := (hrow (w.alloc (.cells #[.bool false, .slice none 0 0] 49)) (w.heap.size + 1) a b (by simp)).below hb1 (by simp)
    have HA := Lib.hid hA; clear hA
    go_wp2
    refine bodyPost_ret (v := big true A (ofI n).length c) (by simp [results, Try.results89, go_sem, e0, e1]) rfl ?_
    refine ⟨A, c, rfl, ?_, ?_, ?_, (hb3.setCell (by simp) _).setCell (by simp) _⟩
    · rcases HA.out with ⟨_, rfl, rfl⟩ | ⟨h2, rfl, rfl⟩
      · rw [← HT.out]
        exact sl_trimL (((hr1.far (by simp) _).far (by simp) _).sl (by simp; omega))
      · rw [List.eq_nil_of_length_eq_zero h2]
        exact Sl.none_
    · rcases HA.out with ⟨_, rfl, rfl⟩ | ⟨h2, rfl, rfl⟩
      · exact hln
      · omega
    · rcases HA.out with ⟨_, rfl, rfl⟩ | ⟨h2, rfl, rfl⟩ <;> omega
  · have hneg : ¬ n < 0 := of_decide_eq_false hdn
    have hneg' : 0 ≤ n := by omega
    clear hdn
    go_enter Try.func89, Try.ntmps89
    go_wp2_with fail
    refine (signed_any false (some ⟨w.heap.size + 1, 0, none⟩) [a, b] 2 _ (by exact ((hrow _ (w.heap.size + 1) a b (by simp)).sl (by simp))) (by simp) (by omega)).mono ?_
    rw [HT.out, HN.out]
    rintro e w1 ⟨A, c, rfl, hA, hb1⟩
    have e0 : w1.cell? ⟨w.heap.size, 0, none⟩ = some (.bool false) := by rw [hb1.cell (by go_size)]; go_cell
    have e1 : w1.cell? ⟨w.heap.size, 1, none⟩ = some (.slice none 0 0) := by rw [hb1.cell (by go_size)]; go_cell
    have f0 : w1.frozen? ⟨w.heap.size, 0, none⟩ = false := by rw [hb1.frozen (by go_size)]; simp
    have f1 : w1.frozen? ⟨w.heap.size, 1, none⟩ = false := by rw [hb1.frozen (by go_size)]; simp
    have hb3 : Below w.heap.size w w1 := by refine Below.trans ?_ (hb1.mono (by go_size)); go_grown
    have hs := hb1.size
    simp at hs
    have hr1 : Row .u32 w1 (w.heap.size + 1) 85 [a, b] := (hrow (w.alloc (.cells #[.bool false, .slice none 0 0] 49)) (w.heap.size + 1) a b (by simp)).below hb1 (by simp)
    have HA := Lib.hid hA; clear hA
    go_wp2
    refine bodyPost_ret (v := big false A (ofI n).length c) (by simp [results, Try.results89, go_sem, e0, e1]) rfl ?_
    refine ⟨A, c, rfl, ?_, ?_, ?_, (hb3.setCell (by simp) _).setCell (by simp) _⟩
    · rcases HA.out with ⟨_, rfl, rfl⟩ | ⟨h2, rfl, rfl⟩
      · rw [← HT.out]
        exact sl_trimL (((hr1.far (by simp) _).far (by simp) _).sl (by simp; omega))
      · rw [List.eq_nil_of_length_eq_zero h2]
        exact Sl.none_
    · rcases HA.out with ⟨_, rfl, rfl⟩ | ⟨h2, rfl, rfl⟩
      · exact hln
      · omega
    · rcases HA.out with ⟨_, rfl, rfl⟩ | ⟨h2, rfl, rfl⟩ <;> omega
end Go.Proofs.Ytffjkfjokikhnaa
/-! ### I64 -/
namespace Go.Proofs.Ytffjkfjokikhnaa
open Go.RowKit Nb
/-- What a sign and a size are worth. -/
def sv (neg : Bool) (v : Nat) : Int := if neg then -(v : Int) else v
end Go.Proofs.Ytffjkfjokikhnaa
/-! ### Left -/
namespace Go.Proofs.Ytffjkfjokikhnaa
open Go.RowKit Nb
/-- Two numbers in two cells of the call's own, and their limbs: what stays while more memory is made. -/
structure Two (w W : World) (p q : Nat) (n1 n2 : Bool) (A B : Option Addr) (xs ys : List Nat) (l1 c l2 d : Nat) : Prop where
  below : Below w.heap.size w W
  lp : p < W.heap.size
  lq : q < W.heap.size
  sa : Sl .u32 W W.heap.size A xs
  sb : Sl .u32 W W.heap.size B ys
  a0 : W.cell? ⟨p, 0, none⟩ = some (.bool n1)
  a1 : W.cell? ⟨p, 1, none⟩ = some (.slice A l1 c)
  b0 : W.cell? ⟨q, 0, none⟩ = some (.bool n2)
  b1 : W.cell? ⟨q, 1, none⟩ = some (.slice B l2 d)
section
variable {w W W' : World} {p q : Nat} {n1 n2 : Bool} {A B : Option Addr} {xs ys : List Nat} {l1 c l2 d : Nat} {X : Prop}
theorem Two.on (h : Two w W p q n1 n2 A B xs ys l1 c l2 d) (hb : Below W.heap.size W W') : Two w W' p q n1 n2 A B xs ys l1 c l2 d :=
  ⟨h.below.trans (hb.mono h.below.size), Nat.lt_of_lt_of_le h.lp hb.size, Nat.lt_of_lt_of_le h.lq hb.size, (h.sa.below hb).more hb.size, (h.sb.below hb).more hb.size,
   (hb.cell (p := ⟨p, 0, none⟩) h.lp).trans h.a0, (hb.cell (p := ⟨p, 1, none⟩) h.lp).trans h.a1, (hb.cell (p := ⟨q, 0, none⟩) h.lq).trans h.b0, (hb.cell (p := ⟨q, 1, none⟩) h.lq).trans h.b1⟩
theorem Two.all (h : Two w W p q n1 n2 A B xs ys l1 c l2 d) : Two w W p q n1 n2 A B xs ys l1 c l2 d ∧ W.cell? ⟨p, 0, none⟩ = some (.bool n1) ∧ W.cell? ⟨p, 1, none⟩ = some (.slice A l1 c) ∧ W.cell? ⟨q, 0, none⟩ = some (.bool n2) ∧ W.cell? ⟨q, 1, none⟩ = some (.slice B l2 d) :=
  ⟨h, h.a0, h.a1, h.b0, h.b1⟩
theorem Two.keep (h : Two w W p q n1 n2 A B xs ys l1 c l2 d ∧ X) (hb : Below W.heap.size W W') : Two w W' p q n1 n2 A B xs ys l1 c l2 d ∧ W'.cell? ⟨p, 0, none⟩ = some (.bool n1) ∧ W'.cell? ⟨p, 1, none⟩ = some (.slice A l1 c) ∧ W'.cell? ⟨q, 0, none⟩ = some (.bool n2) ∧ W'.cell? ⟨q, 1, none⟩ = some (.slice B l2 d) :=
  (h.1.on hb).all
theorem Two.sa' (h : Two w W p q n1 n2 A B xs ys l1 c l2 d ∧ X) : Sl .u32 W W.heap.size A xs := h.1.sa
theorem Two.sb' (h : Two w W p q n1 n2 A B xs ys l1 c l2 d ∧ X) : Sl .u32 W W.heap.size B ys := h.1.sb
theorem Two.below' (h : Two w W p q n1 n2 A B xs ys l1 c l2 d ∧ X) : Below w.heap.size w W := h.1.below
/-- Both boxed. -/
theorem Two.boxed (hr : Sl .u32 w w.heap.size A xs) (hs : Sl .u32 w w.heap.size B ys) :
    Two w ((w.alloc (.cells #[.bool n1, .slice A l1 c] 49)).alloc (.cells #[.bool n2, .slice B l2 d] 49)) w.heap.size (w.heap.size + 1) n1 n2 A B xs ys l1 c l2 d := by
  refine ⟨by go_grown, by go_size, by go_size, ?_, ?_, by go_cell, by go_cell, by go_cell, by go_cell⟩
  · exact (((hr.alloc (Nat.le_refl _) _).alloc (by go_size) _).more (by go_size))
  · exact (((hs.alloc (Nat.le_refl _) _).alloc (by go_size) _).more (by go_size))
end
theorem sl_head {k : IntKind} {w : World} {B : Nat} {A : Option Addr} {ls ms : List Nat} (h : Sl k w B A (ls ++ ms)) : Sl k w B A ls := by
  have := h.take ls.length
  simpa using this
/-- What LeftInt reads: both numbers' cells, and the mark. -/
theorem Two.marked {w W : World} {p q : Nat} {n1 n2 : Bool} {ad : Addr} {B : Option Addr} {xs ys : List Nat} {l1 c l2 d m : Nat} (h : Two w W p q n1 n2 (some ad) B (xs ++ [m]) ys l1 c l2 d) :
    Two w W p q n1 n2 (some ad) B (xs ++ [m]) ys l1 c l2 d ∧ W.cell? ⟨p, 0, none⟩ = some (.bool n1) ∧ W.cell? ⟨p, 1, none⟩ = some (.slice (some ad) l1 c) ∧ W.cell? ⟨q, 0, none⟩ = some (.bool n2) ∧ W.cell? ⟨q, 1, none⟩ = some (.slice B l2 d) ∧ W.cell? (ad.add xs.length) = some (.int .u32 m) := by
  refine ⟨h, h.a0, h.a1, h.b0, h.b1, ?_⟩
  obtain ⟨ad', e, _, hc⟩ := h.sa.at_ (i := xs.length) (by simp)
  injection e with e
  subst e
  simpa using hc
theorem Two.markedOn {w W W' : World} {p q : Nat} {n1 n2 : Bool} {ad : Addr} {B : Option Addr} {xs ys : List Nat} {l1 c l2 d m : Nat} {X : Prop} (h : Two w W p q n1 n2 (some ad) B (xs ++ [m]) ys l1 c l2 d ∧ X) (hb : Below W.heap.size W W') :
    Two w W' p q n1 n2 (some ad) B (xs ++ [m]) ys l1 c l2 d ∧ W'.cell? ⟨p, 0, none⟩ = some (.bool n1) ∧ W'.cell? ⟨p, 1, none⟩ = some (.slice (some ad) l1 c) ∧ W'.cell? ⟨q, 0, none⟩ = some (.bool n2) ∧ W'.cell? ⟨q, 1, none⟩ = some (.slice B l2 d) ∧ W'.cell? (ad.add xs.length) = some (.int .u32 m) :=
  (h.1.on hb).marked
end Go.Proofs.Ytffjkfjokikhnaa
/-! ### Whole -/
namespace Go.Proofs.Ytffjkfjokikhnaa
open Go.RowKit Nb
theorem ok_neg {neg : Bool} {ls : List Nat} (h : Ok neg ls) : (neg && decide (0 < (pack ls).length)) = neg := by
  cases neg
  · rfl
  · have : ls ≠ [] := fun e => by have := h.sign e; simp at this
    have h2 : 0 < ls.length := List.length_pos_iff.2 this
    have h3 := pack_length ls
    simp; omega
theorem ok_nil {neg : Bool} {ls : List Nat} (h : Ok neg ls) (e : pack ls = []) : neg = false := by
  apply h.sign
  have h3 := pack_length ls
  rw [e] at h3
  apply List.eq_nil_of_length_eq_zero
  simp at h3; omega
theorem sgn_pack (neg : Bool) (ls : List Nat) : sgn neg (pack ls) = sgn neg ls := by
  unfold sgn
  have h3 := pack_length ls
  by_cases h0 : ls.length = 0
  · have h4 : (pack ls).length = 0 := by omega
    rw [h0, h4]
  · have h4 : ¬ (pack ls).length = 0 := by omega
    simp only [h0, h4, if_false]
/-- The first half of each: Check says yes, then From. Afterwards the number lies in words at g. -/
theorem head_facts {w w1 : World} {neg : Bool} {A : Option Addr} {ls : List Nat} {c : Nat} (hr : Sl .u32 w w.heap.size A ls)
    (hb1 : Below (w.alloc (.cells #[.bool neg, .slice A ls.length c] 49)).heap.size (w.alloc (.cells #[.bool neg, .slice A ls.length c] 49)) w1) :
    w1.cell? ⟨w.heap.size, 0, none⟩ = some (.bool neg) ∧ w1.cell? ⟨w.heap.size, 1, none⟩ = some (.slice A ls.length c) ∧ Below w.heap.size w w1 ∧ Sl .u32 w1 w1.heap.size A ls ∧ w.heap.size < w1.heap.size := by
  have hbw : Below w.heap.size w w1 := by refine Below.trans ?_ (hb1.mono (by go_size)); go_grown
  refine ⟨by rw [hb1.cell (by go_size)]; go_cell, by rw [hb1.cell (by go_size)]; go_cell, hbw, (hr.below hbw).more hbw.size, ?_⟩
  have := hb1.size
  simp at this; omega
end Go.Proofs.Ytffjkfjokikhnaa
/-! ### Rcmp -/
namespace Go.Proofs.Ytffjkfjokikhnaa
open Go.RowKit Nb
set_option maxHeartbeats 400000 in
set_option maxRecDepth 100000 in
theorem rcheck_ok (neg : Bool) (A : Option Addr) (ls : List Nat) (c : Nat) (w : World) (hr : Sl .u32 w w.heap.size A ls) (ho : Ok neg ls) :
    Calls Try.prog 115 #[big neg A ls.length c] w fun e w' => e = .returned (.int .i64 0) ∧ Below w.heap.size w w' := by
  have hlen := ho.len
  rcases hn : ls.length with _ | j
  · have hneg : neg = false := ho.sign (List.eq_nil_of_length_eq_zero hn)
    subst hneg
    clear ho hr hlen hn
    go_enter Try.func115, Try.ntmps115
    go_wp2
    go_ret
    exact ⟨rfl, by go_grown⟩
  · obtain ⟨ad, rfl, hb, hcell⟩ := hr.at_ (i := j) (by omega)
    have hz := (norm_iff (xs := ls) (by omega)).1 ho.norm
    simp only [hn, Nat.add_sub_cancel] at hz
    have hbz : (((ls[j] : Nat) : Int) == 0) = false := by simp; omega
    have hj : j + 1 ≤ 2048 := by omega
    generalize ls[j] = x at *
    clear ho hr hlen hn hz
    go_enter Try.func115, Try.ntmps115
    go_wp2
    go_ret
    exact ⟨rfl, by go_grown⟩
set_option maxHeartbeats 400000 in
set_option maxRecDepth 100000 in
theorem rcheck_bad (neg : Bool) (A : Option Addr) (ls : List Nat) (c : Nat) (w : World) (hr : Sl .u32 w w.heap.size A ls) (hl : ls.length * 4 ≤ 140737488351232) (ho : ¬ Ok neg ls) :
    Calls Try.prog 115 #[big neg A ls.length c] w fun e w' => e = .returned (.int .i64 1) ∧ Below w.heap.size w w' := by
  by_cases hlen : ls.length ≤ 2048
  · rcases hn : ls.length with _ | j
    · have hneg : neg = true := by
        cases neg
        · exact absurd ⟨hlen, by rw [List.eq_nil_of_length_eq_zero hn]; exact Norm.nil, fun _ => rfl⟩ ho
        · rfl
      subst hneg
      clear ho hr hlen hn hl
      go_enter Try.func115, Try.ntmps115
      go_wp2
      go_ret
      exact ⟨rfl, by go_grown⟩
    · obtain ⟨ad, rfl, hb, hcell⟩ := hr.at_ (i := j) (by omega)
      have hz : ls[j] = 0 := by
        rcases Nat.eq_zero_or_pos ls[j] with h | h
        · exact h
        · refine absurd ⟨hlen, (norm_iff (xs := ls) (by omega)).2 ?_, fun e => by subst e; simp at hn⟩ ho
          simp only [hn, Nat.add_sub_cancel]; omega
      rw [hz] at hcell
      have hj : j + 1 ≤ 2048 := by omega
      clear ho hr hlen hn hz hl
      go_enter Try.func115, Try.ntmps115
      go_wp2
      go_ret
      exact ⟨rfl, by go_grown⟩
  · generalize ls.length = n at *
    clear ho hr
    go_enter Try.func115, Try.ntmps115
    go_wp2
    go_ret
    exact ⟨rfl, by go_grown⟩
set_option maxHeartbeats 400000 in
theorem rcmp_any (A B : Option Addr) (xs ys : List Nat) (c d : Nat) (w : World) (hr : Sl .u32 w w.heap.size A xs) (hs : Sl .u32 w w.heap.size B ys) (hx : Dig W32 xs) (hy : Dig W32 ys) (nx : Norm xs) (ny : Norm ys)
    (hl : xs.length * 4 ≤ 140737488351232) (_hk : ys.length * 4 ≤ 140737488351232) :
    Calls Try.prog 92 #[.slice A xs.length c, .slice B ys.length d] w fun e w' => e = .returned (.int .i64 (cmpI (val W32 xs : Nat) (val W32 ys : Nat))) ∧ Qu w w' := by
  rcases Nat.lt_trichotomy xs.length ys.length with h | h | h
  · have e : cmpI (val W32 xs : Nat) (val W32 ys : Nat) = -1 := cmpI_lt (by have := cmp_len (B := W32) (by decide) hx ny h; omega)
    have E := Lib.hid e; clear e
    generalize xs.length = m at *
    generalize ys.length = n at *
    have hne : ((m : Int) != n) = true := by simp; omega
    have hlt : (m : Int) < n := by omega
    clear hr hs nx ny hx hy
    go_enter Try.func92, Try.ntmps92
    go_wp2
    go_ret
    exact ⟨by rw [E.out]; rfl, Qu.refl _⟩
  · have HE := Lib.hid h
    rw [← h]
    clear h _hk
    go_enter Try.func92, Try.ntmps92
    go_wp2
    go_loopw [5] (fun i wr => ∃ (k : Nat) (q : Int), k ≤ xs.length ∧ i = .int .i64 q ∧ q + 1 = k ∧ xs.drop k = ys.drop k ∧ Qu w wr) (fun i _ => (intOf i + 1).toNat)
    case atStart => exact ⟨xs.length, xs.length - 1, Nat.le_refl _, rfl, by omega, by rw [List.drop_length, HE.out, List.drop_length], Qu.refl _⟩
    case round =>
      obtain ⟨k, q, hk, rfl, hq, hd, hqu⟩ := hrel
      have HD := Lib.hid hd; clear hd
      rcases k with _ | j
      · obtain rfl : q = -1 := by omega
        clear hq
        go_wp2
        go_ret
        exact ⟨by rw [cmpI_eq (by have := HD.out; simp at this; rw [this])]; rfl, hqu⟩
      · obtain rfl : q = j := by omega
        clear hq
        have hj : j < ys.length := by have := HE.out; omega
        obtain ⟨ad, rfl, hb, hcell⟩ := hr.at_ (i := j) (by omega)
        rw [← hqu.cell] at hcell
        obtain ⟨bd, rfl, hb', hcell'⟩ := hs.at_ (i := j) hj
        rw [← hqu.cell] at hcell'
        have hjx : j < xs.length := by omega
        have hji : (j : Int) < (xs.length : Int) := by omega
        rcases Nat.lt_trichotomy xs[j] ys[j] with hlt | heq | hgt
        · have e : cmpI (val W32 xs : Nat) (val W32 ys : Nat) = -1 := by
            have := val_top HE.out (k := j + 1) (by omega) HD.out (cmp_dig hx hy hjx hj hlt)
            exact cmpI_lt (by omega)
          have E := Lib.hid e; clear e
          generalize xs[j] = x at *
          generalize ys[j] = y at *
          have hlt' : (x : Int) < y := by omega
          clear hlt
          go_wp2
          go_quiet (fail)
          go_wp2
          go_ret
          exact ⟨by rw [E.out]; rfl, hqu.drew _⟩
        · have hdj : xs.drop j = ys.drop j := by
            rw [List.drop_eq_getElem_cons hjx, List.drop_eq_getElem_cons hj, HD.out, heq]
          rw [heq] at hcell
          have HDJ := Lib.hid hdj; clear hdj heq
          generalize ys[j] = y at *
          go_wp2
          go_quiet (fail)
          go_wp2
          go_quiet (fail)
          go_wp2
          go_roundw
          case rel => exact ⟨j, _, by omega, rfl, by omega, HDJ.out, hqu.drew _⟩
          case measure => simp [intOf]
        · have e : cmpI (val W32 xs : Nat) (val W32 ys : Nat) = 1 := by
            have := val_top HE.out.symm (k := j + 1) (by have := HE.out; omega) HD.out.symm (cmp_dig hy hx hj hjx hgt)
            exact cmpI_gt (by omega)
          have E := Lib.hid e; clear e
          generalize xs[j] = x at *
          generalize ys[j] = y at *
          have hlt' : (y : Int) < x := by omega
          have hge : ¬ (x : Int) < y := by omega
          clear hgt
          go_wp2
          go_quiet (fail)
          go_wp2
          go_quiet (fail)
          go_wp2
          go_ret
          exact ⟨by rw [E.out]; rfl, (hqu.drew _).drew _⟩
  · have e : cmpI (val W32 xs : Nat) (val W32 ys : Nat) = 1 := cmpI_gt (by have := cmp_len (B := W32) (by decide) hy nx h; omega)
    have E := Lib.hid e; clear e
    generalize xs.length = m at *
    generalize ys.length = n at *
    have hne : ((m : Int) != n) = true := by simp; omega
    have hlt : (n : Int) < m := by omega
    have hge : ¬ (m : Int) < n := by omega
    clear hr hs nx ny hx hy
    go_enter Try.func92, Try.ntmps92
    go_wp2
    go_ret
    exact ⟨by rw [E.out]; rfl, Qu.refl _⟩
theorem cmpI_neg (x y : Int) : cmpI (-x) (-y) = -cmpI x y := by
  unfold cmpI
  split <;> split <;> (try split) <;> (try split) <;> omega
theorem cmpI_swap (x y : Int) : cmpI (-x) (-y) = cmpI y x := by
  unfold cmpI
  split <;> split <;> (try split) <;> (try split) <;> omega
theorem ok_vpos {neg : Bool} {ls : List Nat} (h : Ok neg ls) : neg = true → 0 < val W32 ls := by
  intro e
  rcases Nat.eq_zero_or_pos (val W32 ls) with h0 | h0
  · have := (norm_zero (B := W32) (by decide) h.norm).1 h0
    have := h.sign this
    rw [e] at this; cases this
  · exact h0
/-- The sign tells where the value lies. -/
theorem rsgn_cases {neg : Bool} {ls : List Nat} (h : Ok neg ls) :
    (rsgn neg ls = -1 ∧ neg = true ∧ 0 < val W32 ls) ∨ (rsgn neg ls = 0 ∧ neg = false ∧ val W32 ls = 0) ∨ (rsgn neg ls = 1 ∧ neg = false ∧ 0 < val W32 ls) := by
  unfold rsgn
  by_cases h0 : ls.length = 0
  · have e : ls = [] := List.eq_nil_of_length_eq_zero h0
    rw [if_pos h0]
    exact .inr (.inl ⟨rfl, h.sign e, by rw [e]; rfl⟩)
  · rw [if_neg h0]
    have hp : 0 < val W32 ls := by
      rcases Nat.eq_zero_or_pos (val W32 ls) with h1 | h1
      · have := (norm_zero (B := W32) (by decide) h.norm).1 h1
        rw [this] at h0; simp at h0
      · exact h1
    cases neg
    · exact .inr (.inr ⟨rfl, rfl, hp⟩)
    · exact .inl ⟨rfl, rfl, hp⟩
/-- What signs and sizes make of one another. -/
theorem cmp_signs {n1 n2 : Bool} {xs ys : List Nat} (h1 : Ok n1 xs) (h2 : Ok n2 ys) :
    (rsgn n1 xs < rsgn n2 ys ∧ cmpI (sv n1 (val W32 xs)) (sv n2 (val W32 ys)) = -1) ∨ (rsgn n2 ys < rsgn n1 xs ∧ cmpI (sv n1 (val W32 xs)) (sv n2 (val W32 ys)) = 1) ∨
    (rsgn n1 xs = rsgn n2 ys ∧ rsgn n1 xs < 0 ∧ cmpI (sv n1 (val W32 xs)) (sv n2 (val W32 ys)) = -cmpI (val W32 xs : Nat) (val W32 ys : Nat)) ∨
    (rsgn n1 xs = rsgn n2 ys ∧ 0 ≤ rsgn n1 xs ∧ cmpI (sv n1 (val W32 xs)) (sv n2 (val W32 ys)) = cmpI (val W32 xs : Nat) (val W32 ys : Nat)) := by
  rcases rsgn_cases h1 with ⟨a, rfl, c⟩ | ⟨a, rfl, c⟩ | ⟨a, rfl, c⟩ <;> rcases rsgn_cases h2 with ⟨a', rfl, c'⟩ | ⟨a', rfl, c'⟩ | ⟨a', rfl, c'⟩ <;> rw [a, a'] <;> simp only [sv]
  · exact .inr (.inr (.inl ⟨by trivial, by omega, by simp only [if_true]; exact cmpI_neg _ _⟩))
  · exact .inl ⟨by omega, cmpI_lt (by simp; omega)⟩
  · exact .inl ⟨by omega, cmpI_lt (by simp; omega)⟩
  · exact .inr (.inl ⟨by omega, cmpI_gt (by simp; omega)⟩)
  · exact .inr (.inr (.inr ⟨by trivial, by omega, rfl⟩))
  · exact .inl ⟨by omega, cmpI_lt (by simp; omega)⟩
  · exact .inr (.inl ⟨by omega, cmpI_gt (by simp; omega)⟩)
  · exact .inr (.inl ⟨by omega, cmpI_gt (by simp; omega)⟩)
  · exact .inr (.inr (.inr ⟨by trivial, by omega, rfl⟩))
set_option maxHeartbeats 1000000 in
/-- The document's Cmp, of two numbers that may be. -/
theorem rCmp_any (n1 n2 : Bool) (A B : Option Addr) (xs ys : List Nat) (c d : Nat) (w : World) (hr : Sl .u32 w w.heap.size A xs) (hs : Sl .u32 w w.heap.size B ys) (hx : Dig W32 xs) (hy : Dig W32 ys) (o1 : Ok n1 xs) (o2 : Ok n2 ys) :
    Calls Try.prog 101 #[big n1 A xs.length c, big n2 B ys.length d] w fun e w' => e = .returned (.int .i64 (cmpI (sv n1 (val W32 xs)) (sv n2 (val W32 ys)))) ∧ Below w.heap.size w w' := by
  have ht := Two.boxed (n1 := n1) (n2 := n2) (l1 := xs.length) (c := c) (l2 := ys.length) (d := d) hr hs
  have hl1 := o1.len
  have hl2 := o2.len
  have nx := o1.norm
  have ny := o2.norm
  have hsig := cmp_signs o1 o2
  have ha : -1 ≤ rsgn n1 xs ∧ rsgn n1 xs ≤ 1 := by unfold rsgn; split <;> (try split) <;> omega
  have c1 := fun W => rsign_any n1 A xs c W (by omega)
  have c2 := fun W => rsign_any n2 B ys d W (by omega)
  have C1 := Lib.hid c1
  have C2 := Lib.hid c2
  clear c1 c2 hr hs o1 o2
  generalize rsgn n1 xs = a at *
  generalize rsgn n2 ys = b at *
  generalize cmpI (sv n1 (val W32 xs)) (sv n2 (val W32 ys)) = z at *
  obtain ⟨ha1, ha2⟩ := ha
  rcases hsig with ⟨hab, hz⟩ | ⟨hab, hz⟩ | ⟨hab, ha, hz⟩ | ⟨hab, ha, hz⟩
  · have hne : (a != b) = true := by simp; omega
    have HZ := Lib.hid hz; clear hz
    go_enter Try.func101, Try.ntmps101
    go_wp2_with fail
    refine (C1.out _).mono ?_
    rintro e w1 ⟨rfl, hb1⟩
    have t1 := ht.on hb1
    have p0 := t1.b0
    have p1 := t1.b1
    go_wp2_with fail
    refine (C2.out _).mono ?_
    rintro e w2 ⟨rfl, hb2⟩
    have t2 := t1.on hb2
    have q0 := t2.a0
    have q1 := t2.a1
    have r0 := t2.b0
    have r1 := t2.b1
    go_wp2
    go_ret
    exact ⟨by rw [HZ.out]; rfl, t2.below⟩
  · have hne : (a != b) = true := by simp; omega
    have hge : ¬ a < b := by omega
    have HZ := Lib.hid hz; clear hz
    go_enter Try.func101, Try.ntmps101
    go_wp2_with fail
    refine (C1.out _).mono ?_
    rintro e w1 ⟨rfl, hb1⟩
    have t1 := ht.on hb1
    have p0 := t1.b0
    have p1 := t1.b1
    go_wp2_with fail
    refine (C2.out _).mono ?_
    rintro e w2 ⟨rfl, hb2⟩
    have t2 := t1.on hb2
    have q0 := t2.a0
    have q1 := t2.a1
    have r0 := t2.b0
    have r1 := t2.b1
    go_wp2
    go_ret
    exact ⟨by rw [HZ.out]; rfl, t2.below⟩
  · subst hab
    have HZ := Lib.hid hz; clear hz
    go_enter Try.func101, Try.ntmps101
    go_wp2_with fail
    refine (C1.out _).mono ?_
    rintro e w1 ⟨rfl, hb1⟩
    have t1 := ht.on hb1
    have p0 := t1.b0
    have p1 := t1.b1
    go_wp2_with fail
    refine (C2.out _).mono ?_
    rintro e w2 ⟨rfl, hb2⟩
    have t2 := t1.on hb2
    have q0 := t2.a0
    have q1 := t2.a1
    have r0 := t2.b0
    have r1 := t2.b1
    have C3 := Lib.hid (rcmp_any A B xs ys c d w2 t2.sa t2.sb hx hy nx ny (by omega) (by omega))
    go_wp2_with fail
    refine (C3.out).mono ?_
    rintro e w3 ⟨rfl, hq3⟩
    have hcb : -1 ≤ cmpI (val W32 xs : Nat) (val W32 ys : Nat) ∧ cmpI (val W32 xs : Nat) (val W32 ys : Nat) ≤ 1 := by unfold cmpI; split <;> (try split) <;> omega
    obtain ⟨hc1, hc2⟩ := hcb
    go_wp2
    go_ret
    exact ⟨by rw [HZ.out]; rfl, t2.below.trans (hq3.below _)⟩
  · subst hab
    have HZ := Lib.hid hz; clear hz
    go_enter Try.func101, Try.ntmps101
    go_wp2_with fail
    refine (C1.out _).mono ?_
    rintro e w1 ⟨rfl, hb1⟩
    have t1 := ht.on hb1
    have p0 := t1.b0
    have p1 := t1.b1
    go_wp2_with fail
    refine (C2.out _).mono ?_
    rintro e w2 ⟨rfl, hb2⟩
    have t2 := t1.on hb2
    have q0 := t2.a0
    have q1 := t2.a1
    have r0 := t2.b0
    have r1 := t2.b1
    have C3 := Lib.hid (rcmp_any A B xs ys c d w2 t2.sa t2.sb hx hy nx ny (by omega) (by omega))
    go_wp2_with fail
    refine (C3.out).mono ?_
    rintro e w3 ⟨rfl, hq3⟩
    go_wp2
    go_ret
    exact ⟨by rw [HZ.out]; rfl, t2.below.trans (hq3.below _)⟩
end Go.Proofs.Ytffjkfjokikhnaa
/-! ### Dleft -/
namespace Go.Proofs.Ytffjkfjokikhnaa
open Go.RowKit Nb
/-- Twl numbers in two cells of the call's own, and their limbs: what stays while more memory is made. -/
structure Twl (w W : World) (p q : Nat) (n1 n2 : Bool) (A B : Option Addr) (xs ys : List Nat) (l1 c l2 d : Nat) : Prop where
  below : Below w.heap.size w W
  lp : p < W.heap.size
  lq : q < W.heap.size
  sa : Sl .u32 W W.heap.size A xs
  sb : Sl .u32 W W.heap.size B ys
  a0 : W.cell? ⟨p, 0, none⟩ = some (.bool n1)
  a1 : W.cell? ⟨p, 1, none⟩ = some (.slice A l1 c)
  b0 : W.cell? ⟨q, 0, none⟩ = some (.bool n2)
  b1 : W.cell? ⟨q, 1, none⟩ = some (.slice B l2 d)
section
variable {w W W' : World} {p q : Nat} {n1 n2 : Bool} {A B : Option Addr} {xs ys : List Nat} {l1 c l2 d : Nat} {X : Prop}
theorem Twl.on (h : Twl w W p q n1 n2 A B xs ys l1 c l2 d) (hb : Below W.heap.size W W') : Twl w W' p q n1 n2 A B xs ys l1 c l2 d :=
  ⟨h.below.trans (hb.mono h.below.size), Nat.lt_of_lt_of_le h.lp hb.size, Nat.lt_of_lt_of_le h.lq hb.size, (h.sa.below hb).more hb.size, (h.sb.below hb).more hb.size,
   (hb.cell (p := ⟨p, 0, none⟩) h.lp).trans h.a0, (hb.cell (p := ⟨p, 1, none⟩) h.lp).trans h.a1, (hb.cell (p := ⟨q, 0, none⟩) h.lq).trans h.b0, (hb.cell (p := ⟨q, 1, none⟩) h.lq).trans h.b1⟩
theorem Twl.all (h : Twl w W p q n1 n2 A B xs ys l1 c l2 d) : Twl w W p q n1 n2 A B xs ys l1 c l2 d ∧ W.cell? ⟨p, 0, none⟩ = some (.bool n1) ∧ W.cell? ⟨p, 1, none⟩ = some (.slice A l1 c) ∧ W.cell? ⟨q, 0, none⟩ = some (.bool n2) ∧ W.cell? ⟨q, 1, none⟩ = some (.slice B l2 d) :=
  ⟨h, h.a0, h.a1, h.b0, h.b1⟩
theorem Twl.keep (h : Twl w W p q n1 n2 A B xs ys l1 c l2 d ∧ X) (hb : Below W.heap.size W W') : Twl w W' p q n1 n2 A B xs ys l1 c l2 d ∧ W'.cell? ⟨p, 0, none⟩ = some (.bool n1) ∧ W'.cell? ⟨p, 1, none⟩ = some (.slice A l1 c) ∧ W'.cell? ⟨q, 0, none⟩ = some (.bool n2) ∧ W'.cell? ⟨q, 1, none⟩ = some (.slice B l2 d) :=
  (h.1.on hb).all
theorem Twl.sa' (h : Twl w W p q n1 n2 A B xs ys l1 c l2 d ∧ X) : Sl .u32 W W.heap.size A xs := h.1.sa
theorem Twl.sb' (h : Twl w W p q n1 n2 A B xs ys l1 c l2 d ∧ X) : Sl .u32 W W.heap.size B ys := h.1.sb
theorem Twl.below' (h : Twl w W p q n1 n2 A B xs ys l1 c l2 d ∧ X) : Below w.heap.size w W := h.1.below
/-- Both boxed. -/
theorem Twl.boxed (hr : Sl .u32 w w.heap.size A xs) (hs : Sl .u32 w w.heap.size B ys) :
    Twl w ((w.alloc (.cells #[.bool n1, .slice A l1 c] 49)).alloc (.cells #[.bool n2, .slice B l2 d] 49)) w.heap.size (w.heap.size + 1) n1 n2 A B xs ys l1 c l2 d := by
  refine ⟨by go_grown, by go_size, by go_size, ?_, ?_, by go_cell, by go_cell, by go_cell, by go_cell⟩
  · exact (((hr.alloc (Nat.le_refl _) _).alloc (by go_size) _).more (by go_size))
  · exact (((hs.alloc (Nat.le_refl _) _).alloc (by go_size) _).more (by go_size))
end
/-- What LeftInt reads: both numbers' cells, and the mark. -/
theorem Twl.marked {w W : World} {p q : Nat} {n1 n2 : Bool} {ad : Addr} {B : Option Addr} {xs ys : List Nat} {l1 c l2 d m : Nat} (h : Twl w W p q n1 n2 (some ad) B (xs ++ [m]) ys l1 c l2 d) :
    Twl w W p q n1 n2 (some ad) B (xs ++ [m]) ys l1 c l2 d ∧ W.cell? ⟨p, 0, none⟩ = some (.bool n1) ∧ W.cell? ⟨p, 1, none⟩ = some (.slice (some ad) l1 c) ∧ W.cell? ⟨q, 0, none⟩ = some (.bool n2) ∧ W.cell? ⟨q, 1, none⟩ = some (.slice B l2 d) ∧ W.cell? (ad.add xs.length) = some (.int .u32 m) := by
  refine ⟨h, h.a0, h.a1, h.b0, h.b1, ?_⟩
  obtain ⟨ad', e, _, hc⟩ := h.sa.at_ (i := xs.length) (by simp)
  injection e with e
  subst e
  simpa using hc
theorem Twl.markedOn {w W W' : World} {p q : Nat} {n1 n2 : Bool} {ad : Addr} {B : Option Addr} {xs ys : List Nat} {l1 c l2 d m : Nat} {X : Prop} (h : Twl w W p q n1 n2 (some ad) B (xs ++ [m]) ys l1 c l2 d ∧ X) (hb : Below W.heap.size W W') :
    Twl w W' p q n1 n2 (some ad) B (xs ++ [m]) ys l1 c l2 d ∧ W'.cell? ⟨p, 0, none⟩ = some (.bool n1) ∧ W'.cell? ⟨p, 1, none⟩ = some (.slice (some ad) l1 c) ∧ W'.cell? ⟨q, 0, none⟩ = some (.bool n2) ∧ W'.cell? ⟨q, 1, none⟩ = some (.slice B l2 d) ∧ W'.cell? (ad.add xs.length) = some (.int .u32 m) :=
  (h.1.on hb).marked
end Go.Proofs.Ytffjkfjokikhnaa
/-! ### Dchk -/
namespace Go.Proofs.Ytffjkfjokikhnaa
open Go.RowKit Nb
end Go.Proofs.Ytffjkfjokikhnaa
