/-
  What the functions that add a list of words into another one return. No conditions but that the lists are lists of words, and lie apart.
-/
import Derived.Test.YtplgheabhekedaaGreatDoorCmp
import Derived.Test.YtplgheabhekedaaGreatDoorNums
import Derived.Laws.Externs
namespace Go.Proofs.YtplgheabhekedaaGreatDoor
open Go.RowKit Nb

/-- One block alone has changed. -/
structure Upd (g : Nat) (w w' : World) : Prop where
  os : w'.os = w.os
  tape : w'.tape = w.tape
  output : w'.output = w.output
  size : w'.heap.size = w.heap.size
  block : ∀ k, k ≠ g → w'.heap[k]? = w.heap[k]?
theorem Upd.refl (g : Nat) (w : World) : Upd g w w := ⟨rfl, rfl, rfl, rfl, fun _ _ => rfl⟩
theorem Upd.trans {g : Nat} {a b c : World} (h : Upd g a b) (k : Upd g b c) : Upd g a c :=
  ⟨k.os.trans h.os, k.tape.trans h.tape, k.output.trans h.output, k.size.trans h.size, fun i hi => (k.block i hi).trans (h.block i hi)⟩
theorem Upd.setCell {g : Nat} {a w : World} (h : Upd g a w) (i : Nat) (u : Value) : Upd g a (w.setCell ⟨g, i, none⟩ u) :=
  ⟨h.os, h.tape, h.output, by simpa using h.size, fun k hk => (Below.heap_setCell w _ u k hk).trans (h.block k hk)⟩
theorem Upd.drew {g : Nat} {a w : World} (h : Upd g a w) : Upd g a w.drew := ⟨h.os, h.tape, h.output, h.size, h.block⟩
theorem Upd.drewN {g : Nat} {a w : World} (h : Upd g a w) (n : Nat) : Upd g a (w.drewN n) := ⟨h.os, h.tape, h.output, h.size, h.block⟩
theorem Upd.cell {g : Nat} {w w' : World} (h : Upd g w w') {p : Addr} (hp : p.block ≠ g) : w'.cell? p = w.cell? p := World.cell?_of_block (w := w) (h.block p.block hp)
theorem Upd.frozen {g : Nat} {w w' : World} (h : Upd g w w') {p : Addr} (hp : p.block ≠ g) : w'.frozen? p = w.frozen? p := World.frozen?_of_block (w := w) (h.block p.block hp)
theorem Upd.below {g B : Nat} {w w' : World} (h : Upd g w w') (hB : B ≤ g) : Below B w w' := ⟨h.os, h.tape, h.output, by rw [h.size]; exact Nat.le_refl _, fun k hk => h.block k (by omega)⟩
theorem Row.upd {k : IntKind} {w w' : World} {g g' : Nat} {e : TypeId} {xs : List Nat} (h : Row k w g e xs) (hu : Upd g' w w') (hne : g ≠ g') : Row k w' g e xs := (hu.block g hne).trans h
theorem Sl.upd {k : IntKind} {w w' : World} {g B : Nat} {A : Option Addr} {ls : List Nat} (h : Sl k w B A ls) (hu : Upd g w w') (hB : B ≤ g) : Sl k w' B A ls := h.keep fun p hp => hu.cell (by omega)

theorem add64_ex (x y c : Nat) (hx : x < W64) (hy : y < W64) (hc : c ≤ 1) : ∃ d o : Nat, (∀ w, (callFunc 180 #[.int .u64 x, .int .u64 y, .int .u64 c]).run Tryz.prog w = .ok (.value (.tuple #[.int .u64 d, .int .u64 o])) w) ∧ d < W64 ∧ o ≤ 1 ∧ d + W64 * o = x + y + c := by
  refine ⟨(x + y + c) % W64, (x + y + c) / W64, fun w => ?_, Nat.mod_lt _ (by decide), ?_, Nat.mod_add_div _ _⟩
  · rw [run_callFunc_extern Tryz.func180 (by kernel_rfl) (by kernel_rfl) (by kernel_rfl) (e := add64Entry) (by kernel_rfl), run_add64 x y c (by omega) (by omega) (by omega) (by omega)]
    simp only [Result.andThen]
    congr 5 <;> simp [W64]
  · have : (x + y + c) / W64 < 2 := Nat.div_lt_of_lt_mul (by omega)
    omega

def sub64E : Array Value → Sem Value := fun args => do
  let (x, y, b) ← Extern.MathBitsCarry.three "Sub64" args
  pure (Extern.MathBitsCarry.pair ((x + Extern.MathBitsCarry.m64 - y - b) % Extern.MathBitsCarry.m64) (if x < y + b then 1 else 0))
theorem run_sub64E (x y b : Nat) (hb : b ≤ 1) (w : World) :
    (sub64E #[.int .u64 x, .int .u64 y, .int .u64 b]).run Tryz.prog w =
      .ok (.tuple #[.int .u64 (((x + 18446744073709551616 - y - b) % 18446744073709551616 : Nat) : Int), .int .u64 ((if x < y + b then 1 else 0 : Nat) : Int)]) w := by
  have : b = 0 ∨ b = 1 := by omega
  rcases this with rfl | rfl <;> rfl
theorem sub64_ex (x y c : Nat) (hx : x < W64) (hy : y < W64) (hc : c ≤ 1) : ∃ d o : Nat, (∀ w, (callFunc 175 #[.int .u64 x, .int .u64 y, .int .u64 c]).run Tryz.prog w = .ok (.value (.tuple #[.int .u64 d, .int .u64 o])) w) ∧ d < W64 ∧ o ≤ 1 ∧ d + y + c = x + W64 * o := by
  refine ⟨(x + W64 - y - c) % W64, if x < y + c then 1 else 0, fun w => ?_, Nat.mod_lt _ (by decide), ?_, ?_⟩
  · rw [run_callFunc_extern Tryz.func175 (by kernel_rfl) (by kernel_rfl) (by kernel_rfl) (e := sub64E) (by kernel_rfl), run_sub64E x y c hc]
    rfl
  · split <;> omega
  · simp only [W64] at *
    split <;> omega

set_option maxHeartbeats 400000 in
/-- y is added to z, which has as many words. -/
theorem putBack_any (g off : Nat) (pre zs post ys : List Nat) (A : Option Addr) (c d : Nat) (w : World) (hoff : pre.length = off) (hz : Row .u64 w g 182 (pre ++ (zs ++ post))) (hy : Sl .u64 w g A ys)
    (hl : ys.length = zs.length) (dz : Dig W64 zs) (dy : Dig W64 ys) (hb : (off + zs.length) * 8 ≤ 140737488351232) :
    Calls Tryz.prog 174 #[.slice (some ⟨g, off, none⟩) zs.length c, .slice A ys.length d] w fun e w' => ∃ (zs' : List Nat) (o : Nat), e = .returned (.int .u64 o) ∧ zs'.length = zs.length ∧ Dig W64 zs' ∧ o ≤ 1 ∧
      val W64 zs' + W64 ^ zs.length * o = val W64 zs + val W64 ys ∧ Row .u64 w' g 182 (pre ++ (zs' ++ post)) ∧ Upd g w w' := by
  have HL := Lib.hid hl
  have HO := Lib.hid hoff
  have hyl : ys.length * 8 ≤ 140737488351232 := by omega
  clear hl hoff
  go_enter Tryz.func174, Tryz.ntmps174
  go_wp2
  go_loopw [4, 9] (fun cv iv wr => ∃ (k o : Nat) (ds : List Nat), k ≤ ys.length ∧ iv = .int .i64 k ∧ cv = .int .u64 o ∧ o ≤ 1 ∧ ds.length = k ∧ Dig W64 ds ∧ val W64 ds + W64 ^ k * o = val W64 (zs.take k) + val W64 (ys.take k) ∧
      Row .u64 wr g 182 (pre ++ ((ds ++ zs.drop k) ++ post)) ∧ Upd g w wr) (fun _ iv _ => ys.length - (intOf iv).toNat)
  case atStart => exact ⟨0, 0, [], Nat.zero_le _, rfl, rfl, by omega, rfl, Dig.nil _, by simp [val], by simpa using hz, Upd.refl _ _⟩
  case round =>
    obtain ⟨k, o, ds, hk, rfl, rfl, ho, hdl, hdd, he, hrow, hu⟩ := hrel
    have HD := Lib.hid hdl; clear hdl
    have HE := Lib.hid he; clear he
    by_cases hlt : k < ys.length
    · have hkz : k < zs.length := by have := HL.out; omega
      obtain ⟨ad, rfl, hb1, h1⟩ := (hy.upd hu (Nat.le_refl _)).at_ hlt
      have gf := hrow.frozen (off + k)
      have gc := hrow.cell (i := off + k) (by have := HO.out; have := HD.out; simp; omega)
      have hx := dz.get hkz
      have hyy := dy.get hlt
      have hgz : (pre ++ ((ds ++ zs.drop k) ++ post))[off + k]'(by have := HO.out; have := HD.out; simp; omega) = zs[k] := by
        have h := get_mid pre (ds ++ zs.drop k) post (k := k) (by rw [fill_length ds zs HD.out (by omega)]; exact hkz) (by have := HD.out; simp; omega)
        rw [fill_get ds zs HD.out hkz] at h
        rw [← h]
        congr 1
        rw [HO.out]
      rw [hgz] at gc
      have hset : ∀ v : Nat, (pre ++ ((ds ++ zs.drop k) ++ post)).set (off + k) v = pre ++ (((ds ++ [v]) ++ zs.drop (k + 1)) ++ post) := fun v => by
        have h := set_mid pre (ds ++ zs.drop k) post (k := k) v (by rw [fill_length ds zs HD.out (by omega)]; exact hkz)
        rw [fill_put ds zs v HD.out hkz] at h
        rw [← h]
        congr 1
        rw [HO.out]
      have hrs := fun v => hrow.set_ (off + k) v
      have hstep := fun v o' => step_up (v := v) (c' := o') (t := zs[k] + ys[k]) HE.out HD.out
      have hty : val W64 (zs.take (k + 1)) + val W64 (ys.take (k + 1)) = val W64 (zs.take k) + val W64 (ys.take k) + W64 ^ k * (zs[k] + ys[k]) := by
        rw [val_take_succ W64 hkz, val_take_succ W64 hlt, Nat.mul_add]; omega
      generalize zs[k] = x at *
      generalize ys[k] = y at *
      obtain ⟨v, o', hadd, hv, ho', hvo⟩ := add64_ex x y o hx hyy ho
      have hrs' := hrs v
      rw [hset v] at hrs'
      have hst' := hstep v o' (by rw [hvo])
      rw [← hty] at hst'
      have HS := Lib.hid hst'
      have HR := Lib.hid hrs'
      have HV := Lib.hid hvo
      clear hgz hset hrs hstep hty hst' hrs' hvo hx hyy
      have hji : (k : Int) < (ys.length : Int) := by omega
      go_wp2
      go_roundw
      case rel => exact ⟨k + 1, o', ds ++ [v], by omega, by go_num, rfl, ho', by have := HD.out; simp; omega, dig_snoc hdd hv, HS.out, HR.out, hu.setCell _ _⟩
      case measure => simp [intOf]; omega
    · obtain rfl : k = ys.length := by omega
      go_wp2
      go_ret
      have h1 := HE.out
      rw [List.take_length, HL.out, List.take_length] at h1
      have h2 : zs.drop ys.length = [] := by rw [HL.out, List.drop_length]
      rw [h2, List.append_nil] at hrow
      exact ⟨ds, o, rfl, by rw [HD.out, HL.out], hdd, ho, h1, hrow, hu⟩
end Go.Proofs.YtplgheabhekedaaGreatDoor
