/-
  What the statement's 'do' returns for each operation; math.Abs, math.Min and math.Max of floats that are finite. Condition: floats of 64 bits.
-/
import Derived.Test.YtghcoijinihlnaaSpr
namespace Go.Proofs.Ytghcoijinihlnaa.Fl
open Go.RowKit Ieee
/-- What the operation of a number from 0 to 3 answers. -/
def DoRes (op : Int) (al ah bl bh : Nat) (e : Ending) : Prop :=
  (op = 0 ∧ SpRes SumIs al ah bl bh e) ∨ (op = 1 ∧ SpRes DifIs al ah bl bh e) ∨ (op = 2 ∧ SpRes ProIs al ah bl bh e) ∨ (op = 3 ∧ QuRes al ah bl bh e)
theorem doRes_form {op : Int} {al ah bl bh : Nat} {e : Ending} (h : DoRes op al ah bl bh e) : ∃ (l h' : Nat) (er : Int), e = .returned (.tuple #[spv l h', .int .i64 er]) := by
  rcases h with ⟨_, h⟩ | ⟨_, h⟩ | ⟨_, h⟩ | ⟨_, h⟩
  · exact spRes_form h
  · exact spRes_form h
  · exact spRes_form h
  · exact quRes_form h
set_option maxHeartbeats 2000000 in
theorem do_any (op : Int) (al ah bl bh : Nat) (w : World) (h0 : 0 ≤ op ∧ op < 4) (h1 : al < 18446744073709551616) (h2 : ah < 18446744073709551616) (h3 : bl < 18446744073709551616) (h4 : bh < 18446744073709551616) :
    Calls Try.prog 6 #[.int .i64 op, spv al ah, spv bl bh] w fun e w' => DoRes op al ah bl bh e ∧ Below w.heap.size w w' := by
  have HA := Lib.hid (fun W => spanadd_any al ah bl bh W h1 h2 h3 h4)
  have HS := Lib.hid (fun W => spansub_any al ah bl bh W h1 h2 h3 h4)
  have HM := Lib.hid (fun W => spanmul_any al ah bl bh W h1 h2 h3 h4)
  have HQ := Lib.hid (fun W => spanquo_any al ah bl bh W h1 h2 h3 h4)
  have hsf := @run_store_f Try.prog .f64
  have ho : op = 0 ∨ op = 1 ∨ op = 2 ∨ op = 3 := by omega
  clear h0 h1 h2 h3 h4
  rcases ho with rfl | rfl | rfl | rfl
  · go_enter Try.func6, Try.ntmps6
    go_wp2_with fail
    refine (HA.out _).mono ?_
    rintro e w1 ⟨hres, hb⟩
    obtain ⟨l, h, er, rfl⟩ := spRes_form hres
    have HE := Lib.hid hres
    obtain ⟨hc, hf⟩ := bcell hb
    have hz0 : w.heap.size < w1.heap.size := by have := hb.size; (try simp at this); omega
    have hz1 : w.heap.size + 1 < w1.heap.size := by have := hb.size; (try simp at this); omega
    have hz2 : w.heap.size + 1 + 1 < w1.heap.size := by have := hb.size; (try simp at this); omega
    have g1 : Below w.heap.size w w1 := Below.trans (by (repeat (first | exact below_self _ _ | assumption | refine below_dn ?_ _ | refine Below.drew ?_ | refine Below.setCell ?_ (by (try simp) <;> (try omega)) _ | refine Below.alloc ?_ (by (try simp) <;> (try omega)) _))) (hb.mono (by (try simp) <;> (try omega)))
    have d2 : w1.cell? ⟨w.heap.size + 1 + 1, 0, none⟩ = some (.float .f64 0) := by go_cell
    have d3 : w1.cell? ⟨w.heap.size + 1 + 1, 1, none⟩ = some (.float .f64 0) := by go_cell
    clear hb hres
    go_wp2
    exact bodyPost_ret (v := .tuple #[spv l h, .int .i64 er]) (by simp [results, Try.results6, go_sem, d2, d3]) rfl ⟨.inl ⟨rfl, HE.out⟩, by (repeat (first | exact below_self _ _ | assumption | refine below_dn ?_ _ | refine Below.drew ?_ | refine Below.setCell ?_ (by (try simp) <;> (try omega)) _ | refine Below.alloc ?_ (by (try simp) <;> (try omega)) _))⟩
  · go_enter Try.func6, Try.ntmps6
    go_wp2_with fail
    refine (HS.out _).mono ?_
    rintro e w1 ⟨hres, hb⟩
    obtain ⟨l, h, er, rfl⟩ := spRes_form hres
    have HE := Lib.hid hres
    obtain ⟨hc, hf⟩ := bcell hb
    have hz0 : w.heap.size < w1.heap.size := by have := hb.size; (try simp at this); omega
    have hz1 : w.heap.size + 1 < w1.heap.size := by have := hb.size; (try simp at this); omega
    have hz2 : w.heap.size + 1 + 1 < w1.heap.size := by have := hb.size; (try simp at this); omega
    have g1 : Below w.heap.size w w1 := Below.trans (by (repeat (first | exact below_self _ _ | assumption | refine below_dn ?_ _ | refine Below.drew ?_ | refine Below.setCell ?_ (by (try simp) <;> (try omega)) _ | refine Below.alloc ?_ (by (try simp) <;> (try omega)) _))) (hb.mono (by (try simp) <;> (try omega)))
    have d2 : w1.cell? ⟨w.heap.size + 1 + 1, 0, none⟩ = some (.float .f64 0) := by go_cell
    have d3 : w1.cell? ⟨w.heap.size + 1 + 1, 1, none⟩ = some (.float .f64 0) := by go_cell
    clear hb hres
    go_wp2
    exact bodyPost_ret (v := .tuple #[spv l h, .int .i64 er]) (by simp [results, Try.results6, go_sem, d2, d3]) rfl ⟨.inr (.inl ⟨rfl, HE.out⟩), by (repeat (first | exact below_self _ _ | assumption | refine below_dn ?_ _ | refine Below.drew ?_ | refine Below.setCell ?_ (by (try simp) <;> (try omega)) _ | refine Below.alloc ?_ (by (try simp) <;> (try omega)) _))⟩
  · go_enter Try.func6, Try.ntmps6
    go_wp2_with fail
    refine (HM.out _).mono ?_
    rintro e w1 ⟨hres, hb⟩
    obtain ⟨l, h, er, rfl⟩ := spRes_form hres
    have HE := Lib.hid hres
    obtain ⟨hc, hf⟩ := bcell hb
    have hz0 : w.heap.size < w1.heap.size := by have := hb.size; (try simp at this); omega
    have hz1 : w.heap.size + 1 < w1.heap.size := by have := hb.size; (try simp at this); omega
    have hz2 : w.heap.size + 1 + 1 < w1.heap.size := by have := hb.size; (try simp at this); omega
    have g1 : Below w.heap.size w w1 := Below.trans (by (repeat (first | exact below_self _ _ | assumption | refine below_dn ?_ _ | refine Below.drew ?_ | refine Below.setCell ?_ (by (try simp) <;> (try omega)) _ | refine Below.alloc ?_ (by (try simp) <;> (try omega)) _))) (hb.mono (by (try simp) <;> (try omega)))
    have d2 : w1.cell? ⟨w.heap.size + 1 + 1, 0, none⟩ = some (.float .f64 0) := by go_cell
    have d3 : w1.cell? ⟨w.heap.size + 1 + 1, 1, none⟩ = some (.float .f64 0) := by go_cell
    clear hb hres
    go_wp2
    exact bodyPost_ret (v := .tuple #[spv l h, .int .i64 er]) (by simp [results, Try.results6, go_sem, d2, d3]) rfl ⟨.inr (.inr (.inl ⟨rfl, HE.out⟩)), by (repeat (first | exact below_self _ _ | assumption | refine below_dn ?_ _ | refine Below.drew ?_ | refine Below.setCell ?_ (by (try simp) <;> (try omega)) _ | refine Below.alloc ?_ (by (try simp) <;> (try omega)) _))⟩
  · go_enter Try.func6, Try.ntmps6
    go_wp2_with fail
    refine (HQ.out _).mono ?_
    rintro e w1 ⟨hres, hb⟩
    obtain ⟨l, h, er, rfl⟩ := quRes_form hres
    have HE := Lib.hid hres
    obtain ⟨hc, hf⟩ := bcell hb
    have hz0 : w.heap.size < w1.heap.size := by have := hb.size; (try simp at this); omega
    have hz1 : w.heap.size + 1 < w1.heap.size := by have := hb.size; (try simp at this); omega
    have hz2 : w.heap.size + 1 + 1 < w1.heap.size := by have := hb.size; (try simp at this); omega
    have g1 : Below w.heap.size w w1 := Below.trans (by (repeat (first | exact below_self _ _ | assumption | refine below_dn ?_ _ | refine Below.drew ?_ | refine Below.setCell ?_ (by (try simp) <;> (try omega)) _ | refine Below.alloc ?_ (by (try simp) <;> (try omega)) _))) (hb.mono (by (try simp) <;> (try omega)))
    have d2 : w1.cell? ⟨w.heap.size + 1 + 1, 0, none⟩ = some (.float .f64 0) := by go_cell
    have d3 : w1.cell? ⟨w.heap.size + 1 + 1, 1, none⟩ = some (.float .f64 0) := by go_cell
    clear hb hres
    go_wp2
    exact bodyPost_ret (v := .tuple #[spv l h, .int .i64 er]) (by simp [results, Try.results6, go_sem, d2, d3]) rfl ⟨.inr (.inr (.inr ⟨rfl, HE.out⟩)), by (repeat (first | exact below_self _ _ | assumption | refine below_dn ?_ _ | refine Below.drew ?_ | refine Below.setCell ?_ (by (try simp) <;> (try omega)) _ | refine Below.alloc ?_ (by (try simp) <;> (try omega)) _))⟩
theorem plain_word {x : Nat} (h : x < 9218868437227405312) : mg x = x ∧ ng x = false ∧ x < 18446744073709551616 := by
  have e : x = double.word false x := by unfold Format.word; simp
  have hl : x < 9223372036854775808 := by omega
  rw [e]
  refine ⟨?_, ?_, word_lt64 _ _ hl⟩
  · rw [(word_mg _ _ hl).1]; exact e
  · exact (word_mg _ _ hl).2
theorem plain_key {x : Nat} (h : x < 9218868437227405312) : key x = x := by
  have := plain_word h
  unfold key
  rw [this.1, this.2.1]; rfl
theorem decode_plain {x : Nat} (h : x < 9218868437227405312) : ((FloatKind.f64.decode x == .infinity true) = false ∧ (FloatKind.f64.decode x == .infinity false) = false) ∧ (FloatKind.f64.decode x).isNaN = false ∧ (FloatKind.f64.decode x).isZero = decide (x = 0) := by
  have px := plain_word h
  obtain ⟨M, P, e1, p1, v1⟩ := read_fin x (by rw [px.1]; exact h)
  have e : FloatKind.f64.decode x = .number (ng x) M P := e1
  rw [e]
  refine ⟨⟨rfl, rfl⟩, rfl, ?_⟩
  have hz : M = 0 ↔ x = 0 := by
    rw [px.1] at v1
    constructor
    · intro k
      rw [k, Nat.zero_mul] at v1
      rcases Nat.eq_zero_or_pos x with g | g
      · exact g
      · have := uval_pos g; omega
    · intro k
      rw [k, uval_zero] at v1
      rcases Nat.eq_zero_or_pos M with g | g
      · exact g
      · have := Nat.mul_pos g (Nat.two_pow_pos (P + 1074).toNat); omega
  cases M with
  | zero => rw [decide_eq_true (hz.1 rfl)]; rfl
  | succ k => rw [decide_eq_false (fun g => absurd (hz.2 g) (by omega))]; rfl
theorem pick_min {x y : Nat} (hx : x < 9218868437227405312) (hy : y < 9218868437227405312) : Extern.MathDim.pick "math.archMin" true .lt #[.float .f64 x, .float .f64 y] = pure (.float .f64 (min x y)) := by
  have dx := decode_plain hx
  have dy := decode_plain hy
  have px := plain_word hx
  have py := plain_word hy
  have eo : (FloatKind.f64.decode x).order (FloatKind.f64.decode y) = some (compare (key x) (key y)) := order_key x y (by rw [px.1]; omega) (by rw [py.1]; omega)
  rw [plain_key hx, plain_key hy] at eo
  show (pure (Value.float .f64 (if FloatKind.f64.decode x == .infinity true || FloatKind.f64.decode y == .infinity true then FloatKind.f64.encode (.infinity true) else if (FloatKind.f64.decode x).isNaN || (FloatKind.f64.decode y).isNaN then 0x7FF8000000000001
      else if (FloatKind.f64.decode x).isZero && (FloatKind.f64.decode y).isZero then (if (FloatKind.f64.decode x).neg == true then x else y) else if (FloatKind.f64.decode x).order (FloatKind.f64.decode y) == some .lt then x else y)) : Sem Value) = _
  simp only [dx.1.1, dy.1.1, dx.2.1, dy.2.1, dx.2.2, dy.2.2, eo, Bool.or_self, Bool.false_eq_true, if_false]
  congr 2
  by_cases k : x = 0 ∧ y = 0
  · rw [if_pos (by simp [k.1, k.2])]
    split <;> omega
  · rw [if_neg (by simpa using k)]
    rcases Int.lt_trichotomy (x : Int) (y : Int) with g | g | g
    · rw [cmp_lt g, if_pos (by rfl)]; omega
    · rw [g, cmp_eq, if_neg (by decide)]; omega
    · rw [cmp_gt g, if_neg (by decide)]; omega
theorem pick_max {x y : Nat} (hx : x < 9218868437227405312) (hy : y < 9218868437227405312) : Extern.MathDim.pick "math.archMax" false .gt #[.float .f64 x, .float .f64 y] = pure (.float .f64 (max x y)) := by
  have dx := decode_plain hx
  have dy := decode_plain hy
  have px := plain_word hx
  have py := plain_word hy
  have eo : (FloatKind.f64.decode x).order (FloatKind.f64.decode y) = some (compare (key x) (key y)) := order_key x y (by rw [px.1]; omega) (by rw [py.1]; omega)
  rw [plain_key hx, plain_key hy] at eo
  show (pure (Value.float .f64 (if FloatKind.f64.decode x == .infinity false || FloatKind.f64.decode y == .infinity false then FloatKind.f64.encode (.infinity false) else if (FloatKind.f64.decode x).isNaN || (FloatKind.f64.decode y).isNaN then 0x7FF8000000000001
      else if (FloatKind.f64.decode x).isZero && (FloatKind.f64.decode y).isZero then (if (FloatKind.f64.decode x).neg == false then x else y) else if (FloatKind.f64.decode x).order (FloatKind.f64.decode y) == some .gt then x else y)) : Sem Value) = _
  simp only [dx.1.2, dy.1.2, dx.2.1, dy.2.1, dx.2.2, dy.2.2, eo, Bool.or_self, Bool.false_eq_true, if_false]
  congr 2
  by_cases k : x = 0 ∧ y = 0
  · rw [if_pos (by simp [k.1, k.2])]
    split <;> omega
  · rw [if_neg (by simpa using k)]
    rcases Int.lt_trichotomy (x : Int) (y : Int) with g | g | g
    · rw [cmp_lt g, if_neg (by decide)]; omega
    · rw [g, cmp_eq, if_neg (by decide)]; omega
    · rw [cmp_gt g, if_pos (by rfl)]; omega
theorem run_archMin {x y : Nat} (hx : x < 9218868437227405312) (hy : y < 9218868437227405312) (w : World) : (callFunc 24 #[.float .f64 x, .float .f64 y]).run Try.prog w = .ok (.value (.float .f64 (min x y))) w := by
  rw [run_callFunc_extern Try.func24 (by kernel_rfl) (by kernel_rfl) (by kernel_rfl) (e := Extern.MathDim.pick "math.archMin" true .lt) (by kernel_rfl), pick_min hx hy]
  rfl
theorem run_archMax {x y : Nat} (hx : x < 9218868437227405312) (hy : y < 9218868437227405312) (w : World) : (callFunc 28 #[.float .f64 x, .float .f64 y]).run Try.prog w = .ok (.value (.float .f64 (max x y))) w := by
  rw [run_callFunc_extern Try.func28 (by kernel_rfl) (by kernel_rfl) (by kernel_rfl) (e := Extern.MathDim.pick "math.archMax" false .gt) (by kernel_rfl), pick_max hx hy]
  rfl
theorem mmin_any {x y : Nat} (hx : x < 9218868437227405312) (hy : y < 9218868437227405312) (w : World) :
    Calls Try.prog 10 #[.float .f64 x, .float .f64 y] w fun e w' => e = .returned (.float .f64 (min x y)) ∧ w' = w := by
  have hr := fun w => run_archMin hx hy w
  clear hx hy
  go_enter Try.func10, Try.ntmps10
  go_wp2
  go_ret; exact ⟨rfl, rfl⟩
theorem mmax_any {x y : Nat} (hx : x < 9218868437227405312) (hy : y < 9218868437227405312) (w : World) :
    Calls Try.prog 12 #[.float .f64 x, .float .f64 y] w fun e w' => e = .returned (.float .f64 (max x y)) ∧ w' = w := by
  have hr := fun w => run_archMax hx hy w
  clear hx hy
  go_enter Try.func12, Try.ntmps12
  go_wp2
  go_ret; exact ⟨rfl, rfl⟩
end Go.Proofs.Ytghcoijinihlnaa.Fl
