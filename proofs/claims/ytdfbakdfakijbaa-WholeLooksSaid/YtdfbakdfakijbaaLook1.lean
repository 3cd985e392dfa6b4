/-
  What the calls return that look at numbers which may be or may not be: Sign, Bits, Int64 of the program and of the document, and the document's Cmp. No conditions but that the lists are lists of limbs.
-/
import Derived.Test.YtdfbakdfakijbaaRcmp
import Derived.Test.YtdfbakdfakijbaaOf2
namespace Go.Proofs.Ytdfbakdfakijbaa
open Go.RowKit Nb

set_option maxHeartbeats 400000 in
theorem wsign_bad (neg : Bool) (A : Option Addr) (ls : List Nat) (c : Nat) (w : World) (hr : Sl .u32 w w.heap.size A ls) (hl : ls.length * 4 ≤ 140737488351232) (ho : ¬ Ok neg ls) :
    Calls Try.prog 10 #[big neg A ls.length c] w fun e w' => e = .returned (.int .i64 0) ∧ Below w.heap.size w w' := by
  go_enter Try.func10, Try.ntmps10
  go_wp2_with fail
  refine (check_bad neg A ls c _ (by exact ((hr.alloc (Nat.le_refl _) _).more (by go_size))) hl ho).mono ?_
  rintro e w1 ⟨rfl, hb1⟩
  obtain ⟨a0, a1, hbw, hs1, hz1⟩ := head_facts hr hb1
  go_wp2
  go_ret
  exact ⟨rfl, hbw⟩

set_option maxHeartbeats 400000 in
theorem wbits_bad (neg : Bool) (A : Option Addr) (ls : List Nat) (c : Nat) (w : World) (hr : Sl .u32 w w.heap.size A ls) (hl : ls.length * 4 ≤ 140737488351232) (ho : ¬ Ok neg ls) :
    Calls Try.prog 12 #[big neg A ls.length c] w fun e w' => e = .returned (.int .i64 0) ∧ Below w.heap.size w w' := by
  go_enter Try.func12, Try.ntmps12
  go_wp2_with fail
  refine (check_bad neg A ls c _ (by exact ((hr.alloc (Nat.le_refl _) _).more (by go_size))) hl ho).mono ?_
  rintro e w1 ⟨rfl, hb1⟩
  obtain ⟨a0, a1, hbw, hs1, hz1⟩ := head_facts hr hb1
  go_wp2
  go_ret
  exact ⟨rfl, hbw⟩

set_option maxHeartbeats 400000 in
theorem wint64_bad (neg : Bool) (A : Option Addr) (ls : List Nat) (c : Nat) (w : World) (hr : Sl .u32 w w.heap.size A ls) (hl : ls.length * 4 ≤ 140737488351232) (ho : ¬ Ok neg ls) :
    Calls Try.prog 7 #[big neg A ls.length c] w fun e w' => e = .returned (.tuple #[.int .i64 0, .bool false]) ∧ Below w.heap.size w w' := by
  go_enter Try.func7, Try.ntmps7
  go_wp2_with fail
  refine (check_bad neg A ls c _ (by exact ((hr.alloc (Nat.le_refl _) _).more (by go_size))) hl ho).mono ?_
  rintro e w1 ⟨rfl, hb1⟩
  obtain ⟨a0, a1, hbw, hs1, hz1⟩ := head_facts hr hb1
  go_wp2
  go_ret2
  exact ⟨rfl, hbw⟩

set_option maxHeartbeats 400000 in
theorem rsignof_bad (neg : Bool) (A : Option Addr) (ls : List Nat) (c : Nat) (w : World) (hr : Sl .u32 w w.heap.size A ls) (hl : ls.length * 4 ≤ 140737488351232) (ho : ¬ Ok neg ls) :
    Calls Try.prog 19 #[big neg A ls.length c] w fun e w' => e = .returned (.int .i64 0) ∧ Below w.heap.size w w' := by
  go_enter Try.func19, Try.ntmps19
  go_wp2_with fail
  refine (rcheck_bad neg A ls c _ (by exact ((hr.alloc (Nat.le_refl _) _).more (by go_size))) hl ho).mono ?_
  rintro e w1 ⟨rfl, hb1⟩
  obtain ⟨a0, a1, hbw, hs1, hz1⟩ := head_facts hr hb1
  go_wp2
  go_ret
  exact ⟨rfl, hbw⟩

set_option maxHeartbeats 400000 in
theorem rbitsof_bad (neg : Bool) (A : Option Addr) (ls : List Nat) (c : Nat) (w : World) (hr : Sl .u32 w w.heap.size A ls) (hl : ls.length * 4 ≤ 140737488351232) (ho : ¬ Ok neg ls) :
    Calls Try.prog 20 #[big neg A ls.length c] w fun e w' => e = .returned (.int .i64 0) ∧ Below w.heap.size w w' := by
  go_enter Try.func20, Try.ntmps20
  go_wp2_with fail
  refine (rcheck_bad neg A ls c _ (by exact ((hr.alloc (Nat.le_refl _) _).more (by go_size))) hl ho).mono ?_
  rintro e w1 ⟨rfl, hb1⟩
  obtain ⟨a0, a1, hbw, hs1, hz1⟩ := head_facts hr hb1
  go_wp2
  go_ret
  exact ⟨rfl, hbw⟩

set_option maxHeartbeats 400000 in
theorem rsignof_ok (neg : Bool) (A : Option Addr) (ls : List Nat) (c : Nat) (w : World) (hr : Sl .u32 w w.heap.size A ls) (ho : Ok neg ls) :
    Calls Try.prog 19 #[big neg A ls.length c] w fun e w' => e = .returned (.int .i64 (sgn neg ls)) ∧ Below w.heap.size w w' := by
  have hlen := ho.len
  have HS := Lib.hid (rsgn_ok ho)
  go_enter Try.func19, Try.ntmps19
  go_wp2_with fail
  refine (rcheck_ok neg A ls c _ (by exact ((hr.alloc (Nat.le_refl _) _).more (by go_size))) ho).mono ?_
  rintro e w1 ⟨rfl, hb1⟩
  obtain ⟨a0, a1, hbw, hs1, hz1⟩ := head_facts hr hb1
  go_wp2_with fail
  refine (rsign_any neg A ls c _ (by omega)).mono ?_
  rw [HS.out]
  rintro e w2 ⟨rfl, hb2⟩
  go_wp2
  go_ret
  exact ⟨rfl, hbw.trans (hb2.mono hbw.size)⟩

set_option maxHeartbeats 400000 in
theorem rbitsof_ok (neg : Bool) (A : Option Addr) (ls : List Nat) (c : Nat) (w : World) (hr : Sl .u32 w w.heap.size A ls) (hd : Dig W32 ls) (ho : Ok neg ls) :
    Calls Try.prog 20 #[big neg A ls.length c] w fun e w' => e = .returned (.int .i64 (bitLen (val W32 ls))) ∧ Below w.heap.size w w' := by
  have hlen := ho.len
  go_enter Try.func20, Try.ntmps20
  go_wp2_with fail
  refine (rcheck_ok neg A ls c _ (by exact ((hr.alloc (Nat.le_refl _) _).more (by go_size))) ho).mono ?_
  rintro e w1 ⟨rfl, hb1⟩
  obtain ⟨a0, a1, hbw, hs1, hz1⟩ := head_facts hr hb1
  go_wp2_with fail
  refine (rbits_any neg A ls c _ hs1 hd ho.norm (by omega)).mono ?_
  rintro e w2 ⟨rfl, hb2⟩
  go_wp2
  go_ret
  exact ⟨rfl, hbw.trans (hb2.mono hbw.size)⟩

/-! ### fine, CmpOf -/
set_option maxHeartbeats 400000 in
theorem fine_yes (n1 n2 : Bool) (A B : Option Addr) (xs ys : List Nat) (c d : Nat) (w : World) (hr : Sl .u32 w w.heap.size A xs) (hs : Sl .u32 w w.heap.size B ys) (o1 : Ok n1 xs) (o2 : Ok n2 ys) :
    Calls Try.prog 34 #[big n1 A xs.length c, big n2 B ys.length d] w fun e w' => e = .returned (.bool true) ∧ Below w.heap.size w w' := by
  have ht := Two.boxed (n1 := n1) (n2 := n2) (l1 := xs.length) (c := c) (l2 := ys.length) (d := d) hr hs
  go_enter Try.func34, Try.ntmps34
  go_wp2_with fail
  refine (rcheck_ok n1 A xs c _ ht.sa o1).mono ?_
  rintro e w1 ⟨rfl, hb1⟩
  have t1 := ht.on hb1
  have q0 := t1.b0
  have q1 := t1.b1
  go_wp2_with fail
  refine (rcheck_ok n2 B ys d _ t1.sb o2).mono ?_
  rintro e w2 ⟨rfl, hb2⟩
  have t2 := t1.on hb2
  go_wp2
  go_ret
  exact ⟨rfl, t2.below⟩

set_option maxHeartbeats 400000 in
theorem fine_no (n1 n2 : Bool) (A B : Option Addr) (xs ys : List Nat) (c d : Nat) (w : World) (hr : Sl .u32 w w.heap.size A xs) (hs : Sl .u32 w w.heap.size B ys) (hl : xs.length * 4 ≤ 140737488351232) (hk : ys.length * 4 ≤ 140737488351232) (ho : ¬ (Ok n1 xs ∧ Ok n2 ys)) :
    Calls Try.prog 34 #[big n1 A xs.length c, big n2 B ys.length d] w fun e w' => e = .returned (.bool false) ∧ Below w.heap.size w w' := by
  have ht := Two.boxed (n1 := n1) (n2 := n2) (l1 := xs.length) (c := c) (l2 := ys.length) (d := d) hr hs
  by_cases o1 : Ok n1 xs
  · have o2 : ¬ Ok n2 ys := fun h => ho ⟨o1, h⟩
    clear ho
    go_enter Try.func34, Try.ntmps34
    go_wp2_with fail
    refine (rcheck_ok n1 A xs c _ ht.sa o1).mono ?_
    rintro e w1 ⟨rfl, hb1⟩
    have t1 := ht.on hb1
    have q0 := t1.b0
    have q1 := t1.b1
    go_wp2_with fail
    refine (rcheck_bad n2 B ys d _ t1.sb hk o2).mono ?_
    rintro e w2 ⟨rfl, hb2⟩
    have t2 := t1.on hb2
    go_wp2
    go_ret
    exact ⟨rfl, t2.below⟩
  · clear ho
    go_enter Try.func34, Try.ntmps34
    go_wp2_with fail
    refine (rcheck_bad n1 A xs c _ ht.sa hl o1).mono ?_
    rintro e w1 ⟨rfl, hb1⟩
    have t1 := ht.on hb1
    go_wp2
    go_ret
    exact ⟨rfl, t1.below⟩

set_option maxHeartbeats 400000 in
theorem cmpof_ok (n1 n2 : Bool) (A B : Option Addr) (xs ys : List Nat) (c d : Nat) (w : World) (hr : Sl .u32 w w.heap.size A xs) (hs : Sl .u32 w w.heap.size B ys) (hx : Dig W32 xs) (hy : Dig W32 ys) (o1 : Ok n1 xs) (o2 : Ok n2 ys) :
    Calls Try.prog 22 #[big n1 A xs.length c, big n2 B ys.length d] w fun e w' => e = .returned (.int .i64 (cmpI (sv n1 (val W32 xs)) (sv n2 (val W32 ys)))) ∧ Below w.heap.size w w' := by
  have ht := Two.boxed (n1 := n1) (n2 := n2) (l1 := xs.length) (c := c) (l2 := ys.length) (d := d) hr hs
  go_enter Try.func22, Try.ntmps22
  go_wp2_with fail
  refine (fine_yes n1 n2 A B xs ys c d _ ht.sa ht.sb o1 o2).mono ?_
  rintro e w1 ⟨rfl, hb1⟩
  have t1 := ht.on hb1
  have p0 := t1.a0
  have p1 := t1.a1
  have q0 := t1.b0
  have q1 := t1.b1
  go_wp2_with fail
  refine (rCmp_any n1 n2 A B xs ys c d _ t1.sa t1.sb hx hy o1 o2).mono ?_
  rintro e w2 ⟨rfl, hb2⟩
  have t2 := t1.on hb2
  go_wp2
  go_ret
  exact ⟨rfl, t2.below⟩

set_option maxHeartbeats 400000 in
theorem cmpof_bad (n1 n2 : Bool) (A B : Option Addr) (xs ys : List Nat) (c d : Nat) (w : World) (hr : Sl .u32 w w.heap.size A xs) (hs : Sl .u32 w w.heap.size B ys) (hl : xs.length * 4 ≤ 140737488351232) (hk : ys.length * 4 ≤ 140737488351232) (ho : ¬ (Ok n1 xs ∧ Ok n2 ys)) :
    Calls Try.prog 22 #[big n1 A xs.length c, big n2 B ys.length d] w fun e w' => e = .returned (.int .i64 0) ∧ Below w.heap.size w w' := by
  have ht := Two.boxed (n1 := n1) (n2 := n2) (l1 := xs.length) (c := c) (l2 := ys.length) (d := d) hr hs
  go_enter Try.func22, Try.ntmps22
  go_wp2_with fail
  refine (fine_no n1 n2 A B xs ys c d _ ht.sa ht.sb hl hk ho).mono ?_
  rintro e w1 ⟨rfl, hb1⟩
  have t1 := ht.on hb1
  go_wp2
  go_ret
  exact ⟨rfl, t1.below⟩
end Go.Proofs.Ytdfbakdfakijbaa
