/-
  A row of structs that grows by append, in a block of its own; what lies in other blocks stays. Conditions: as each theorem states.
-/
import Derived.Test.YtgoackkfjieahaaBx
import Derived.Laws.AppendOwn
namespace Go.Proofs.Ytgoackkfjieahaa
open Go.RowKit

/-- A row of n elements of s cells, in a block of its own. -/
def LRow (s : Nat) (W : World) (B : Nat) (e : TypeId) (v : Value) (n : Nat) (xs : List Value) : Prop :=
  xs.length = n * s ∧ ((v = .slice none 0 0 ∧ n = 0) ∨
    ∃ (g cap : Nat) (cur : Array Value), v = .slice (some ⟨g, 0, none⟩) n cap ∧ B ≤ g ∧ W.heap[g]? = some (.cells cur e (0, 0)) ∧ n ≤ cap ∧ cap ≤ maxLen ∧ cur.size = cap * s ∧ cur.toList.take (n * s) = xs)
/-- A slice lies in block k. -/
def InBlk (v : Value) (k : Nat) : Prop := ∃ n c, v = .slice (some ⟨k, 0, none⟩) n c
/-- No other block is touched. -/
structure Oth (w w' : World) (v v' : Value) : Prop where
  same : ∀ k, k < w.heap.size → ¬ InBlk v k → w'.heap[k]? = w.heap[k]?
  here : ∀ k, InBlk v' k → InBlk v k ∨ w.heap.size ≤ k
  size : w.heap.size ≤ w'.heap.size
  lt : ∀ k, InBlk v' k → k < w'.heap.size
section
variable {s : Nat} {W W' : World} {B n : Nat} {e : TypeId} {v v' u : Value} {xs : List Value}
theorem LRow.nil (s : Nat) (W : World) (B : Nat) (e : TypeId) : LRow s W B e (.slice none 0 0) 0 [] := ⟨by simp, .inl ⟨rfl, rfl⟩⟩
theorem LRow.keep (h : LRow s W B e v n xs) (hk : ∀ k, k < W.heap.size → InBlk v k → W'.heap[k]? = W.heap[k]?) : LRow s W' B e v n xs := by
  obtain ⟨h1, h2⟩ := h
  refine ⟨h1, ?_⟩
  rcases h2 with h2 | ⟨g, cap, cur, rfl, h3, h4, h5⟩
  · exact .inl h2
  · refine .inr ⟨g, cap, cur, rfl, h3, ?_, h5⟩
    rw [hk g (Array.getElem?_eq_some_iff.1 h4).1 ⟨_, _, rfl⟩]; exact h4
theorem LRow.on (h : LRow s W B e v n xs) (hb : Below W.heap.size W W') : LRow s W' B e v n xs := h.keep fun k hk _ => hb.block k hk
theorem LRow.lt (h : LRow s W B e v n xs) : ∀ k, InBlk v k → k < W.heap.size := by
  rintro k ⟨m, c, rfl⟩
  obtain ⟨_, ⟨h2, _⟩ | ⟨g, cap, cur, h2, _, h4, _⟩⟩ := h
  · cases h2
  · cases h2; exact (Array.getElem?_eq_some_iff.1 h4).1
theorem LRow.ge (h : LRow s W B e v n xs) : ∀ k, InBlk v k → B ≤ k := by
  rintro k ⟨m, c, rfl⟩
  obtain ⟨_, ⟨h2, _⟩ | ⟨g, cap, cur, h2, h3, _⟩⟩ := h
  · cases h2
  · cases h2; exact h3
theorem LRow.box (h : LRow s W B e v n xs) (hn : 0 < n) : ∃ g cap, v = .slice (some ⟨g, 0, none⟩) n cap ∧ n ≤ cap ∧ cap ≤ maxLen ∧ B ≤ g ∧ Box W g xs := by
  obtain ⟨h1, ⟨_, h2⟩ | ⟨g, cap, cur, rfl, h3, h4, h5, h6, h7, h8⟩⟩ := h
  · omega
  · refine ⟨g, cap, rfl, h5, h6, h3, (Array.getElem?_eq_some_iff.1 h4).1, fun i u hu => ?_⟩
    rw [← h8] at hu
    obtain ⟨hi, hu2⟩ := List.getElem?_eq_some_iff.1 hu
    rw [List.getElem_take] at hu2
    simp only [World.cell?, h4, Option.isSome_none, Bool.false_eq_true, if_false]
    rw [← Array.getElem?_toList, List.getElem?_eq_some_iff]
    exact ⟨by simp at hi; simp; omega, hu2⟩
theorem Box.keep {p : Nat} {vs : List Value} (K : Box W p vs) (hz : W.heap.size ≤ W'.heap.size) (hk : W'.heap[p]? = W.heap[p]?) : Box W' p vs :=
  ⟨Nat.lt_of_lt_of_le K.lt hz, fun i v e => by rw [World.cell?_of_block (w := W) hk]; exact K.c i v e⟩
/-- A row in another block stays. -/
theorem LRow.oth (h : LRow s W B e u n xs) (o : Oth W W' v v') (hd : ∀ k, InBlk v k → ¬ InBlk u k) : LRow s W' B e u n xs := h.keep fun k hk hu => o.same k hk fun hv => hd k hv hu
theorem Oth.dis (o : Oth W W' v v') (hl : ∀ k, InBlk u k → k < W.heap.size) (hd : ∀ k, InBlk v k → ¬ InBlk u k) : ∀ k, InBlk v' k → ¬ InBlk u k := fun k h1 h2 => by
  rcases o.here k h1 with h | h
  · exact hd k h h2
  · have := hl k h2; omega
end
theorem Box.at_ {W : World} {p : Nat} {vs : List Value} (K : Box W p vs) : ∀ (j : Nat) (u : Value), vs[j]? = some u → W.cell? ((⟨p, 0, none⟩ : Addr).add j) = some u := fun j u e => by
  have h := K.c j u e
  rcases j with _ | j <;> simpa [Addr.add] using h
/-- Cells of a block from an offset on. -/
structure At (W : World) (g o : Nat) (vs : List Value) : Prop where
  lt : g < W.heap.size
  c : ∀ (i : Nat) (v : Value), vs[i]? = some v → W.cell? ⟨g, o + i, none⟩ = some v
theorem At.on {W W' : World} {g o : Nat} {vs : List Value} (h : At W g o vs) (hb : Below W.heap.size W W') : At W' g o vs := ⟨Nat.lt_of_lt_of_le h.lt hb.size, fun i v e => (hb.cell (p := ⟨g, o + i, none⟩) h.lt).trans (h.c i v e)⟩
theorem At.c4 {W : World} {g o : Nat} {a0 a1 a2 a3 : Value} (h : At W g o [a0, a1, a2, a3]) : W.cell? ⟨g, o, none⟩ = some a0 ∧ W.cell? ⟨g, o + 1, none⟩ = some a1 ∧ W.cell? ⟨g, o + 2, none⟩ = some a2 ∧ W.cell? ⟨g, o + 3, none⟩ = some a3 := ⟨h.c 0 _ rfl, h.c 1 _ rfl, h.c 2 _ rfl, h.c 3 _ rfl⟩
theorem At.awayE {W V : World} {g o q o' : Nat} {vs us : List Value} (h : At W g o vs) (e : V = W.setCells q o' us) (hne : g ≠ q) : At V g o vs := by
  subst e
  exact ⟨by rw [size_setCells]; exact h.lt, fun i v e => by rw [World.cell?_setCells_out _ _ _ _ _ (fun h => absurd h hne)]; exact h.c i v e⟩
/-- The cells of an element of a row. -/
theorem Box.elem {W : World} {g : Nat} {α : Type} {f : α → List Value} {xs : List α} {k s : Nat} {m : α} (h : Box W g (xs.flatMap f)) (hs : ∀ x, (f x).length = s) (hm : xs[k]? = some m) : At W g (k * s) (f m) := by
  refine ⟨h.lt, fun i v e => h.c _ v ?_⟩
  have key : ∀ (xs : List α) (k : Nat), xs[k]? = some m → (xs.flatMap f)[k * s + i]? = some v := by
    intro xs
    induction xs with
    | nil => intro k hk; simp at hk
    | cons x r ih =>
      intro k hk
      cases k with
      | zero =>
        simp at hk; subst hk
        rw [Nat.zero_mul, Nat.zero_add, List.flatMap_cons, List.getElem?_append_left (List.getElem?_eq_some_iff.1 e).1]; exact e
      | succ k =>
        rw [List.flatMap_cons, List.getElem?_append_right (by rw [hs, Nat.add_mul]; omega), hs, show (k + 1) * s + i - s = k * s + i by rw [Nat.add_mul]; omega]
        exact ih k (by simpa using hk)
  exact key xs k hm
section
variable {P : Program}
theorem run_append_row (w : World) (s B : Nat) (t ty e : TypeId) (i : TypeInfo) (z : Value) (bytes : Nat) (ht : P.underlying t = some (.slice e)) (hi : P.info? e = some i) (hz : i.zero = some z)
    (hs0 : 0 < s) (hsize : i.size = s) (hby : i.bytes = bytes) (hzs : z.cells.size = s)
    (v : Value) (n : Nat) (xs : List Value) (hown : LRow s w B e v n xs)
    (ad : Addr) (c : Nat) (news : List Value) (hl : news.length = s) (hnews : ∀ j u, news[j]? = some u → w.cell? (ad.add j) = some u) (h1 : ∀ u ∈ news, u.oneCell' = true)
    (hmax : s * (n + 1) ≤ 140737488355328) (hb2 : (n + 1) * bytes ≤ 140737488355328) (hbase : B ≤ w.heap.size) :
    ∃ v' w', (Builtin.append_ #[t, t] ty #[v, .slice (some ad) 1 c]).run P w = .ok v' w' ∧ LRow s w' B e v' (n + 1) (xs ++ news) ∧ Below B w w' ∧ Oth w w' v v' := by
  have hl2 : news.length = 1 * i.size := by rw [hsize, hl]; omega
  have hb2' : (n + 1) * i.bytes ≤ 140737488355328 := by rw [hby]; exact hb2
  have hn1 : n + 1 ≤ 140737488355328 := Nat.le_trans (Nat.le_mul_of_pos_left _ hs0) hmax
  have hb : ∀ cur : Array Value, Below w.heap.size w (w.drew.alloc (.cells cur e)) := fun cur => ((Below.refl _ _).drew).alloc (Nat.le_refl _) _
  have hoth : ∀ (cur : Array Value) (m c' : Nat), Oth w (w.drew.alloc (.cells cur e)) v (.slice (some ⟨w.heap.size, 0, none⟩) m c') := fun cur m c' =>
    ⟨fun k hk _ => (hb cur).block k hk, fun k ⟨_, _, h⟩ => by cases h; exact .inr (Nat.le_refl _), (hb cur).size, fun k ⟨_, _, h⟩ => by cases h; simp⟩
  obtain ⟨hlen, ⟨rfl, rfl⟩ | ⟨g, cap, cur, rfl, h3, h4, h5, h6, h7, h8⟩⟩ := hown
  · have hr := run_append_nil (P := P) w t ty e i z ht hi hz ad 1 c news hl2 hnews (by decide) (by decide) (by omega)
    have hge := grownCap_ge w 1 0 e
    have hcm := grownCap_le_maxLen w 1 0 e (by simp only [maxLen]; omega)
    obtain rfl : xs = [] := List.eq_nil_of_length_eq_zero (by simpa using hlen)
    refine ⟨_, _, hr, ⟨by simp [hl], .inr ⟨w.heap.size, _, _, rfl, hbase, heap_alloc_new w.drew _, hge, hcm, ?_, ?_⟩⟩, (hb _).mono hbase, hoth _ _ _⟩
    · simp only [Array.size_append, List.size_toArray, size_zeroCells, hzs, hl]
      have := Nat.sub_add_cancel hge
      conv => rhs; rw [← this]
      rw [Nat.add_mul]; omega
    · simp only [Array.toList_append, List.nil_append]
      rw [show (0 + 1) * s = news.length by rw [hl]; omega]
      exact List.take_left
  · have holds : ∀ j u, xs[j]? = some u → w.cell? ((⟨g, 0, none⟩ : Addr).add j) = some u := fun j u hu => by
      obtain ⟨g2, cap2, e2, _, _, _, hbx⟩ := LRow.box (s := s) (W := w) (B := B) (e := e) (n := n) (xs := xs) (v := .slice (some ⟨g, 0, none⟩) n cap) ⟨hlen, .inr ⟨g, cap, cur, rfl, h3, h4, h5, h6, h7, h8⟩⟩ (by
        rcases Nat.eq_zero_or_pos n with h0 | h0
        · rw [h0] at hlen
          have : xs = [] := List.eq_nil_of_length_eq_zero (by simpa using hlen)
          rw [this] at hu; simp at hu
        · exact h0)
      cases e2
      have := hbx.c j u hu
      rcases j with _ | j
      · simpa [Addr.add] using this
      · simpa [Addr.add] using this
    have hns : (n + 1) * s = n * s + s := by rw [Nat.add_mul]; omega
    by_cases hroom : n + 1 ≤ cap
    · have hcs2 : (n + 1) * s ≤ cap * s := Nat.mul_le_mul_right s hroom
      have hfit : n * i.size + news.length ≤ cur.size := by rw [hsize, hl, h7]; omega
      have hr := run_append_room (P := P) w t ty e i ht hi g n cap cur h4 ad 1 c news hl2 hnews h1 hroom hfit
      rw [hsize] at hr
      obtain ⟨cs, hcs⟩ : ∃ cs : Array Value, (cur.toList.take (n * s) ++ news ++ cur.toList.drop (n * s + news.length)).toArray = cs := ⟨_, rfl⟩
      have hcsz : cs.size = cap * s := by
        rw [← hcs]
        simp only [List.size_toArray, List.length_append, List.length_take, List.length_drop, Array.length_toList]
        omega
      have htk : cs.toList.take ((n + 1) * s) = xs ++ news := by
        rw [← hcs]
        show List.take _ (List.take (n * s) cur.toList ++ news ++ _) = _
        rw [h8, show (n + 1) * s = (xs ++ news).length by rw [List.length_append, hlen, hl]; omega]
        exact List.take_left
      rw [hcs] at hr
      refine ⟨_, _, hr, ⟨by rw [List.length_append, hlen, hl]; omega, .inr ⟨g, cap, cs, rfl, h3, setRow_heap w g cur _ e _ h4, hroom, h6, hcsz, htk⟩⟩, ⟨rfl, rfl, rfl, by simp [World.setRow], fun k hk => setRow_other w g k _ (by omega)⟩, ?_⟩
      exact ⟨fun k hk hn => setRow_other w g k _ (fun hkg => hn (by subst hkg; exact ⟨_, _, rfl⟩)), fun k ⟨_, _, h⟩ => by cases h; exact .inl ⟨_, _, rfl⟩, by simp [World.setRow], fun k ⟨_, _, h⟩ => by cases h; simp only [World.setRow]; simp; exact (Array.getElem?_eq_some_iff.1 h4).1⟩
    · have hr := run_append_grow (P := P) w t ty e i z ht hi hz ⟨g, 0, none⟩ n cap xs (by rw [hsize]; exact hlen) holds ad 1 c news hl2 hnews (by omega) (by omega) (growslice_fits (by omega) hb2')
      have hge := grownCap_ge w (n + 1) cap e
      have hcm := grownCap_le_maxLen w (n + 1) cap e (by simp only [maxLen]; omega)
      refine ⟨_, _, hr, ⟨by rw [List.length_append, hlen, hl]; omega, .inr ⟨w.heap.size, _, _, rfl, hbase, heap_alloc_new w.drew _, hge, hcm, ?_, ?_⟩⟩, (hb _).mono hbase, hoth _ _ _⟩
      · simp only [Array.size_append, List.size_toArray, size_zeroCells, hzs, hl, hlen]
        have := Nat.sub_add_cancel hge
        conv => rhs; rw [← this]
        rw [Nat.add_mul]; omega
      · simp only [Array.toList_append]
        rw [show (n + 1) * s = (xs ++ news).length by rw [List.length_append, hlen, hl]; omega]
        exact List.take_left
theorem wpList_append_row (w : World) {ops : Array Oper} {rest : List Oper} {o : Oper} {a : Act} {Q : Exit → Act → World → Prop} (hgd : o.guard = none) (sl x : Operand) (t : TypeId)
    (ho : o.op = .call { callee := .builtin .append, args := #[sl, x], argTypes := #[t, t] })
    (s B : Nat) (e : TypeId) (i : TypeInfo) (z : Value) (bytes : Nat) (ht : P.underlying t = some (.slice e)) (hi : P.info? e = some i) (hz : i.zero = some z)
    (hs0 : 0 < s) (hsize : i.size = s) (hby : i.bytes = bytes) (hzs : z.cells.size = s)
    (v : Value) (n : Nat) (xs : List Value) (hs : a.eval sl = v) (hown : LRow s w B e v n xs)
    (ad : Addr) (c : Nat) (news : List Value) (hx : a.eval x = .slice (some ad) 1 c) (hl : news.length = s) (hnews : ∀ j u, news[j]? = some u → w.cell? (ad.add j) = some u) (h1 : ∀ u ∈ news, u.oneCell' = true)
    (hmax : s * (n + 1) ≤ 140737488355328) (hb2 : (n + 1) * bytes ≤ 140737488355328) (hbase : B ≤ w.heap.size)
    (h : ∀ v' w', LRow s w' B e v' (n + 1) (xs ++ news) → Below B w w' → Oth w w' v v' → wpList P ops Q rest (a.put o.dst v') w') : wpList P ops Q (o :: rest) a w := by
  obtain ⟨v', w', hr, h2, h3, h4⟩ := run_append_row (P := P) w s B t o.type e i z bytes ht hi hz hs0 hsize hby hzs v n xs hown ad c news hl hnews h1 hmax hb2 hbase
  refine wpList_plain hgd fun K hK => ?_
  unfold Oper.wp execOp
  simp only [ho, resolve, invoke, builtin, Sem.run_bind, Sem.run_pure, Result.andThen_ok, List.map_toArray, List.map_cons, List.map_nil, hs, hx, hr]
  exact hK _ _ (h v' w' h2 h3 h4)
end
end Go.Proofs.Ytgoackkfjieahaa
