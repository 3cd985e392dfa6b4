/-
  The statements' worth and between; facts on roots. Conditions: as each theorem states.
-/
import Derived.Test.YtghcoijinihlnaaGreatFfl
import Derived.Laws.AppendOwn
import Derived.Test.YtghcoijinihlnaaGreatFrom
import Derived.Test.YtghcoijinihlnaaGreatBws
import Derived.Test.YtghcoijinihlnaaGreatGcd
import Derived.Test.YtghcoijinihlnaaGreatFrd
import Derived.Test.YtghcoijinihlnaaGreatExu
import Derived.Deep.RegionHeld3
import Derived.Deep.DeepCutAuto
import Derived.BigRegion
namespace Go.Proofs.YtghcoijinihlnaaGreat
open Go.RowKit Nb
/-- The cells of a fraction. -/
def fcv (f : Fv) : List Value := [.bool f.n, .slice f.A f.xs.length f.c, .bool f.m, .slice f.B f.ds.length f.d]
def rowv (fs : List Fv) : List Value := fs.flatMap fcv
theorem rowv_snoc (fs : List Fv) (f : Fv) : rowv (fs ++ [f]) = rowv fs ++ fcv f := by simp [rowv]
theorem rowv_len (fs : List Fv) : (rowv fs).length = fs.length * 4 := by
  induction fs with
  | nil => rfl
  | cons f r ih => rw [show rowv (f :: r) = fcv f ++ rowv r from rfl, List.length_append, ih]; simp [fcv]; omega
theorem fcv_soft (f : Fv) : (fcv f).all soft = true := rfl
theorem rowv_soft (fs : List Fv) : (rowv fs).all soft = true := by
  induction fs with
  | nil => rfl
  | cons f r ih => rw [show rowv (f :: r) = fcv f ++ rowv r from rfl, List.all_append, ih, fcv_soft]; rfl
/-- A row of n elements of four cells, in a block that holds no words. -/
def SRow (W : World) (B : Nat) (e : TypeId) (v : Value) (n : Nat) (xs : List Value) : Prop :=
  xs.length = n * 4 ∧ ((v = .slice none 0 0 ∧ n = 0) ∨
    ∃ (g cap : Nat) (cur : Array Value), v = .slice (some ⟨g, 0, none⟩) n cap ∧ B ≤ g ∧ W.heap[g]? = some (.cells cur e (0, 0)) ∧ n ≤ cap ∧ cap ≤ maxLen ∧ cur.size = cap * 4 ∧ cur.toList.take (n * 4) = xs ∧ cur.toList.all soft = true)
theorem SRow.nil (W : World) (B : Nat) (e : TypeId) : SRow W B e (.slice none 0 0) 0 [] := ⟨rfl, .inl ⟨rfl, rfl⟩⟩
theorem SRow.on {W W' : World} {B n : Nat} {e : TypeId} {v : Value} {xs : List Value} (h : SRow W B e v n xs) (hb : Below W.heap.size W W') : SRow W' B e v n xs := by
  obtain ⟨h1, h2⟩ := h
  refine ⟨h1, ?_⟩
  rcases h2 with h2 | ⟨g, cap, cur, rfl, h3, h4, h5⟩
  · exact .inl h2
  · refine .inr ⟨g, cap, cur, rfl, h3, ?_, h5⟩
    rw [hb.block g (Array.getElem?_eq_some_iff.1 h4).1]; exact h4
theorem SRow.box {W : World} {B n : Nat} {e : TypeId} {v : Value} {xs : List Value} (h : SRow W B e v n xs) (hn : 0 < n) : ∃ g cap, v = .slice (some ⟨g, 0, none⟩) n cap ∧ n ≤ cap ∧ B ≤ g ∧ Box W g xs := by
  obtain ⟨h1, ⟨_, h2⟩ | ⟨g, cap, cur, rfl, h3, h4, h5, h6, h7, h8, h9⟩⟩ := h
  · omega
  · refine ⟨g, cap, rfl, h5, h3, (Array.getElem?_eq_some_iff.1 h4).1, fun i u hu => ?_⟩
    rw [← h8] at hu
    obtain ⟨hi, hu2⟩ := List.getElem?_eq_some_iff.1 hu
    rw [List.getElem_take] at hu2
    simp only [World.cell?, h4, Option.isSome_none, Bool.false_eq_true, if_false]
    rw [← Array.getElem?_toList, List.getElem?_eq_some_iff]
    exact ⟨by simp at hi; simp; omega, hu2⟩
theorem zeros_soft {z : Array Value} (hz : z.toList.all soft = true) (n : Nat) : (Builtin.zeroCells z n).toList.all soft = true := by
  unfold Builtin.zeroCells
  rw [List.all_eq_true] at *
  intro x hx
  simp at hx
  obtain ⟨k, hk, rfl⟩ := hx
  have hz0 : 0 < z.size := by
    rcases Nat.eq_zero_or_pos z.size with h0 | h0
    · rw [h0] at hk; omega
    · exact h0
  have hlt := Nat.mod_lt k hz0
  rw [getElem!_pos z (k % z.size) hlt]
  exact hz _ (by simp)
section
variable {P : Program}
theorem run_append_soft (w : World) (B : Nat) (t ty e : TypeId) (i : TypeInfo) (z : Value) (bytes : Nat) (ht : P.underlying t = some (.slice e)) (hi : P.info? e = some i) (hz : i.zero = some z)
    (hsize : i.size = 4) (hby : i.bytes = bytes) (hzs : z.cells.size = 4) (hzf : z.cells.toList.all soft = true)
    (v : Value) (n : Nat) (xs : List Value) (hown : SRow w B e v n xs) (hxs : xs.all soft = true)
    (ad : Addr) (c : Nat) (news : List Value) (hl : news.length = 4) (hnews : ∀ j u, news[j]? = some u → w.cell? (ad.add j) = some u) (h1 : ∀ u ∈ news, u.oneCell' = true) (hns : news.all soft = true)
    (h63 : n + 1 ≤ 1000000) (hbytes : bytes ≤ 1000) (hbase : B ≤ w.heap.size) :
    ∃ v' w', (Builtin.append_ #[t, t] ty #[v, .slice (some ad) 1 c]).run P w = .ok v' w' ∧ SRow w' B e v' (n + 1) (xs ++ news) ∧ Kept w w' ∧ Below B w w' := by
  have hl2 : news.length = 1 * i.size := by rw [hsize, hl]
  have hb2 : (n + 1) * i.bytes ≤ 140737488355328 := by
    rw [hby]
    have := Nat.mul_le_mul (show n + 1 ≤ 1000000 from h63) hbytes
    omega
  have hb : ∀ cur : Array Value, Below w.heap.size w (w.drew.alloc (.cells cur e)) := fun cur => ((Below.refl _ _).drew).alloc (Nat.le_refl _) _
  obtain ⟨hlen, ⟨rfl, rfl⟩ | ⟨g, cap, cur, rfl, h3, h4, h5, h6, h7, h8, h9⟩⟩ := hown
  · have hr := run_append_nil (P := P) w t ty e i z ht hi hz ad 1 c news hl2 hnews (by decide) (by decide) (by omega)
    have hge := grownCap_ge w 1 0 e
    have hcm := grownCap_le_maxLen w 1 0 e (by simp only [maxLen]; omega)
    obtain rfl : xs = [] := List.eq_nil_of_length_eq_zero (by simpa using hlen)
    refine ⟨_, _, hr, ⟨by simp [hl], .inr ⟨w.heap.size, _, _, rfl, hbase, heap_alloc_new w.drew _, hge, hcm, ?_, ?_, ?_⟩⟩, Kept.of (hb _), (hb _).mono hbase⟩
    · simp only [Array.size_append, List.size_toArray, size_zeroCells, hzs, hl]; omega
    · simp only [Array.toList_append, List.nil_append]
      rw [show (0 + 1) * 4 = news.length by rw [hl]]
      exact List.take_left
    · simp only [Array.toList_append, List.all_append, hns, zeros_soft hzf, Bool.and_true]
  · have holds : ∀ j u, xs[j]? = some u → w.cell? ((⟨g, 0, none⟩ : Addr).add j) = some u := fun j u hu => by
      obtain ⟨g2, cap2, e2, _, _, hbx⟩ := SRow.box (W := w) (B := B) (e := e) (n := n) (xs := xs) (v := .slice (some ⟨g, 0, none⟩) n cap) ⟨hlen, .inr ⟨g, cap, cur, rfl, h3, h4, h5, h6, h7, h8, h9⟩⟩ (by
        rcases Nat.eq_zero_or_pos n with h0 | h0
        · rw [h0] at hlen
          have : xs = [] := List.eq_nil_of_length_eq_zero (by simpa using hlen)
          rw [this] at hu; simp at hu
        · exact h0)
      cases e2
      have := hbx.c j u hu
      rcases j with _ | j
      · simpa [Addr.add] using this
      · simpa [Addr.add] using this
    by_cases hroom : n + 1 ≤ cap
    · have hfit : n * i.size + news.length ≤ cur.size := by rw [hsize, hl, h7]; omega
      have hr := run_append_room (P := P) w t ty e i ht hi g n cap cur h4 ad 1 c news hl2 hnews h1 hroom hfit
      rw [hsize] at hr
      obtain ⟨cs, hcs⟩ : ∃ cs : Array Value, (cur.toList.take (n * 4) ++ news ++ cur.toList.drop (n * 4 + news.length)).toArray = cs := ⟨_, rfl⟩
      have hsoft : cs.toList.all soft = true := by
        rw [← hcs, List.all_append, List.all_append, h8, hxs, hns]
        simp only [Bool.true_and]
        rw [List.all_eq_true] at *
        exact fun x hx => h9 x (List.mem_of_mem_drop hx)
      have hcsz : cs.size = cap * 4 := by
        rw [← hcs]
        simp only [List.size_toArray, List.length_append, List.length_take, List.length_drop, Array.length_toList]
        omega
      have htk : cs.toList.take ((n + 1) * 4) = xs ++ news := by
        rw [← hcs]
        show List.take _ (List.take (n * 4) cur.toList ++ news ++ _) = _
        rw [h8, show (n + 1) * 4 = (xs ++ news).length by rw [List.length_append, hlen, hl]; omega]
        exact List.take_left
      rw [hcs] at hr
      refine ⟨_, _, hr, ⟨by rw [List.length_append, hlen, hl]; omega, .inr ⟨g, cap, cs, rfl, h3, setRow_heap w g cur _ e _ h4, hroom, h6, hcsz, htk, hsoft⟩⟩, ?_, ⟨rfl, rfl, rfl, by simp [World.setRow], fun k hk => setRow_other w g k _ (by omega)⟩⟩
      have hkeep : ∀ (p : Addr) (u : Value), soft u = false → w.cell? p = some u → (w.setRow g cs).cell? p = some u := fun p u hu hc => by
        by_cases hp : p.block = g
        · exfalso
          unfold World.cell? at hc
          rw [hp, h4] at hc
          simp only at hc
          split at hc
          · cases hc
          · have hm : u ∈ cur.toList := by
              have := Array.mem_of_getElem? hc
              simpa using this
            have := (List.all_eq_true.1 h9) u hm
            rw [hu] at this; cases this
        · rw [World.cell?_of_block (w := w) (setRow_other w g p.block cs hp)]; exact hc
      exact ⟨by simp [World.setRow], fun p m _ hc => hkeep p _ rfl hc, fun p m _ hc => hkeep p _ rfl hc⟩
    · have hr := run_append_grow (P := P) w t ty e i z ht hi hz ⟨g, 0, none⟩ n cap xs (by rw [hsize]; exact hlen) holds ad 1 c news hl2 hnews (by omega) (by omega) (growslice_fits (by omega) hb2)
      have hge := grownCap_ge w (n + 1) cap e
      have hcm := grownCap_le_maxLen w (n + 1) cap e (by simp only [maxLen]; omega)
      refine ⟨_, _, hr, ⟨by rw [List.length_append, hlen, hl]; omega, .inr ⟨w.heap.size, _, _, rfl, hbase, heap_alloc_new w.drew _, hge, hcm, ?_, ?_, ?_⟩⟩, Kept.of (hb _), (hb _).mono hbase⟩
      · simp only [Array.size_append, List.size_toArray, size_zeroCells, hzs, hl, hlen]; omega
      · simp only [Array.toList_append]
        rw [show (n + 1) * 4 = (xs ++ news).length by rw [List.length_append, hlen, hl]; omega]
        exact List.take_left
      · simp only [Array.toList_append, List.all_append, hns, hxs, zeros_soft hzf, Bool.and_true]
theorem wpList_append_soft (w : World) {ops : Array Oper} {rest : List Oper} {o : Oper} {a : Act} {Q : Exit → Act → World → Prop} (hgd : o.guard = none) (s x : Operand) (t : TypeId)
    (ho : o.op = .call { callee := .builtin .append, args := #[s, x], argTypes := #[t, t] })
    (B : Nat) (e : TypeId) (i : TypeInfo) (z : Value) (bytes : Nat) (ht : P.underlying t = some (.slice e)) (hi : P.info? e = some i) (hz : i.zero = some z)
    (hsize : i.size = 4) (hby : i.bytes = bytes) (hzs : z.cells.size = 4) (hzf : z.cells.toList.all soft = true)
    (v : Value) (n : Nat) (xs : List Value) (hs : a.eval s = v) (hown : SRow w B e v n xs) (hxs : xs.all soft = true)
    (ad : Addr) (c : Nat) (news : List Value) (hx : a.eval x = .slice (some ad) 1 c) (hl : news.length = 4) (hnews : ∀ j u, news[j]? = some u → w.cell? (ad.add j) = some u) (h1 : ∀ u ∈ news, u.oneCell' = true) (hns : news.all soft = true)
    (h63 : n + 1 ≤ 1000000) (hbytes : bytes ≤ 1000) (hbase : B ≤ w.heap.size)
    (h : ∀ v' w', SRow w' B e v' (n + 1) (xs ++ news) → Kept w w' → Below B w w' → wpList P ops Q rest (a.put o.dst v') w') : wpList P ops Q (o :: rest) a w := by
  obtain ⟨v', w', hr, h2, h3, h4⟩ := run_append_soft (P := P) w B t o.type e i z bytes ht hi hz hsize hby hzs hzf v n xs hown hxs ad c news hl hnews h1 hns h63 hbytes hbase
  refine wpList_plain hgd fun K hK => ?_
  unfold Oper.wp execOp
  simp only [ho, resolve, invoke, builtin, Sem.run_bind, Sem.run_pure, Result.andThen_ok, List.map_toArray, List.map_cons, List.map_nil, hs, hx, hr]
  exact hK _ _ (h v' w' h2 h3 h4)
end
end Go.Proofs.YtghcoijinihlnaaGreat
namespace Go.Proofs.YtghcoijinihlnaaGreat
open Go.RowKit Nb Fl
theorem info_frac : (Tryz.prog.info? 26).map (fun i => (i.zero, i.size, i.bytes)) = some (some (.agg #[.bool false, .slice none 0 0, .bool false, .slice none 0 0]), 4, 64) := by kernel_rfl
theorem Box.at_ {W : World} {p : Nat} {us : List Value} (K : Box W p us) : ∀ (j : Nat) (u : Value), us[j]? = some u → W.cell? ((⟨p, 0, none⟩ : Addr).add j) = some u := fun j u hu => by
  have := K.c j u hu
  rcases j with _ | j
  · simpa [Addr.add] using this
  · simpa [Addr.add] using this
theorem fcv_one (f : Fv) : ∀ u ∈ fcv f, u.oneCell' = true := by
  intro u hu
  simp [fcv] at hu
  rcases hu with rfl | rfl | rfl | rfl <;> rfl
/-- The first k floats of a list are finite, and what they are worth lies in a row. -/
def Wo (wr : World) (B : Nat) (xs : List Nat) (k : Nat) (v : Value) : Prop :=
  ∃ fs : List Fv, fs.length = k ∧ (∀ (j x : Nat), j < k → xs[j]? = some x → mg x < 9218868437227405312) ∧ (∀ (j x : Nat) (f : Fv), xs[j]? = some x → fs[j]? = some f → Ff wr (fl x) f) ∧ SRow wr B 26 v k (rowv fs)
theorem Wo.nil (wr : World) (B : Nat) (xs : List Nat) : Wo wr B xs 0 (.slice none 0 0) :=
  ⟨[], rfl, fun _ _ h => absurd h (by omega), fun j x f _ h => by simp at h, SRow.nil _ _ _⟩
theorem Wo.snoc {W W' : World} {B k x : Nat} {xs : List Nat} {v : Value} {fs : List Fv} {f : Fv} (hl : fs.length = k) (hf : ∀ (j x : Nat), j < k → xs[j]? = some x → mg x < 9218868437227405312)
    (hw : ∀ (j x : Nat) (f : Fv), xs[j]? = some x → fs[j]? = some f → Ff W (fl x) f) (hk : Kept W W') (hx : xs[k]? = some x) (hx2 : mg x < 9218868437227405312) (hF : Ff W' (fl x) f)
    (hr : SRow W' B 26 v (k + 1) (rowv fs ++ fcv f)) : Wo W' B xs (k + 1) v := by
  refine ⟨fs ++ [f], by rw [List.length_append, hl]; rfl, fun j y hj hy => ?_, fun j y g hy hg => ?_, by rw [rowv_snoc]; exact hr⟩
  · rcases Nat.lt_or_ge j k with h | h
    · exact hf j y h hy
    · obtain rfl : j = k := by omega
      rw [hx] at hy; cases hy; exact hx2
  · rcases Nat.lt_or_ge j k with h | h
    · rw [List.getElem?_append_left (by omega)] at hg
      exact (hw j y g hy hg).kp hk
    · rw [List.getElem?_append_right (by omega)] at hg
      have hj : j - fs.length = 0 := by
        rcases Nat.eq_zero_or_pos (j - fs.length) with h0 | h0
        · exact h0
        · rw [List.getElem?_eq_none (by simp; omega)] at hg; cases hg
      rw [hj] at hg
      simp at hg
      subst hg
      obtain rfl : j = k := by omega
      rw [hx] at hy; cases hy; exact hF
set_option maxHeartbeats 3200000 in
set_option maxRecDepth 20000 in
theorem worth_any (xs : List Nat) (ad : Addr) (w : World) (had : ad.block < w.heap.size) (hc : ∀ (j x : Nat), xs[j]? = some x → w.cell? (ad.add j) = some (.float .f64 x)) (hx : ∀ x ∈ xs, x < 18446744073709551616) (hn : xs.length ≤ 1000) :
    Calls Tryz.prog 12 #[.slice (some ad) xs.length xs.length] w (fun e w' => ((∃ x ∈ xs, 9218868437227405312 ≤ mg x) ∧ e = .returned (.tuple #[.slice none 0 0, .bool false]) ∨ ∃ v, e = .returned (.tuple #[v, .bool true]) ∧ Wo w' w.heap.size xs xs.length v) ∧ Below w.heap.size w w') := by
  obtain ⟨i0, hi, hz0, hz1, hz2⟩ := info_parts info_frac
  have HX := Lib.hid hx
  have HC := Lib.hid hc
  have HA := Lib.hid had
  have HL := Lib.hid hn
  clear hx hc had hn
  go_enter Tryz.func12, Tryz.ntmps12
  go_wp2_with fail
  go_loopg [4, 5] xs.length (fun g ov iv wr => ∃ k : Nat, iv = .int .i64 k ∧ k + g = xs.length ∧ Hid (Wo wr w.heap.size xs k ov) ∧ Below w.heap.size w wr)
  case atStart => exact ⟨0, rfl, by omega, Lib.hid (Wo.nil _ _ _), Below.refl _ _⟩
  case round =>
    obtain ⟨k, rfl, hkg, hwo, hbel⟩ := hrel
    have HG := Lib.hid hkg
    by_cases hk : k < xs.length
    · have hki : (k : Int) < (xs.length : Int) := by omega
      obtain ⟨x, hxk⟩ : ∃ x, xs[k]? = some x := ⟨_, List.getElem?_eq_getElem hk⟩
      have hcx : wr.cell? (ad.add k) = some (.float .f64 x) := (hbel.cell (by rw [block_of_add]; exact HA.out)).trans (HC.out k x hxk)
      have hlt : x < 18446744073709551616 := HX.out x (List.mem_of_getElem? hxk)
      have HK := Lib.hid hxk
      clear hxk hkg
      rcases Nat.lt_or_ge (mg x) 9218868437227405312 with hf | hf
      · have HF := Lib.hid (fun W => from_fl (w := W) hlt hf)
        have HM := Lib.hid hf
        clear hlt hf
        go_wp2_with fail
        refine (HF.out _).mono ?_
        rintro _ w2 ⟨f, rfl, L, hb⟩
        obtain ⟨fs, hfl, hfin, hff, hrow⟩ := hwo.out
        obtain ⟨V, e1, hb1, K1, -, z1⟩ := alloc_new w2 [.bool f.n, .slice f.A f.xs.length f.c, .bool f.m, .slice f.B f.ds.length f.d] 26
        obtain ⟨V2, e2, hb2, K2, -, -⟩ := alloc_new V [.bool f.n, .slice f.A f.xs.length f.c, .bool f.m, .slice f.B f.ds.length f.d] 26
        rw [z1] at K2
        obtain ⟨c1, c2, c3, c4⟩ := K1.c4
        have g2 : Below w.heap.size w V2 := ((hbel.trans (hb.mono hbel.size)).trans (hb1.mono (Nat.le_trans hbel.size hb.size))).trans (hb2.mono (Nat.le_trans hbel.size (Nat.le_trans hb.size hb1.size)))
        have HS := Lib.hid (And.intro (((hrow.on hb).on hb1).on hb2) (And.intro K2.at_ g2.size))
        have HW : Hid (∀ (W : World) (v : Value), SRow W w.heap.size 26 v (k + 1) (rowv fs ++ fcv f) → Kept V2 W → Below w.heap.size V2 W → Wo W w.heap.size xs (k + 1) v ∧ Below w.heap.size w W) := Lib.hid (fun W v h1 h2 h3 =>
          ⟨Wo.snoc hfl hfin hff ((((Kept.of hb).trans (Kept.of hb1)).trans (Kept.of hb2)).trans h2) HK.out HM.out (L.kp (((Kept.of hb1).trans (Kept.of hb2)).trans h2)) h1, g2.trans h3⟩)
        rw [e2, e1] at HS HW
        rw [e1] at c1 c2 c3 c4
        clear g2 hfl hfin hff hrow K1 K2 e1 e2 hb1 hb2 z1 L hbel hwo HF hcx hb
        go_wp2_with (at_builtin; refine wpList_append_soft _ rfl (.tmp 24) (.tmp 26) 37 rfl w.heap.size 26 i0 (.agg #[.bool false, .slice none 0 0, .bool false, .slice none 0 0]) 64 Tryz.underlying37 hi hz0 hz1 hz2 rfl rfl _ k (rowv fs) rfl HS.out.1 (rowv_soft fs) ⟨w2.heap.size + 1, 0, none⟩ 1 (fcv f) rfl rfl HS.out.2.1 (fcv_one f) (fcv_soft f) (by have := HL.out; omega) (by decide) HS.out.2.2 ?_
                     intro v' w3 h1 h2 h3)
        have HV := Lib.hid (HW.out w3 v' h1 h2 h3)
        clear h1 h2 h3 HW HS
        go_wp2_with fail
        go_roundg (gk - 1)
        case measure => have := HG.out; omega
        case rel => exact ⟨k + 1, by rw [w64_in _ (by have := HL.out; omega)]; rfl, by have := HG.out; omega, Lib.hid HV.out.1, HV.out.2⟩
      · have HF := Lib.hid (fun W => from_no (w := W) hlt hf)
        have HM : Hid (∃ x ∈ xs, 9218868437227405312 ≤ mg x) := Lib.hid ⟨x, List.mem_of_getElem? HK.out, hf⟩
        clear hlt hf hwo
        go_wp2_with fail
        refine (HF.out _).mono ?_
        rintro _ w2 ⟨rfl, hb⟩
        have g2 : Below w.heap.size w w2 := hbel.trans (hb.mono hbel.size)
        have HB := Lib.hid (g2.alloc g2.size (.cells #[.bool false, .slice none 0 0, .bool false, .slice none 0 0] 26))
        clear g2 hb hbel HF hcx
        go_wp2
        go_ret2
        exact ⟨.inl ⟨HM.out, rfl⟩, HB.out⟩
    · have hki : ¬ (k : Int) < (xs.length : Int) := by omega
      obtain rfl : k = xs.length := by omega
      clear hkg
      go_wp2
      go_ret2
      exact ⟨.inr ⟨_, rfl, hwo.out⟩, hbel⟩
end Go.Proofs.YtghcoijinihlnaaGreat
namespace Go.Proofs.YtghcoijinihlnaaGreat
open Go.RowKit Nb
open Fl Ieee
theorem mg_mg (x : Nat) : mg (mg x) = mg x ∧ ng (mg x) = false := by
  have h : mg x < 9223372036854775808 := Nat.mod_lt _ (by omega)
  refine ⟨Nat.mod_eq_of_lt h, ?_⟩
  unfold ng
  rw [Nat.div_eq_of_lt h]; rfl
set_option maxHeartbeats 400000 in
theorem isInfAny_any (x : Nat) (w : World) (hx : x < 18446744073709551616) : Calls Tryz.prog 46 #[.float .f64 x, .int .i64 0] w fun e w' => e = .returned (.bool (decide (mg x = 9218868437227405312))) ∧ w' = w := by
  have h := gt_max (mg x)
  rw [(mg_mg x).1, (mg_mg x).2] at h
  simp only [and_true] at h
  have HA : Hid (∀ w : World, Calls Tryz.prog 73 #[.float .f64 x] w fun e w' => e = .returned (.float .f64 (mg x)) ∧ w' = w) := Lib.hid (fun w => abs_any x w hx)
  obtain ⟨b, hb⟩ : ∃ b, decide (mg x = 9218868437227405312) = b := ⟨_, rfl⟩
  rw [hb] at h ⊢
  generalize mg x = m at *
  clear hb hx
  go_enter Tryz.func46, Tryz.ntmps46
  go_wp2_with fail
  refine (HA.out _).mono ?_
  rintro _ w1 ⟨rfl, rfl⟩
  go_wp2
  go_ret; exact ⟨rfl, rfl⟩
theorem nan_no {x : Nat} {w : World} (h : mg x ≤ 9218868437227405312) : Calls Tryz.prog 13 #[.float .f64 x] w fun e w' => e = .returned (.bool false) ∧ Below w.heap.size w w' :=
  (isNaN_any x w).mono fun _ _ ⟨h1, h2⟩ => ⟨by rw [h1, decide_eq_false (by omega)], h2 ▸ Below.refl _ _⟩
theorem inf0 {x : Nat} {w : World} {b : Bool} (hx : x < 18446744073709551616) (h : decide (mg x = 9218868437227405312) = b) : Calls Tryz.prog 46 #[.float .f64 x, .int .i64 0] w fun e w' => e = .returned (.bool b) ∧ Below w.heap.size w w' :=
  (isInfAny_any x w hx).mono fun _ _ ⟨h1, h2⟩ => ⟨by rw [h1, h], h2 ▸ Below.refl _ _⟩
theorem inf_up {x : Nat} {w : World} (h : mg x = 9218868437227405312 → ng x = true) : Calls Tryz.prog 46 #[.float .f64 x, .int .i64 1] w fun e w' => e = .returned (.bool false) ∧ Below w.heap.size w w' :=
  (isInfUp_any x w).mono fun _ _ ⟨h1, h2⟩ => ⟨by rw [h1, decide_eq_false (fun k => by rw [h k.1] at k; cases k.2)], h2 ▸ Below.refl _ _⟩
theorem inf_down {x : Nat} {w : World} (hx : x < 18446744073709551616) (h : mg x = 9218868437227405312 → ng x = false) : Calls Tryz.prog 46 #[.float .f64 x, .int .i64 (-1)] w fun e w' => e = .returned (.bool false) ∧ Below w.heap.size w w' :=
  (isInfDown_any x w hx).mono fun _ _ ⟨h1, h2⟩ => ⟨by rw [h1, decide_eq_false (fun k => by rw [h k.1] at k; cases k.2)], h2 ▸ Below.refl _ _⟩
theorem one_el {α : Type} : ∀ {l : List α}, l.length = 1 → ∃ a, l = [a]
  | [a], _ => ⟨a, rfl⟩
theorem two_el {α : Type} : ∀ {l : List α}, l.length = 2 → ∃ a b, l = [a, b]
  | [a, b], _ => ⟨a, b, rfl⟩
theorem worth1 {a p : Nat} {W : World} (K : Box W p [.float .f64 a]) (ha : a < 18446744073709551616 ∧ mg a < 9218868437227405312) :
    Calls Tryz.prog 12 #[.slice (some ⟨p, 0, none⟩) 1 1] W (fun e w' => ∃ (g cap : Nat) (f0 : Fv), e = .returned (.tuple #[.slice (some ⟨g, 0, none⟩) 1 cap, .bool true]) ∧ Ff w' (fl a) f0 ∧ Box w' g [.bool f0.n, .slice f0.A f0.xs.length f0.c, .bool f0.m, .slice f0.B f0.ds.length f0.d] ∧ Below W.heap.size W w') := by
  refine (worth_any [a] ⟨p, 0, none⟩ W K.lt (fun j x h => K.at_ j _ (by
    match j, h with
    | 0, h => cases h; rfl
    | j + 1, h => simp at h)) (fun x hx => by simp at hx; rcases hx with rfl; omega) (by simp)).mono ?_
  rintro _ w' ⟨⟨⟨x, hx, hxf⟩, rfl⟩ | ⟨v, rfl, fs, hfl, hfin, hff, hrow⟩, hb2⟩
  · exfalso
    simp at hx
    rcases hx with rfl; omega
  · obtain ⟨f0, rfl⟩ := one_el hfl
    obtain ⟨g, cap, rfl, _, _, hbx⟩ := hrow.box (by simp)
    exact ⟨g, cap, f0, rfl, hff 0 a f0 rfl rfl, hbx, hb2⟩
theorem worth2 {a b p : Nat} {W : World} (K : Box W p [.float .f64 a, .float .f64 b]) (ha : a < 18446744073709551616 ∧ mg a < 9218868437227405312) (hb : b < 18446744073709551616 ∧ mg b < 9218868437227405312) :
    Calls Tryz.prog 12 #[.slice (some ⟨p, 0, none⟩) 2 2] W (fun e w' => ∃ (g cap : Nat) (f0 f1 : Fv), e = .returned (.tuple #[.slice (some ⟨g, 0, none⟩) 2 cap, .bool true]) ∧ Ff w' (fl a) f0 ∧ Ff w' (fl b) f1 ∧ Box w' g [.bool f0.n, .slice f0.A f0.xs.length f0.c, .bool f0.m, .slice f0.B f0.ds.length f0.d, .bool f1.n, .slice f1.A f1.xs.length f1.c, .bool f1.m, .slice f1.B f1.ds.length f1.d] ∧ Below W.heap.size W w') := by
  refine (worth_any [a, b] ⟨p, 0, none⟩ W K.lt (fun j x h => K.at_ j _ (by
    match j, h with
    | 0, h => cases h; rfl
    | 1, h => cases h; rfl
    | j + 2, h => simp at h)) (fun x hx => by simp at hx; rcases hx with rfl | rfl <;> omega) (by simp)).mono ?_
  rintro _ w' ⟨⟨⟨x, hx, hxf⟩, rfl⟩ | ⟨v, rfl, fs, hfl, hfin, hff, hrow⟩, hb2⟩
  · exfalso
    simp at hx
    rcases hx with rfl | rfl <;> omega
  · obtain ⟨f0, f1, rfl⟩ := two_el hfl
    obtain ⟨g, cap, rfl, _, _, hbx⟩ := hrow.box (by simp)
    exact ⟨g, cap, f0, f1, rfl, hff 0 a f0 rfl rfl, hff 1 b f1 rfl rfl, hbx, hb2⟩
theorem worth2_no {a b p : Nat} {W : World} (K : Box W p [.float .f64 a, .float .f64 b]) (ha : a < 18446744073709551616) (hb : b < 18446744073709551616) (hn : 9218868437227405312 ≤ mg a ∨ 9218868437227405312 ≤ mg b) :
    Calls Tryz.prog 12 #[.slice (some ⟨p, 0, none⟩) 2 2] W (fun e w' => e = .returned (.tuple #[.slice none 0 0, .bool false]) ∧ Below W.heap.size W w') := by
  refine (worth_any [a, b] ⟨p, 0, none⟩ W K.lt (fun j x h => K.at_ j _ (by
    match j, h with
    | 0, h => cases h; rfl
    | 1, h => cases h; rfl
    | j + 2, h => simp at h)) (fun x hx => by simp at hx; rcases hx with rfl | rfl <;> omega) (by simp)).mono ?_
  rintro _ w' ⟨⟨_, rfl⟩ | ⟨v, rfl, fs, hfl, hfin, hff, hrow⟩, hb2⟩
  · exact ⟨rfl, hb2⟩
  · exfalso
    have h1 := hfin 0 a (by simp) rfl
    have h2 := hfin 1 b (by simp) rfl
    omega
set_option maxHeartbeats 8000000 in
set_option maxRecDepth 20000 in
theorem between_any {q : Rat} {x : Fv} {d u : Nat} {w : World} (Fx : Ff w q x) (hd : d < 18446744073709551616) (hu : u < 18446744073709551616) (B : Bt q d u) :
    Calls Tryz.prog 10 #[fv x, .float .f64 d, .float .f64 u] w (fun e w' => e = .returned (.bool true) ∧ Below w.heap.size w w') := by
  rcases Nat.lt_or_eq_of_le B.ld with hdf | hdf
  · rcases Nat.lt_or_eq_of_le B.lu with huf | huf
    · have HD := Lib.hid (And.intro hd hdf)
      have HU := Lib.hid (And.intro hu huf)
      have HB := Lib.hid B
      obtain ⟨bb, hbb⟩ : ∃ bb, decide (key d = key u) = bb := ⟨_, rfl⟩
      have hbk : key d = key u ↔ bb = true := by rw [← hbb]; exact decide_eq_true_iff.symm
      obtain ⟨c1, hc1⟩ : ∃ c1 : Int, cmpQ (fl d) q = c1 := ⟨_, rfl⟩
      have hle : c1 ≤ 0 := by rw [← hc1]; exact (cmpQ_le _ _).2 (B.low hdf)
      have h0 : (c1 == 0) = bb := by
        have e : c1 = 0 ↔ key d = key u := by rw [← hc1, cmpQ_zero]; exact ⟨fun e => B.one.1 ⟨hdf, e⟩, fun e => (B.one.2 e).2⟩
        rw [Bool.eq_iff_iff, beq_iff_eq, e]; exact hbk
      have HC1 := Lib.hid hc1
      obtain ⟨c2, hc2⟩ : ∃ c2 : Int, cmpQ (fl u) q = c2 := ⟨_, rfl⟩
      have hge : 0 ≤ c2 := by rw [← hc2, cmpQ_swap]; have := (cmpQ_le q (fl u)).2 (B.high huf); omega
      have h1 : (c2 == 0) = bb := by
        have e : c2 = 0 ↔ key d = key u := by rw [← hc2, cmpQ_zero]; exact ⟨fun e => B.one.1 (B.both.2 ⟨huf, e⟩), fun e => (B.both.1 (B.one.2 e)).2⟩
        rw [Bool.eq_iff_iff, beq_iff_eq, e]; exact hbk
      have HC2 := Lib.hid hc2
      have heq : (FloatKind.f64.format.order d u == some .eq) = bb := by
        rw [ord_eq]
        rw [Bool.eq_iff_iff, decide_eq_true_iff, ← hbk]; exact ⟨fun h => h.2.2, fun h => ⟨B.ld, B.lu, h⟩⟩
      clear hd hu hdf huf B hbk hc1 hc2 hbb
      have BW : Below w.heap.size w w := Below.refl _ _
      obtain ⟨V1, e2, hb3, K4, -, -⟩ := alloc_new w [.bool x.n, .slice x.A x.xs.length x.c, .bool x.m, .slice x.B x.ds.length x.d] 26
      replace Fx := Fx.kp (Kept.of hb3)
      replace BW := BW.trans (hb3.mono BW.size)
      clear hb3
      go_enter Tryz.func10, Tryz.ntmps10
      go_wp2_with fail
      rw [← e2]
      clear e2
      refine (nan_no HB.out.ld).mono ?_
      rintro _ w5 ⟨rfl, hb⟩
      replace K4 := K4.on hb
      replace Fx := Fx.kp (Kept.of hb)
      replace BW := BW.trans (hb.mono BW.size)
      clear hb
      go_wp2_with fail
      refine (nan_no HB.out.lu).mono ?_
      rintro _ w6 ⟨rfl, hb⟩
      replace K4 := K4.on hb
      replace Fx := Fx.kp (Kept.of hb)
      replace BW := BW.trans (hb.mono BW.size)
      clear hb
      go_wp2_with fail
      refine (inf0 HD.out.1 (decide_eq_false (by have := HD.out.2; omega))).mono ?_
      rintro _ w7 ⟨rfl, hb⟩
      replace K4 := K4.on hb
      replace Fx := Fx.kp (Kept.of hb)
      replace BW := BW.trans (hb.mono BW.size)
      clear hb
      obtain ⟨V8, e9, hb10, K11, -, -⟩ := alloc_new w7 [.float .f64 d] 27
      replace K4 := K4.on hb10
      replace Fx := Fx.kp (Kept.of hb10)
      replace BW := BW.trans (hb10.mono BW.size)
      clear hb10
      go_wp2_with fail
      rw [← e9]
      clear e9
      generalize w7.heap.size = b12 at *
      refine (worth1 K11 HD.out).mono ?_
      rintro _ w13 ⟨g1, cap1, y1, rfl, L1, KA, hb⟩
      replace K4 := K4.on hb
      replace Fx := Fx.kp (Kept.of hb)
      replace BW := BW.trans (hb.mono BW.size)
      clear hb
      go_wp2_with fail
      refine wp_region_noPanic ?_
      have hb : Below w13.heap.size w13 w13.drew := (Below.refl _ _).drew
      replace K4 := K4.on hb
      replace KA := KA.on hb
      replace Fx := Fx.kp (Kept.of hb)
      replace L1 := L1.kp (Kept.of hb)
      replace BW := BW.trans (hb.mono BW.size)
      clear hb
      refine wp_region_held_drew (S := (fun wx => Cs wx (w.heap.size) 0 [.bool x.n, .slice x.A x.xs.length x.c, .bool x.m, .slice x.B x.ds.length x.d] ∧ Cs wx (g1) 0 [.bool y1.n, .slice y1.A y1.xs.length y1.c, .bool y1.m, .slice y1.B y1.ds.length y1.d])) (by kernel_rfl) (by exact ⟨K4.cs, KA.cs⟩) (fun hHeld => ?_)
      generalize w13.drew = Vd14 at *
      refine pT 0 ?_
      (try simp only [p0, p1, p2, p3])
      refine pT 1 ?_
      (try simp only [p0, p1, p2, p3])
      refine pT 2 ?_
      (try simp only [p0, p1, p2, p3])
      refine pT 3 ?_
      (try simp only [p0, p1, p2, p3])
      refine pR1 4 (fun K hK => ?_)
      go_simp
      (go_at_call 45; with_reducible refine (r_cmp L1 Fx).mono ?_)
      rintro _ w15 ⟨rfl, hb⟩
      (try go_wp2_with fail)
      replace K4 := K4.on hb
      replace KA := KA.on hb
      replace Fx := Fx.kp (Kept.of hb)
      replace BW := BW.trans (hb.mono BW.size)
      clear hb
      rw [HC1.out]
      refine hK.out _ _ (by exact ⟨K4.cs, KA.cs⟩) (fun hHeld => ?_)
      clear hK
      (try simp only [p0, p1, p2, p3])
      refine pT 5 ?_
      (try simp only [p0, p1, p2, p3])
      refine wpAnyH_done (by kernel_rfl) (NoPanic.normal ?_) _
      go_wp2_with fail
      refine (inf0 HU.out.1 (decide_eq_false (by have := HU.out.2; omega))).mono ?_
      rintro _ w16 ⟨rfl, hb⟩
      replace K4 := K4.on hb
      replace Fx := Fx.kp (Kept.of hb)
      replace BW := BW.trans (hb.mono BW.size)
      clear hb
      obtain ⟨V17, e18, hb19, K20, -, -⟩ := alloc_new w16 [.float .f64 u] 27
      replace K4 := K4.on hb19
      replace Fx := Fx.kp (Kept.of hb19)
      replace BW := BW.trans (hb19.mono BW.size)
      clear hb19
      go_wp2_with fail
      rw [← e18]
      clear e18
      generalize w16.heap.size = b21 at *
      refine (worth1 K20 HU.out).mono ?_
      rintro _ w22 ⟨g2, cap2, y2, rfl, L2, KC, hb⟩
      replace K4 := K4.on hb
      replace Fx := Fx.kp (Kept.of hb)
      replace BW := BW.trans (hb.mono BW.size)
      clear hb
      go_wp2_with fail
      refine wp_region_noPanic ?_
      have hb : Below w22.heap.size w22 w22.drew := (Below.refl _ _).drew
      replace K4 := K4.on hb
      replace KC := KC.on hb
      replace Fx := Fx.kp (Kept.of hb)
      replace L2 := L2.kp (Kept.of hb)
      replace BW := BW.trans (hb.mono BW.size)
      clear hb
      refine wp_region_held_drew (S := (fun wx => Cs wx (w.heap.size) 0 [.bool x.n, .slice x.A x.xs.length x.c, .bool x.m, .slice x.B x.ds.length x.d] ∧ Cs wx (g2) 0 [.bool y2.n, .slice y2.A y2.xs.length y2.c, .bool y2.m, .slice y2.B y2.ds.length y2.d])) (by kernel_rfl) (by exact ⟨K4.cs, KC.cs⟩) (fun hHeld => ?_)
      generalize w22.drew = Vd23 at *
      refine pT 0 ?_
      (try simp only [p0, p1, p2, p3])
      refine pT 1 ?_
      (try simp only [p0, p1, p2, p3])
      refine pT 2 ?_
      (try simp only [p0, p1, p2, p3])
      refine pT 3 ?_
      (try simp only [p0, p1, p2, p3])
      refine pR1 4 (fun K hK => ?_)
      go_simp
      (go_at_call 45; with_reducible refine (r_cmp L2 Fx).mono ?_)
      rintro _ w24 ⟨rfl, hb⟩
      (try go_wp2_with fail)
      replace K4 := K4.on hb
      replace KC := KC.on hb
      replace BW := BW.trans (hb.mono BW.size)
      clear hb
      rw [HC2.out]
      refine hK.out _ _ (by exact ⟨K4.cs, KC.cs⟩) (fun hHeld => ?_)
      clear hK
      (try simp only [p0, p1, p2, p3])
      refine pT 5 ?_
      (try simp only [p0, p1, p2, p3])
      refine wpAnyH_done (by kernel_rfl) (NoPanic.normal ?_) _
      go_wp2_with fail
      refine (inf_up HB.out.id).mono ?_
      rintro _ w25 ⟨rfl, hb⟩
      replace BW := BW.trans (hb.mono BW.size)
      clear hb
      go_wp2_with fail
      refine (inf_down HU.out.1 HB.out.iu).mono ?_
      rintro _ w26 ⟨rfl, hb⟩
      replace BW := BW.trans (hb.mono BW.size)
      clear hb
      go_wp2_with fail
      exact bodyPost_ret (v := .bool true) (by simp [results, Tryz.results10, go_sem]) rfl ⟨rfl, BW⟩
    · have HD := Lib.hid (And.intro hd hdf)
      have HU := Lib.hid (And.intro hu huf)
      have HB := Lib.hid B
      have hbk : ¬ key d = key u := fun e => by
        have := (B.both.1 (B.one.2 e)).1; omega
      obtain ⟨c1, hc1⟩ : ∃ c1 : Int, cmpQ (fl d) q = c1 := ⟨_, rfl⟩
      have hle : c1 ≤ 0 := by rw [← hc1]; exact (cmpQ_le _ _).2 (B.low hdf)
      have h0 : (c1 == 0) = false := by
        have e : c1 = 0 ↔ key d = key u := by rw [← hc1, cmpQ_zero]; exact ⟨fun e => B.one.1 ⟨hdf, e⟩, fun e => (B.one.2 e).2⟩
        exact beq_false_of_ne (fun k => hbk (e.1 k))
      have HC1 := Lib.hid hc1
      have heq : (FloatKind.f64.format.order d u == some .eq) = false := by
        rw [ord_eq]
        exact decide_eq_false (fun h => hbk h.2.2)
      clear hd hu hdf huf B hbk hc1
      have BW : Below w.heap.size w w := Below.refl _ _
      obtain ⟨V1, e2, hb3, K4, -, -⟩ := alloc_new w [.bool x.n, .slice x.A x.xs.length x.c, .bool x.m, .slice x.B x.ds.length x.d] 26
      replace Fx := Fx.kp (Kept.of hb3)
      replace BW := BW.trans (hb3.mono BW.size)
      clear hb3
      go_enter Tryz.func10, Tryz.ntmps10
      go_wp2_with fail
      rw [← e2]
      clear e2
      refine (nan_no HB.out.ld).mono ?_
      rintro _ w5 ⟨rfl, hb⟩
      replace K4 := K4.on hb
      replace Fx := Fx.kp (Kept.of hb)
      replace BW := BW.trans (hb.mono BW.size)
      clear hb
      go_wp2_with fail
      refine (nan_no HB.out.lu).mono ?_
      rintro _ w6 ⟨rfl, hb⟩
      replace K4 := K4.on hb
      replace Fx := Fx.kp (Kept.of hb)
      replace BW := BW.trans (hb.mono BW.size)
      clear hb
      go_wp2_with fail
      refine (inf0 HD.out.1 (decide_eq_false (by have := HD.out.2; omega))).mono ?_
      rintro _ w7 ⟨rfl, hb⟩
      replace K4 := K4.on hb
      replace Fx := Fx.kp (Kept.of hb)
      replace BW := BW.trans (hb.mono BW.size)
      clear hb
      obtain ⟨V8, e9, hb10, K11, -, -⟩ := alloc_new w7 [.float .f64 d] 27
      replace K4 := K4.on hb10
      replace Fx := Fx.kp (Kept.of hb10)
      replace BW := BW.trans (hb10.mono BW.size)
      clear hb10
      go_wp2_with fail
      rw [← e9]
      clear e9
      generalize w7.heap.size = b12 at *
      refine (worth1 K11 HD.out).mono ?_
      rintro _ w13 ⟨g1, cap1, y1, rfl, L1, KA, hb⟩
      replace K4 := K4.on hb
      replace Fx := Fx.kp (Kept.of hb)
      replace BW := BW.trans (hb.mono BW.size)
      clear hb
      go_wp2_with fail
      refine wp_region_noPanic ?_
      have hb : Below w13.heap.size w13 w13.drew := (Below.refl _ _).drew
      replace K4 := K4.on hb
      replace KA := KA.on hb
      replace Fx := Fx.kp (Kept.of hb)
      replace L1 := L1.kp (Kept.of hb)
      replace BW := BW.trans (hb.mono BW.size)
      clear hb
      refine wp_region_held_drew (S := (fun wx => Cs wx (w.heap.size) 0 [.bool x.n, .slice x.A x.xs.length x.c, .bool x.m, .slice x.B x.ds.length x.d] ∧ Cs wx (g1) 0 [.bool y1.n, .slice y1.A y1.xs.length y1.c, .bool y1.m, .slice y1.B y1.ds.length y1.d])) (by kernel_rfl) (by exact ⟨K4.cs, KA.cs⟩) (fun hHeld => ?_)
      generalize w13.drew = Vd14 at *
      refine pT 0 ?_
      (try simp only [p0, p1, p2, p3])
      refine pT 1 ?_
      (try simp only [p0, p1, p2, p3])
      refine pT 2 ?_
      (try simp only [p0, p1, p2, p3])
      refine pT 3 ?_
      (try simp only [p0, p1, p2, p3])
      refine pR1 4 (fun K hK => ?_)
      go_simp
      (go_at_call 45; with_reducible refine (r_cmp L1 Fx).mono ?_)
      rintro _ w15 ⟨rfl, hb⟩
      (try go_wp2_with fail)
      replace K4 := K4.on hb
      replace KA := KA.on hb
      replace BW := BW.trans (hb.mono BW.size)
      clear hb
      rw [HC1.out]
      refine hK.out _ _ (by exact ⟨K4.cs, KA.cs⟩) (fun hHeld => ?_)
      clear hK
      (try simp only [p0, p1, p2, p3])
      refine pT 5 ?_
      (try simp only [p0, p1, p2, p3])
      refine wpAnyH_done (by kernel_rfl) (NoPanic.normal ?_) _
      go_wp2_with fail
      refine (inf0 HU.out.1 (decide_eq_true (by have := HU.out.2; omega))).mono ?_
      rintro _ w16 ⟨rfl, hb⟩
      replace BW := BW.trans (hb.mono BW.size)
      clear hb
      go_wp2_with fail
      refine (inf_up HB.out.id).mono ?_
      rintro _ w17 ⟨rfl, hb⟩
      replace BW := BW.trans (hb.mono BW.size)
      clear hb
      go_wp2_with fail
      refine (inf_down HU.out.1 HB.out.iu).mono ?_
      rintro _ w18 ⟨rfl, hb⟩
      replace BW := BW.trans (hb.mono BW.size)
      clear hb
      go_wp2_with fail
      exact bodyPost_ret (v := .bool true) (by simp [results, Tryz.results10, go_sem]) rfl ⟨rfl, BW⟩
  · rcases Nat.lt_or_eq_of_le B.lu with huf | huf
    · have HD := Lib.hid (And.intro hd hdf)
      have HU := Lib.hid (And.intro hu huf)
      have HB := Lib.hid B
      have hbk : ¬ key d = key u := fun e => by
        have := (B.one.2 e).1; omega
      obtain ⟨c2, hc2⟩ : ∃ c2 : Int, cmpQ (fl u) q = c2 := ⟨_, rfl⟩
      have hge : 0 ≤ c2 := by rw [← hc2, cmpQ_swap]; have := (cmpQ_le q (fl u)).2 (B.high huf); omega
      have h1 : (c2 == 0) = false := by
        have e : c2 = 0 ↔ key d = key u := by rw [← hc2, cmpQ_zero]; exact ⟨fun e => B.one.1 (B.both.2 ⟨huf, e⟩), fun e => (B.both.1 (B.one.2 e)).2⟩
        exact beq_false_of_ne (fun k => hbk (e.1 k))
      have HC2 := Lib.hid hc2
      have heq : (FloatKind.f64.format.order d u == some .eq) = false := by
        rw [ord_eq]
        exact decide_eq_false (fun h => hbk h.2.2)
      clear hd hu hdf huf B hbk hc2
      have BW : Below w.heap.size w w := Below.refl _ _
      obtain ⟨V1, e2, hb3, K4, -, -⟩ := alloc_new w [.bool x.n, .slice x.A x.xs.length x.c, .bool x.m, .slice x.B x.ds.length x.d] 26
      replace Fx := Fx.kp (Kept.of hb3)
      replace BW := BW.trans (hb3.mono BW.size)
      clear hb3
      go_enter Tryz.func10, Tryz.ntmps10
      go_wp2_with fail
      rw [← e2]
      clear e2
      refine (nan_no HB.out.ld).mono ?_
      rintro _ w5 ⟨rfl, hb⟩
      replace K4 := K4.on hb
      replace Fx := Fx.kp (Kept.of hb)
      replace BW := BW.trans (hb.mono BW.size)
      clear hb
      go_wp2_with fail
      refine (nan_no HB.out.lu).mono ?_
      rintro _ w6 ⟨rfl, hb⟩
      replace K4 := K4.on hb
      replace Fx := Fx.kp (Kept.of hb)
      replace BW := BW.trans (hb.mono BW.size)
      clear hb
      go_wp2_with fail
      refine (inf0 HD.out.1 (decide_eq_true (by have := HD.out.2; omega))).mono ?_
      rintro _ w7 ⟨rfl, hb⟩
      replace K4 := K4.on hb
      replace Fx := Fx.kp (Kept.of hb)
      replace BW := BW.trans (hb.mono BW.size)
      clear hb
      go_wp2_with fail
      refine (inf0 HU.out.1 (decide_eq_false (by have := HU.out.2; omega))).mono ?_
      rintro _ w8 ⟨rfl, hb⟩
      replace K4 := K4.on hb
      replace Fx := Fx.kp (Kept.of hb)
      replace BW := BW.trans (hb.mono BW.size)
      clear hb
      obtain ⟨V9, e10, hb11, K12, -, -⟩ := alloc_new w8 [.float .f64 u] 27
      replace K4 := K4.on hb11
      replace Fx := Fx.kp (Kept.of hb11)
      replace BW := BW.trans (hb11.mono BW.size)
      clear hb11
      go_wp2_with fail
      rw [← e10]
      clear e10
      generalize w8.heap.size = b13 at *
      refine (worth1 K12 HU.out).mono ?_
      rintro _ w14 ⟨g2, cap2, y2, rfl, L2, KC, hb⟩
      replace K4 := K4.on hb
      replace Fx := Fx.kp (Kept.of hb)
      replace BW := BW.trans (hb.mono BW.size)
      clear hb
      go_wp2_with fail
      refine wp_region_noPanic ?_
      have hb : Below w14.heap.size w14 w14.drew := (Below.refl _ _).drew
      replace K4 := K4.on hb
      replace KC := KC.on hb
      replace Fx := Fx.kp (Kept.of hb)
      replace L2 := L2.kp (Kept.of hb)
      replace BW := BW.trans (hb.mono BW.size)
      clear hb
      refine wp_region_held_drew (S := (fun wx => Cs wx (w.heap.size) 0 [.bool x.n, .slice x.A x.xs.length x.c, .bool x.m, .slice x.B x.ds.length x.d] ∧ Cs wx (g2) 0 [.bool y2.n, .slice y2.A y2.xs.length y2.c, .bool y2.m, .slice y2.B y2.ds.length y2.d])) (by kernel_rfl) (by exact ⟨K4.cs, KC.cs⟩) (fun hHeld => ?_)
      generalize w14.drew = Vd15 at *
      refine pT 0 ?_
      (try simp only [p0, p1, p2, p3])
      refine pT 1 ?_
      (try simp only [p0, p1, p2, p3])
      refine pT 2 ?_
      (try simp only [p0, p1, p2, p3])
      refine pT 3 ?_
      (try simp only [p0, p1, p2, p3])
      refine pR1 4 (fun K hK => ?_)
      go_simp
      (go_at_call 45; with_reducible refine (r_cmp L2 Fx).mono ?_)
      rintro _ w16 ⟨rfl, hb⟩
      (try go_wp2_with fail)
      replace K4 := K4.on hb
      replace KC := KC.on hb
      replace BW := BW.trans (hb.mono BW.size)
      clear hb
      rw [HC2.out]
      refine hK.out _ _ (by exact ⟨K4.cs, KC.cs⟩) (fun hHeld => ?_)
      clear hK
      (try simp only [p0, p1, p2, p3])
      refine pT 5 ?_
      (try simp only [p0, p1, p2, p3])
      refine wpAnyH_done (by kernel_rfl) (NoPanic.normal ?_) _
      go_wp2_with fail
      refine (inf_up HB.out.id).mono ?_
      rintro _ w17 ⟨rfl, hb⟩
      replace BW := BW.trans (hb.mono BW.size)
      clear hb
      go_wp2_with fail
      refine (inf_down HU.out.1 HB.out.iu).mono ?_
      rintro _ w18 ⟨rfl, hb⟩
      replace BW := BW.trans (hb.mono BW.size)
      clear hb
      go_wp2_with fail
      exact bodyPost_ret (v := .bool true) (by simp [results, Tryz.results10, go_sem]) rfl ⟨rfl, BW⟩
    · have HD := Lib.hid (And.intro hd hdf)
      have HU := Lib.hid (And.intro hu huf)
      have HB := Lib.hid B
      have hbk : ¬ key d = key u := fun e => by
        have := (B.one.2 e).1; omega
      have heq : (FloatKind.f64.format.order d u == some .eq) = false := by
        rw [ord_eq]
        exact decide_eq_false (fun h => hbk h.2.2)
      clear hd hu hdf huf B hbk
      have BW : Below w.heap.size w w := Below.refl _ _
      obtain ⟨V1, e2, hb3, K4, -, -⟩ := alloc_new w [.bool x.n, .slice x.A x.xs.length x.c, .bool x.m, .slice x.B x.ds.length x.d] 26
      replace BW := BW.trans (hb3.mono BW.size)
      clear hb3
      go_enter Tryz.func10, Tryz.ntmps10
      go_wp2_with fail
      rw [← e2]
      clear e2
      refine (nan_no HB.out.ld).mono ?_
      rintro _ w5 ⟨rfl, hb⟩
      replace BW := BW.trans (hb.mono BW.size)
      clear hb
      go_wp2_with fail
      refine (nan_no HB.out.lu).mono ?_
      rintro _ w6 ⟨rfl, hb⟩
      replace BW := BW.trans (hb.mono BW.size)
      clear hb
      go_wp2_with fail
      refine (inf0 HD.out.1 (decide_eq_true (by have := HD.out.2; omega))).mono ?_
      rintro _ w7 ⟨rfl, hb⟩
      replace BW := BW.trans (hb.mono BW.size)
      clear hb
      go_wp2_with fail
      refine (inf0 HU.out.1 (decide_eq_true (by have := HU.out.2; omega))).mono ?_
      rintro _ w8 ⟨rfl, hb⟩
      replace BW := BW.trans (hb.mono BW.size)
      clear hb
      go_wp2_with fail
      refine (inf_up HB.out.id).mono ?_
      rintro _ w9 ⟨rfl, hb⟩
      replace BW := BW.trans (hb.mono BW.size)
      clear hb
      go_wp2_with fail
      refine (inf_down HU.out.1 HB.out.iu).mono ?_
      rintro _ w10 ⟨rfl, hb⟩
      replace BW := BW.trans (hb.mono BW.size)
      clear hb
      go_wp2_with fail
      exact bodyPost_ret (v := .bool true) (by simp [results, Tryz.results10, go_sem]) rfl ⟨rfl, BW⟩
end Go.Proofs.YtghcoijinihlnaaGreat
