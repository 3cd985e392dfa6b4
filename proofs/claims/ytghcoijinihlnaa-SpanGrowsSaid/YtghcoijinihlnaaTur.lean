/-
  What round answers turns round with the signs, and does not hang on the order of sums and products: the facts behind RoundTurned. No conditions but those that each law names.
-/
import Derived.Test.YtghcoijinihlnaaCmm
import Derived.Test.YtghcoijinihlnaaFl5
namespace Go.Proofs.Ytghcoijinihlnaa.Fl
open Go.RowKit Ieee
/-- What the statement's 'turned' asks. -/
def TurnOk (d u e v : Nat) : Prop := (9218868437227405312 < mg d ∧ 9218868437227405312 < mg u ∧ 9218868437227405312 < mg e ∧ 9218868437227405312 < mg v) ∨
  (mg d ≤ 9218868437227405312 ∧ mg u ≤ 9218868437227405312 ∧ mg e ≤ 9218868437227405312 ∧ mg v ≤ 9218868437227405312 ∧ key d = - key v ∧ key u = - key e)
/-- What the statement's 'same' asks of two floats. -/
def SamOk (a c : Nat) : Prop := a = c ∨ (9218868437227405312 < mg a ∧ 9218868437227405312 < mg c)
theorem opp_key {x y : Nat} (h : Opp x y) : key x = - key y := by
  obtain ⟨h1, h2, _⟩ := h
  unfold key
  rw [h1]
  rcases h2 with h | h
  · rw [h]; cases ng x <;> simp
  · rw [h]; simp
theorem opp_sym {x y : Nat} (h : Opp x y) : Opp y x := by
  obtain ⟨h1, h2, h3⟩ := h
  refine ⟨h1.symm, ?_, by omega⟩
  rcases h2 with h | h
  · left; rw [h]; simp
  · right; omega
theorem opp_zero : Opp 0 0 := ⟨rfl, .inr (by decide), by decide⟩
theorem opp_both {x y : Nat} (hx : x < 18446744073709551616) (hy : y < 18446744073709551616) (h : Opp x y) : Opp (ngf x) (ngf y) := by
  obtain ⟨h1, h2, h3⟩ := h
  refine ⟨by rw [(ngf_is hx).1, (ngf_is hy).1, h1], ?_, by rw [(ngf_is hx).1]; exact h3⟩
  rw [(ngf_is hx).2, (ngf_is hy).2, (ngf_is hx).1]
  rcases h2 with h | h
  · left; rw [h]
  · right; exact h
theorem pl_ngf {x : Nat} (h : x < 18446744073709551616) : Pl (ngf x) ↔ Pl x := by unfold Pl; rw [(ngf_is h).1]
theorem eq_of {x y : Nat} (hx : x < 18446744073709551616) (hy : y < 18446744073709551616) (h1 : mg x = mg y) (h2 : ng x = ng y) : x = y := by
  rw [← word_of x hx, ← word_of y hy, h1, h2]
theorem turn_two {r r' : Nat} (h : Opp r r') : TurnOk r r r' r' := by
  have := h.1
  have := h.2.2
  exact .inr ⟨by omega, by omega, by omega, by omega, opp_key h, opp_key h⟩
theorem near_le {r l : Nat} (hm : mg r ≤ 9218868437227405312) : near r l + 1 ≤ 9218868437227405312 := by
  unfold near
  split
  · omega
  · split <;> omega
/-- Own answers of opposite signs, and what they have lost: all turns round. -/
theorem lohi_turn {r r' l l' : Nat} (hr : mg r' = mg r) (hs : ng r' = !ng r) (hm : mg r ≤ 9218868437227405312) (hl : mg r < 9218868437227405312 → mg r ≠ 0 → Opp l l') : TurnOk (lo r l) (hi r l) (lo r' l') (hi r' l') := by
  have hor : Opp r r' := ⟨hr, .inl hs, hm⟩
  have hex : exactly r l = exactly r' l' := by
    unfold exactly
    rw [hr]
    by_cases h : 0 < mg r ∧ mg r < 9218868437227405312
    · rw [decide_eq_true h, Bool.true_and, Bool.true_and]
      have a := eq_zero l
      have b := eq_zero l'
      rw [(hl h.2 (by omega)).1] at b
      exact a.trans b.symm
    · rw [decide_eq_false h]; rfl
  cases hb : exactly r l
  · have hnear : near r l = near r' l' := by
      unfold near
      rw [hr]
      by_cases h0 : mg r = 0
      · rw [if_pos h0, if_pos h0]
      · rw [if_neg h0, if_neg h0]
        by_cases h1 : mg r < 9218868437227405312
        · have ho := hl h1 h0
          have hl0 : mg l ≠ 0 := fun h => by
            have a := eq_zero l
            rw [decide_eq_true h] at a
            unfold exactly at hb
            rw [decide_eq_true ⟨by omega, h1⟩, Bool.true_and] at hb
            rw [show (double.order l 0 == some .eq) = true from a] at hb
            cases hb
          have hln : ng l' = !ng l := by
            rcases ho.2.1 with h | h
            · exact h
            · exact absurd h hl0
          have g1 := gt_zero l (by omega) ho.2.2
          have g2 := gt_zero l' (by have := ho.1; omega) (by have := ho.1; have := ho.2.2; omega)
          have g3 := gt_zero r (by omega) hm
          have g4 := gt_zero r' (by omega) (by omega)
          have k1 : (double.order l 0 == some .gt) = !ng l := g1
          have k2 : (double.order l' 0 == some .gt) = !ng l' := g2
          have k3 : (double.order r 0 == some .gt) = !ng r := g3
          have k4 : (double.order r' 0 == some .gt) = !ng r' := g4
          rw [k1, k2, k3, k4, hln, hs]
          cases ng l <;> cases ng r <;> simp
        · rw [if_neg (fun h => h1 h.1), if_neg (fun h => h1 h.1)]
    have hn := near_le (l := l) hm
    unfold lo hi
    rw [← hex, hb, hs, ← hnear]
    obtain ⟨n, hnn⟩ : ∃ n, near r l = n := ⟨_, rfl⟩
    rw [hnn] at hn ⊢
    have t1 : (ng r).toNat ≤ 1 := Bool.toNat_le _
    have t2 : (!ng r).toNat ≤ 1 := Bool.toNat_le _
    simp only [Bool.false_eq_true, if_false, Bool.not_not]
    have a := word_mg (ng r) (n + (ng r).toNat) (by omega)
    have b := word_mg (ng r) (n + (!ng r).toNat) (by omega)
    have c := word_mg (!ng r) (n + (!ng r).toNat) (by omega)
    have d := word_mg (!ng r) (n + (ng r).toNat) (by omega)
    refine .inr ⟨by omega, by omega, by omega, by omega, ?_, ?_⟩
    · unfold key; rw [a.1, a.2, d.1, d.2]; cases ng r <;> simp
    · unfold key; rw [b.1, b.2, c.1, c.2]; cases ng r <;> simp
  · unfold lo hi
    rw [← hex, hb]
    exact turn_two hor
theorem two_opp {a b r r' l l' : Nat} (ha : a < 18446744073709551616) (hb : b < 18446744073709551616) (ma : mg a ≤ 9218868437227405312) (mb : mg b ≤ 9218868437227405312) (hr : Opp r r') (hf : mg r < 9218868437227405312) (h : TwoIs a b r l) (k : TwoIs (ngf a) (ngf b) r' l') : Opp l l' := by
  rcases h with ⟨h, _⟩ | ⟨_, z, y, h1, h2⟩
  · omega
  · rcases k with ⟨k, _⟩ | ⟨_, z', y', k1, k2⟩
    · have := hr.1; omega
    · rw [(ngf_is ha).1, (ngf_is hb).1] at k1
      have oa := opp_ngf ha ma
      have ob := opp_ngf hb mb
      cases ho : (FloatKind.f64.format.order (mg a) (mg b) == some .lt)
      · rw [ho] at h1 k1
        obtain ⟨e1, e2⟩ := h1
        obtain ⟨f1, f2⟩ := k1
        obtain ⟨q, g, oz⟩ := sub_opp hr oa e1
        rw [f1] at g; cases g
        obtain ⟨q, g, oy⟩ := sub_opp ob oz e2
        rw [f2] at g; cases g
        obtain ⟨q, g, ol⟩ := add_opp oy opp_zero h2
        rw [k2] at g; cases g
        exact ol
      · rw [ho] at h1 k1
        obtain ⟨e1, e2⟩ := h1
        obtain ⟨f1, f2⟩ := k1
        obtain ⟨q, g, oz⟩ := sub_opp hr ob e1
        rw [f1] at g; cases g
        obtain ⟨q, g, oy⟩ := sub_opp oa oz e2
        rw [f2] at g; cases g
        obtain ⟨q, g, ol⟩ := add_opp oy opp_zero h2
        rw [k2] at g; cases g
        exact ol
theorem add_none {x y : Nat} (h : 9218868437227405312 < mg x ∨ 9218868437227405312 < mg y) : double.add x y = none := by
  unfold Format.add
  rcases h with h | h
  · rw [read_nan x h]; rfl
  · rw [read_nan y h]; cases double.read x <;> rfl
theorem add_both {a b : Nat} (ha : a < 18446744073709551616) (hb : b < 18446744073709551616) : (double.add a b = none ∧ double.add (ngf a) (ngf b) = none) ∨ ∃ r r', double.add a b = some r ∧ double.add (ngf a) (ngf b) = some r' ∧ Opp r r' ∧ mg a ≤ 9218868437227405312 ∧ mg b ≤ 9218868437227405312 := by
  by_cases h : mg a ≤ 9218868437227405312 ∧ mg b ≤ 9218868437227405312
  · have oa := opp_ngf ha h.1
    have ob := opp_ngf hb h.2
    cases e : double.add a b with
    | some r =>
      right
      obtain ⟨r', e', o⟩ := add_opp oa ob e
      exact ⟨r, r', rfl, e', o, h⟩
    | none =>
      left
      refine ⟨rfl, ?_⟩
      cases e' : double.add (ngf a) (ngf b) with
      | none => rfl
      | some r' =>
        obtain ⟨r, e2, _⟩ := add_opp (opp_sym oa) (opp_sym ob) e'
        rw [e] at e2; cases e2
  · left
    have hn : 9218868437227405312 < mg a ∨ 9218868437227405312 < mg b := by omega
    exact ⟨add_none hn, add_none (by rw [(ngf_is ha).1, (ngf_is hb).1]; exact hn)⟩
theorem nan_all {op : BinOp} {a b : Nat} (h : floatBits op .f64 a b = none) (w : World) : 9218868437227405312 < mg (fop op a b w) := by rw [(fop_none h w).1]; exact (nanw_is w a b).1
/-- Add with both signs turned. -/
theorem add_turn {a b d u e v : Nat} {w w' : World} (ha : a < 18446744073709551616) (hb : b < 18446744073709551616) (h : AddIs a b (fop .add a b w) d u) (k : AddIs (ngf a) (ngf b) (fop .add (ngf a) (ngf b) w') e v) : TurnOk d u e v := by
  rcases add_both ha hb with ⟨n1, n2⟩ | ⟨r, r', e1, e2, ho, ma, mb⟩
  · have m1 := nan_all (op := .add) n1 w
    have m2 := nan_all (op := .add) n2 w'
    rcases h with ⟨_, rfl, rfl⟩ | ⟨p, q, _⟩
    · rcases k with ⟨_, rfl, rfl⟩ | ⟨p, q, _⟩
      · exact .inl ⟨m1, m1, m2, m2⟩
      · obtain ⟨r, hr⟩ := add_fin p.2 q.2; rw [hr] at n2; cases n2
    · obtain ⟨r, hr⟩ := add_fin p.2 q.2; rw [hr] at n1; cases n1
  · rw [(add_fop e1 w).1] at h
    rw [(add_fop e2 w').1] at k
    rcases h with ⟨c, rfl, rfl⟩ | ⟨p, q, m, l, hl, rfl, rfl⟩
    · rcases k with ⟨_, rfl, rfl⟩ | ⟨p, q, m, _⟩
      · exact turn_two ho
      · rw [pl_ngf ha] at p
        rw [pl_ngf hb] at q
        rcases c with c | c
        · exact absurd ⟨p, q⟩ c
        · exact absurd (ho.1.trans c) m
    · rcases k with ⟨c, rfl, rfl⟩ | ⟨p', q', m', l', hl', rfl, rfl⟩
      · rcases c with c | c
        · exact absurd ⟨(pl_ngf ha).2 p, (pl_ngf hb).2 q⟩ c
        · exact absurd (ho.1.symm.trans c) m
      · have hs : ng r' = !ng r := by
          rcases ho.2.1 with h | h
          · exact h
          · exact absurd h m
        exact lohi_turn ho.1 hs ho.2.2 (fun hf _ => two_opp ha hb ma mb ho hf hl hl')
/-- Mul with the first sign turned. -/
theorem mul_turn {a b d u e v : Nat} {w w' : World} (ha : a < 18446744073709551616) (_hb : b < 18446744073709551616) (h : OpIs a b (fop .mul a b w) (MulLost a b (fop .mul a b w)) d u) (k : OpIs (ngf a) b (fop .mul (ngf a) b w') (MulLost (ngf a) b (fop .mul (ngf a) b w')) e v) : TurnOk d u e v := by
  have hmn := mul_ngf ha b
  cases hm : double.mul a b with
  | none =>
    rw [hm] at hmn
    have m1 := nan_all (op := .mul) hm w
    have m2 := nan_all (op := .mul) (a := ngf a) (b := b) hmn w'
    rcases h with ⟨_, rfl, rfl⟩ | ⟨p, q, _⟩
    · rcases k with ⟨_, rfl, rfl⟩ | ⟨p, q, _⟩
      · exact .inl ⟨m1, m1, m2, m2⟩
      · obtain ⟨r, hr⟩ := mul_fin p.2 q.2; rw [hmn] at hr; cases hr
    · obtain ⟨r, hr⟩ := mul_fin p.2 q.2; rw [hr] at hm; cases hm
  | some r =>
    rw [hm] at hmn
    have hr := mul_told hm
    have f1 := (fop_some (op := .mul) hm w).1
    have f2 : fop .mul (ngf a) b w' = ngf r := (fop_some (op := .mul) hmn w').1
    rw [f1] at h
    rw [f2] at k
    have ho := opp_ngf hr.2 hr.1
    rcases h with ⟨c, rfl, rfl⟩ | ⟨p, q, l, ⟨i, rfl, hi⟩, rfl, rfl⟩
    · rcases k with ⟨_, rfl, rfl⟩ | ⟨p, q, _⟩
      · exact turn_two ho
      · rw [pl_ngf ha] at p; exact absurd ⟨p, q⟩ c
    · rcases k with ⟨c, _⟩ | ⟨p', q', l', ⟨j, rfl, hj⟩, rfl, rfl⟩
      · exact absurd ⟨(pl_ngf ha).2 p, q⟩ c
      · refine lohi_turn ho.1 (ngf_is hr.2).2 hr.1 (fun hf _ => ?_)
        obtain ⟨x, hx, _, hx2⟩ := leftIs_ex ha (Nat.le_of_lt p.2) q hf
        obtain ⟨y, hy, hxy⟩ := leftIs_opp ha hr.2 hr.1 hx
        rw [hi _ hx, hj _ hy]
        have hy2 : y < 18446744073709551616 := by obtain ⟨_, _, _, h⟩ := hy; exact (fma_told h).2
        exact opp_both hx2 hy2 hxy
/-- Quo with the second sign turned. -/
theorem quo_turn {a b d u e v : Nat} {w w' : World} (_ha : a < 18446744073709551616) (hb : b < 18446744073709551616) (h : OpIs a b (fop .quo a b w) (QuoLost a b (fop .quo a b w)) d u) (k : OpIs a (ngf b) (fop .quo a (ngf b) w') (QuoLost a (ngf b) (fop .quo a (ngf b) w')) e v) : TurnOk d u e v := by
  have hmn := div_ngf a hb
  cases hm : double.div a b with
  | none =>
    rw [hm] at hmn
    have m1 := nan_all (op := .quo) hm w
    have m2 := nan_all (op := .quo) (a := a) (b := ngf b) hmn w'
    rcases h with ⟨_, rfl, rfl⟩ | ⟨p, q, _⟩
    · rcases k with ⟨_, rfl, rfl⟩ | ⟨p, q, _⟩
      · exact .inl ⟨m1, m1, m2, m2⟩
      · obtain ⟨r, hr⟩ := div_fin p.2 q.2 q.1; rw [hmn] at hr; cases hr
    · obtain ⟨r, hr⟩ := div_fin p.2 q.2 q.1; rw [hr] at hm; cases hm
  | some r =>
    rw [hm] at hmn
    have hr := div_told hm
    have f1 := (fop_some (op := .quo) hm w).1
    have f2 : fop .quo a (ngf b) w' = ngf r := (fop_some (op := .quo) hmn w').1
    rw [f1] at h
    rw [f2] at k
    have ho := opp_ngf hr.2 hr.1
    rcases h with ⟨c, rfl, rfl⟩ | ⟨p, q, l, ⟨i, rfl, hi⟩, rfl, rfl⟩
    · rcases k with ⟨_, rfl, rfl⟩ | ⟨p, q, _⟩
      · exact turn_two ho
      · rw [pl_ngf hb] at q; exact absurd ⟨p, q⟩ c
    · rcases k with ⟨c, _⟩ | ⟨p', q', l', ⟨j, rfl, hj⟩, rfl, rfl⟩
      · exact absurd ⟨p, (pl_ngf hb).2 q⟩ c
      · refine lohi_turn ho.1 (ngf_is hr.2).2 hr.1 (fun hf _ => ?_)
        obtain ⟨x, hx, hx1, hx2⟩ := leftIs_ex hr.2 hr.1 q p.2
        have hy := leftIs_turn hr.2 hb hx
        rw [hi _ hx, hj _ hy, (ngf_is hb).2]
        cases ng b
        · exact opp_ngf hx2 hx1
        · exact opp_sym (opp_ngf hx2 hx1)
theorem two_one {a b r l l' : Nat} (h : TwoIs a b r l) (k : TwoIs a b r l') : l = l' := by
  rcases h with ⟨h, rfl⟩ | ⟨h, z, y, h1, h2⟩
  · rcases k with ⟨_, rfl⟩ | ⟨k, _⟩
    · rfl
    · omega
  · rcases k with ⟨k, _⟩ | ⟨k, z', y', k1, k2⟩
    · omega
    · cases ho : (FloatKind.f64.format.order (mg a) (mg b) == some .lt)
      · rw [ho] at h1 k1
        obtain ⟨e1, e2⟩ := h1
        obtain ⟨f1, f2⟩ := k1
        rw [e1] at f1; cases f1
        rw [e2] at f2; cases f2
        rw [h2] at k2; exact Option.some.inj k2
      · rw [ho] at h1 k1
        obtain ⟨e1, e2⟩ := h1
        obtain ⟨f1, f2⟩ := k1
        rw [e1] at f1; cases f1
        rw [e2] at f2; cases f2
        rw [h2] at k2; exact Option.some.inj k2
theorem mg_order {a b : Nat} (ha : mg a ≤ 9218868437227405312) (hb : mg b ≤ 9218868437227405312) : (FloatKind.f64.format.order (mg a) (mg b) == some .lt) = decide (mg a < mg b) := by
  rw [ord_lt]
  have e1 : mg (mg a) = mg a := Nat.mod_eq_of_lt (by omega)
  have e2 : mg (mg b) = mg b := Nat.mod_eq_of_lt (by omega)
  have n1 : ng (mg a) = false := by unfold ng; rw [Nat.div_eq_of_lt (by omega)]; rfl
  have n2 : ng (mg b) = false := by unfold ng; rw [Nat.div_eq_of_lt (by omega)]; rfl
  unfold key
  rw [e1, e2, n1, n2]
  simp only [Bool.false_eq_true, if_false]
  exact decide_eq_decide.2 ⟨fun h => by have := h.2.2; omega, fun h => ⟨ha, hb, by omega⟩⟩
theorem add_self_opp {a r : Nat} (ha : a < 18446744073709551616) (hm : mg a < 9218868437227405312) (h : double.add a (ngf a) = some r) : mg r = 0 := by
  obtain ⟨M, P, e1, _, _⟩ := read_fin a hm
  unfold Format.add at h
  rw [read_ngf' ha, e1] at h
  have hT : signed (ng a) M (P - min P P).toNat + signed (!ng a) M (P - min P P).toNat = 0 := by
    rw [signed_opp (.inl rfl)]; omega
  simp only [Datum.opposite, Datum.sum, Option.map_some, hT] at h
  cases h
  show mg (double.nearest _ 0 _) = 0
  unfold Format.nearest
  rw [if_pos rfl]
  exact (word_mg _ 0 (by omega)).1
theorem two_comm {a b r l l' : Nat} (ha : a < 18446744073709551616) (hb : b < 18446744073709551616) (pa : Pl a) (pb : Pl b) (hr : double.add a b = some r) (h0 : mg r ≠ 0) (h : TwoIs a b r l) (k : TwoIs b a r l') : l = l' := by
  by_cases hab : mg a = mg b
  · by_cases hn : ng a = ng b
    · have := eq_of ha hb hab hn
      subst this
      exact two_one h k
    · exfalso
      have hba : b = ngf a := by
        refine eq_of hb (ngf_lt ha) ?_ ?_
        · rw [(ngf_is ha).1, hab]
        · rw [(ngf_is ha).2]; cases h1 : ng a <;> cases h2 : ng b <;> simp_all
      rw [hba] at hr
      exact h0 (add_self_opp ha pa.2 hr)
  · rcases h with ⟨h, rfl⟩ | ⟨h, z, y, h1, h2⟩
    · rcases k with ⟨_, rfl⟩ | ⟨k, _⟩
      · rfl
      · omega
    · rcases k with ⟨k, _⟩ | ⟨k, z', y', k1, k2⟩
      · omega
      · rw [mg_order (Nat.le_of_lt pa.2) (Nat.le_of_lt pb.2)] at h1
        rw [mg_order (Nat.le_of_lt pb.2) (Nat.le_of_lt pa.2)] at k1
        rcases Nat.lt_or_gt_of_ne hab with g | g
        · rw [decide_eq_true g] at h1
          rw [decide_eq_false (by omega)] at k1
          obtain ⟨e1, e2⟩ := h1
          obtain ⟨f1, f2⟩ := k1
          rw [e1] at f1; cases f1
          rw [e2] at f2; cases f2
          rw [h2] at k2; exact Option.some.inj k2
        · rw [decide_eq_false (by omega)] at h1
          rw [decide_eq_true g] at k1
          obtain ⟨e1, e2⟩ := h1
          obtain ⟨f1, f2⟩ := k1
          rw [e1] at f1; cases f1
          rw [e2] at f2; cases f2
          rw [h2] at k2; exact Option.some.inj k2
theorem add_same {a b d u e v : Nat} {w w' : World} (h : AddIs a b (fop .add a b w) d u) (k : AddIs a b (fop .add a b w') e v) : SamOk d e ∧ SamOk u v := by
  cases hm : double.add a b with
  | none =>
    have m1 := nan_all (op := .add) hm w
    have m2 := nan_all (op := .add) hm w'
    rcases h with ⟨_, rfl, rfl⟩ | ⟨p, q, _⟩
    · rcases k with ⟨_, rfl, rfl⟩ | ⟨p, q, _⟩
      · exact ⟨.inr ⟨m1, m2⟩, .inr ⟨m1, m2⟩⟩
      · obtain ⟨r, hr⟩ := add_fin p.2 q.2; rw [hr] at hm; cases hm
    · obtain ⟨r, hr⟩ := add_fin p.2 q.2; rw [hr] at hm; cases hm
  | some r =>
    rw [(add_fop hm w).1] at h
    rw [(add_fop hm w').1] at k
    rcases h with ⟨c, rfl, rfl⟩ | ⟨p, q, m, l, hl, rfl, rfl⟩
    · rcases k with ⟨_, rfl, rfl⟩ | ⟨p, q, m, _⟩
      · exact ⟨.inl rfl, .inl rfl⟩
      · rcases c with c | c
        · exact absurd ⟨p, q⟩ c
        · exact absurd c m
    · rcases k with ⟨c, rfl, rfl⟩ | ⟨p', q', m', l', hl', rfl, rfl⟩
      · rcases c with c | c
        · exact absurd ⟨p, q⟩ c
        · exact absurd c m
      · rw [two_one hl hl']; exact ⟨.inl rfl, .inl rfl⟩
theorem add_swap {a b d u e v : Nat} {w w' : World} (ha : a < 18446744073709551616) (hb : b < 18446744073709551616) (h : AddIs a b (fop .add a b w) d u) (k : AddIs b a (fop .add b a w') e v) : SamOk d e ∧ SamOk u v := by
  have hc := add_comm' a b
  cases hm : double.add a b with
  | none =>
    rw [hm] at hc
    have m1 := nan_all (op := .add) hm w
    have m2 := nan_all (op := .add) (a := b) (b := a) hc.symm w'
    rcases h with ⟨_, rfl, rfl⟩ | ⟨p, q, _⟩
    · rcases k with ⟨_, rfl, rfl⟩ | ⟨p, q, _⟩
      · exact ⟨.inr ⟨m1, m2⟩, .inr ⟨m1, m2⟩⟩
      · obtain ⟨r, hr⟩ := add_fin p.2 q.2; rw [hr] at hc; cases hc
    · obtain ⟨r, hr⟩ := add_fin p.2 q.2; rw [hr] at hm; cases hm
  | some r =>
    rw [hm] at hc
    rw [(add_fop hm w).1] at h
    rw [(add_fop hc.symm w').1] at k
    rcases h with ⟨c, rfl, rfl⟩ | ⟨p, q, m, l, hl, rfl, rfl⟩
    · rcases k with ⟨_, rfl, rfl⟩ | ⟨p, q, m, _⟩
      · exact ⟨.inl rfl, .inl rfl⟩
      · rcases c with c | c
        · exact absurd ⟨q, p⟩ c
        · exact absurd c m
    · rcases k with ⟨c, rfl, rfl⟩ | ⟨p', q', m', l', hl', rfl, rfl⟩
      · rcases c with c | c
        · exact absurd ⟨q, p⟩ c
        · exact absurd c m
      · rw [two_comm ha hb p q hm m hl hl']; exact ⟨.inl rfl, .inl rfl⟩
theorem lohi_beyond {r : Nat} (h : mg r = 9218868437227405312) (l l' : Nat) : lo r l = lo r l' ∧ hi r l = hi r l' := by
  have e1 : ∀ x, exactly r x = false := fun x => by unfold exactly; rw [decide_eq_false (by omega)]; rfl
  have e2 : near r l = near r l' := by unfold near; rw [if_neg (by omega), if_neg (by omega), if_neg (by omega), if_neg (by omega)]
  unfold lo hi
  rw [e1, e1, e2]; exact ⟨rfl, rfl⟩
theorem mul_swap {a b d u e v : Nat} {w w' : World} (ha : a < 18446744073709551616) (hb : b < 18446744073709551616) (h : OpIs a b (fop .mul a b w) (MulLost a b (fop .mul a b w)) d u) (k : OpIs b a (fop .mul b a w') (MulLost b a (fop .mul b a w')) e v) : SamOk d e ∧ SamOk u v := by
  have hc := mul_comm' a b
  cases hm : double.mul a b with
  | none =>
    rw [hm] at hc
    have m1 := nan_all (op := .mul) hm w
    have m2 := nan_all (op := .mul) (a := b) (b := a) hc.symm w'
    rcases h with ⟨_, rfl, rfl⟩ | ⟨p, q, _⟩
    · rcases k with ⟨_, rfl, rfl⟩ | ⟨p, q, _⟩
      · exact ⟨.inr ⟨m1, m2⟩, .inr ⟨m1, m2⟩⟩
      · obtain ⟨r, hr⟩ := mul_fin p.2 q.2; rw [hr] at hc; cases hc
    · obtain ⟨r, hr⟩ := mul_fin p.2 q.2; rw [hr] at hm; cases hm
  | some r =>
    rw [hm] at hc
    have hr := mul_told hm
    rw [(fop_some (op := .mul) hm w).1] at h
    rw [show fop .mul b a w' = r from (fop_some (op := .mul) hc.symm w').1] at k
    rcases h with ⟨c, rfl, rfl⟩ | ⟨p, q, l, ⟨i, rfl, hi⟩, rfl, rfl⟩
    · rcases k with ⟨_, rfl, rfl⟩ | ⟨p, q, _⟩
      · exact ⟨.inl rfl, .inl rfl⟩
      · exact absurd ⟨q, p⟩ c
    · rcases k with ⟨c, _⟩ | ⟨p', q', l', ⟨j, rfl, hj⟩, rfl, rfl⟩
      · exact absurd ⟨q, p⟩ c
      · rcases Nat.lt_or_eq_of_le hr.1 with g | g
        · obtain ⟨x, hx, _⟩ := leftIs_ex ha (Nat.le_of_lt p.2) q g
          obtain ⟨y, hy, _⟩ := leftIs_ex hb (Nat.le_of_lt q.2) p g
          rw [hi _ hx, hj _ hy, leftIs_comm ha hb p q hm hx hy]
          exact ⟨.inl rfl, .inl rfl⟩
        · have := lohi_beyond g (ngf i) (ngf j)
          exact ⟨.inl this.1, .inl this.2⟩
end Go.Proofs.Ytghcoijinihlnaa.Fl
