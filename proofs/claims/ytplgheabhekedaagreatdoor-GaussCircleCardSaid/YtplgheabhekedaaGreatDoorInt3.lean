/-
  Plain facts and contracts that hold in this seat: joined by program. Conditions: as each theorem states.
-/
import Derived.Test.YtplgheabhekedaaGreatDoorInt2
/-! ### Int3 -/
namespace Go.Proofs.YtplgheabhekedaaGreatDoor
open Go.RowKit Nb
theorem sv_quo (n1 n2 : Bool) (a b : Nat) : sv (!(n1 == n2)) (a / b) = (sv n1 a).tdiv (sv n2 b) := by
  have h : ((a / b : Nat) : Int) = (a : Int).tdiv b := Int.ofNat_tdiv a b
  cases n1 <;> cases n2
  · exact h
  · show -((a / b : Nat) : Int) = (a : Int).tdiv (-b); rw [Int.tdiv_neg, h]
  · show -((a / b : Nat) : Int) = (-(a : Int)).tdiv b; rw [Int.neg_tdiv, h]
  · show ((a / b : Nat) : Int) = (-(a : Int)).tdiv (-b); rw [Int.neg_tdiv, Int.tdiv_neg, Int.neg_neg, h]
theorem sv_rem (n1 n2 : Bool) (a b : Nat) : sv n1 (a % b) = (sv n1 a).tmod (sv n2 b) := by
  have h : ((a % b : Nat) : Int) = (a : Int).tmod b := Int.ofNat_tmod a b
  cases n1 <;> cases n2
  · exact h
  · show ((a % b : Nat) : Int) = (a : Int).tmod (-b); rw [Int.tmod_neg, h]
  · show -((a % b : Nat) : Int) = (-(a : Int)).tmod b; rw [Int.neg_tmod, h]
  · show -((a % b : Nat) : Int) = (-(a : Int)).tmod (-b); rw [Int.neg_tmod, Int.tmod_neg, h]
theorem sv_neg {n : Bool} {xs : List Nat} : sv (!n && decide (0 < xs.length)) (val W64 xs) = - sv n (val W64 xs) := by
  rw [sv_made]
  cases n <;> simp [sv]
/-- What stays while two answers are made: what was made ahead of them, and room for both. -/
structure Pair (w Q W : World) (r s : Nat) : Prop where
  below : Below w.heap.size w W
  more : Below Q.heap.size Q W
  one : Rest W r
  two : Rest W s
theorem Pair.on {w Q W W' : World} {r s : Nat} (h : Pair w Q W r s) (hb : Below W.heap.size W W') : Pair w Q W' r s :=
  ⟨h.below.trans (hb.mono h.below.size), h.more.trans (hb.mono h.more.size), h.one.on hb, h.two.on hb⟩
theorem Rest.put {W : World} {r s : Nat} (h : Rest W s) (hne : r ≠ s) (u v : Value) : Rest ((W.setCell ⟨r, 0, none⟩ u).setCell ⟨r, 1, none⟩ v) s :=
  (h.set (a := ⟨r, 0, none⟩) hne u).set (a := ⟨r, 1, none⟩) hne v
theorem Sl.put {k : IntKind} {W : World} {B : Nat} {V : Option Addr} {zs : List Nat} {r : Nat} (h : Sl k W B V zs) (hr : Rest W r) (u v : Value) : Sl k ((W.setCell ⟨r, 0, none⟩ u).setCell ⟨r, 1, none⟩ v) B V zs := by
  have h1 := h.keepAt hr.r0 (by intro _ e; cases e) u
  have h2 : (W.setCell ⟨r, 0, none⟩ u).cell? ⟨r, 1, none⟩ = some (.slice none 0 0) := by rw [World.cell?_setCell_other _ _ _ _ (by simp)]; exact hr.r1
  exact h1.keepAt h2 (by intro _ e; cases e) v
theorem size_put (W : World) (r : Nat) (u v : Value) : ((W.setCell ⟨r, 0, none⟩ u).setCell ⟨r, 1, none⟩ v).heap.size = W.heap.size := by simp
/-- Two numbers are answered. -/
def Gives2 (w : World) (Z U : Int) (C : Nat) (e : Ending) (w' : World) : Prop := ∃ (n : Bool) (V : Option Addr) (zs : List Nat) (c : Nat) (m : Bool) (U' : Option Addr) (rs : List Nat) (d : Nat), e = .returned (.tuple #[big n V zs.length c, big m U' rs.length d]) ∧
  Bg w' n V zs c C ∧ sv n (val W64 zs) = Z ∧ Bg w' m U' rs d C ∧ sv m (val W64 rs) = U ∧ Below w.heap.size w w'
set_option maxHeartbeats 8000000 in
/-- The quotient toward nought, and what is left. -/
theorem lquorem_any (n1 n2 : Bool) (A B : Option Addr) (xs ys : List Nat) (c d C : Nat) (w : World) (hx : Sl .u64 w w.heap.size A xs) (hy : Sl .u64 w w.heap.size B ys) (hC : C ≤ 17592186043904)
    (HQ : ∀ W, Sl .u64 W W.heap.size A xs → Sl .u64 W W.heap.size B ys → Calls Tryz.prog 171 #[.slice A xs.length c, .slice B ys.length d] W (Words2 W (val W64 xs / val W64 ys) (val W64 xs % val W64 ys) C)) :
    Calls Tryz.prog 154 #[big n1 A xs.length c, big n2 B ys.length d] w (Gives2 w ((sv n1 (val W64 xs)).tdiv (sv n2 (val W64 ys))) ((sv n1 (val W64 xs)).tmod (sv n2 (val W64 ys))) C) := by
  have ht := Duo.boxed (n1 := n1) (n2 := n2) (l1 := xs.length) (c := c) (l2 := ys.length) (d := d) hx hy
  have hr0 := Rest.new ((w.alloc (.cells #[.bool n1, .slice A xs.length c] 85)).alloc (.cells #[.bool n2, .slice B ys.length d] 85))
  have hr1 := (Rest.new (((w.alloc (.cells #[.bool n1, .slice A xs.length c] 85)).alloc (.cells #[.bool n2, .slice B ys.length d] 85)).alloc (.cells #[.bool false, .slice none 0 0] 85)))
  have hr0 := hr0.on (W' := ((((w.alloc (.cells #[.bool n1, .slice A xs.length c] 85)).alloc (.cells #[.bool n2, .slice B ys.length d] 85)).alloc (.cells #[.bool false, .slice none 0 0] 85)).alloc (.cells #[.bool false, .slice none 0 0] 85))) (by go_grown)
  have hall := Duo.keep (W' := ((((w.alloc (.cells #[.bool n1, .slice A xs.length c] 85)).alloc (.cells #[.bool n2, .slice B ys.length d] 85)).alloc (.cells #[.bool false, .slice none 0 0] 85)).alloc (.cells #[.bool false, .slice none 0 0] 85))) (ht.all) (by go_grown)
  rw [show ((w.alloc (.cells #[.bool n1, .slice A xs.length c] 85)).alloc (.cells #[.bool n2, .slice B ys.length d] 85)).heap.size = w.heap.size + 1 + 1 by go_size] at hr0
  rw [show (((w.alloc (.cells #[.bool n1, .slice A xs.length c] 85)).alloc (.cells #[.bool n2, .slice B ys.length d] 85)).alloc (.cells #[.bool false, .slice none 0 0] 85)).heap.size = w.heap.size + 1 + 1 + 1 by go_size] at hr1
  clear ht
  go_enter Tryz.func154, Tryz.ntmps154
  go_wp2_with fail
  generalize hW : ((((w.alloc (.cells #[.bool n1, .slice A xs.length c] 85)).alloc (.cells #[.bool n2, .slice B ys.length d] 85)).alloc (.cells #[.bool false, .slice none 0 0] 85)).alloc (.cells #[.bool false, .slice none 0 0] 85)) = W at *
  clear hW
  go_wp2_with fail
  refine (HQ _ (Duo.sa' hall) (Duo.sb' hall)).mono ?_
  rintro e WQ ⟨V, zs, k, U, rs, l, rfl, hs1, hd1, hn1, hv1, hk1, hk2, hs2, hd2, hn2, hv2, hl1, hl2, hbq⟩
  have hall1 := Duo.keep hall hbq
  have hp0 : Pair w WQ WQ (w.heap.size + 1 + 1) (w.heap.size + 1 + 1 + 1) := ⟨hall1.1.below, Below.refl _ _, hr0.on hbq, hr1.on hbq⟩
  have hp0' : Pair w WQ WQ.drew (w.heap.size + 1 + 1) (w.heap.size + 1 + 1 + 1) := ⟨hall1.1.below.drew, (Below.refl _ _).drew, hp0.one.drew, hp0.two.drew⟩
  have hm1 : zs.length ≤ maxLen := by unfold maxLen; omega
  have hm2 : rs.length ≤ maxLen := by unfold maxLen; omega
  clear hall hr0 hr1
  go_wp2_with fail
  go_region_held3 (fun W' => Duo w W' w.heap.size (w.heap.size + 1) n1 n2 A B xs ys xs.length c ys.length d ∧ W'.cell? ⟨w.heap.size, 0, none⟩ = some (.bool n1) ∧ W'.cell? ⟨w.heap.size, 1, none⟩ = some (.slice A xs.length c) ∧ W'.cell? ⟨w.heap.size + 1, 0, none⟩ = some (.bool n2) ∧ W'.cell? ⟨w.heap.size + 1, 1, none⟩ = some (.slice B ys.length d))
    (first | exact hall1 | exact Duo.keep hall1 ((Below.refl _ _).drew) | exact Duo.keep (by assumption) (by assumption) | exact Duo.keep (by assumption) ((Below.refl _ _).drew) | exact Duo.put (by assumption) (by omega) (by omega) (by omega) _ _)
    (first
      | (go_at_call 146; refine (made_any _ _ _ _ _ (by first | exact hm1 | exact hm2)).mono ?_; rintro e w2 ⟨rfl, hb2⟩
         have hp : Pair w WQ w2 (w.heap.size + 1 + 1) (w.heap.size + 1 + 1 + 1) := Pair.on (by assumption) hb2
         have g0 := hp.one.r0
         have g1 := hp.one.r1
         have g2 := hp.one.f0
         have g3 := hp.one.f1
         have g4 := hp.two.r0
         have g5 := hp.two.r1
         have g6 := hp.two.f0
         have g7 := hp.two.f1))
  have hz2 := (((hs1.below hp.more).more hp.more.size).put hp.one (.bool (!(n1 == n2) && decide (0 < zs.length))) (.slice V zs.length k)).put (hp.two.put (r := w.heap.size + 1 + 1) (by omega) (.bool (!(n1 == n2) && decide (0 < zs.length))) (.slice V zs.length k)) (.bool (n1 && decide (0 < rs.length))) (.slice U rs.length l)
  have hr2 := (((hs2.below hp.more).more hp.more.size).put hp.one (.bool (!(n1 == n2) && decide (0 < zs.length))) (.slice V zs.length k)).put (hp.two.put (r := w.heap.size + 1 + 1) (by omega) (.bool (!(n1 == n2) && decide (0 < zs.length))) (.slice V zs.length k)) (.bool (n1 && decide (0 < rs.length))) (.slice U rs.length l)
  have hbf := (((hp.below.setCell (p := ⟨w.heap.size + 1 + 1, 0, none⟩) (by show _ ≤ w.heap.size + 1 + 1; omega) (.bool (!(n1 == n2) && decide (0 < zs.length)))).setCell (p := ⟨w.heap.size + 1 + 1, 1, none⟩) (by show _ ≤ w.heap.size + 1 + 1; omega) (.slice V zs.length k)).setCell (p := ⟨w.heap.size + 1 + 1 + 1, 0, none⟩) (by show _ ≤ w.heap.size + 1 + 1 + 1; omega) (.bool (n1 && decide (0 < rs.length)))).setCell (p := ⟨w.heap.size + 1 + 1 + 1, 1, none⟩) (by show _ ≤ w.heap.size + 1 + 1 + 1; omega) (.slice U rs.length l)
  go_wp2
  refine bodyPost_ret (v := .tuple #[big (!(n1 == n2) && decide (0 < zs.length)) V zs.length k, big (n1 && decide (0 < rs.length)) U rs.length l]) (by simp [results, Tryz.results154, go_sem, g0, g1, g4, g5]) rfl ?_
  refine ⟨_, V, zs, k, _, U, rs, l, rfl, ⟨by simpa using hz2, hd1, hn1, sign_made, hk1, hk2⟩, ?_, ⟨by simpa using hr2, hd2, hn2, sign_made, hl1, hl2⟩, ?_, hbf⟩
  · rw [sv_made, hv1]; exact sv_quo n1 n2 _ _
  · rw [sv_made, hv2]; exact sv_rem n1 n2 _ _
end Go.Proofs.YtplgheabhekedaaGreatDoor
