/-
  Of any two floats the sum and the difference, down and up, are what the document says (RoundSums' walk). Condition: floats of 64 bits.
-/
import Derived.Test.YtffjkfjokikhnaaRwj
import Derived.Test.YtffjkfjokikhnaaSam
namespace Go.Proofs.Ytffjkfjokikhnaa.Rb
open Go.RowKit Nb Fl Ieee

theorem same4_any (a b c d : Nat) (w : World) (h : SamOk a c ∧ SamOk b d) : Calls Try.prog 15 #[.float .f64 a, .float .f64 b, .float .f64 c, .float .f64 d] w fun x w' => x = .returned (.bool true) ∧ w' = w := by
  have H1 := Lib.hid (fun W => sameFloat_any a c W h.1)
  have H2 := Lib.hid (fun W => sameFloat_any b d W h.2)
  clear h
  go_enter Try.func15, Try.ntmps15
  go_wp2_with fail
  refine (H1.out _).mono ?_
  rintro e w1 ⟨rfl, rfl⟩
  go_wp2_with fail
  refine (H2.out _).mono ?_
  rintro e w1 ⟨rfl, rfl⟩
  go_wp2
  go_ret; exact ⟨rfl, rfl⟩
/-- Two answers of one operation, in whatever worlds. -/
theorem fop_sam (op : BinOp) (a b : Nat) (w w' : World) : SamOk (fop op a b w) (fop op a b w') := by
  cases h : floatBits op .f64 a b with
  | some r => left; rw [(fop_some h w).1, (fop_some h w').1]
  | none => right; exact ⟨nan_all h w, nan_all h w'⟩
theorem sums_same {a b d u x y : Nat} {w W : World} (ha : a < 18446744073709551616) (hb : b < 18446744073709551616) (h : AddIs a b (fop .add a b w) d u) (k : RaddIs a b W x y) : SamOk d x ∧ SamOk u y := by
  rcases k with ⟨⟨fa, fb⟩, s, hs, rfl, rfl⟩ | ⟨hf, V, rfl, rfl⟩
  · rw [(add_fop hs w).1] at h
    have := add_lohi ha hb fa fb hs h
    exact ⟨.inl this.1, .inl this.2⟩
  · rcases h with ⟨_, rfl, rfl⟩ | ⟨p, q, _⟩
    · exact ⟨fop_sam .add a b w V, fop_sam .add a b w V⟩
    · exact absurd ⟨p.2, q.2⟩ hf
theorem subs_same {a b d u x y : Nat} {w : World} (ha : a < 18446744073709551616) (hb : b < 18446744073709551616) (h : AddIs a (ngf b) (fop .add a (ngf b) w) d u) (k : RsubIs a b x y) : SamOk d x ∧ SamOk u y := by
  rcases k with ⟨⟨fa, fb⟩, s, hs, rfl, rfl⟩ | ⟨hf, V, rfl, rfl⟩
  · rw [(add_fop hs w).1] at h
    have := add_lohi ha (ngf_lt hb) fa (by rw [(ngf_is hb).1]; exact fb) hs h
    exact ⟨.inl this.1, .inl this.2⟩
  · have e : floatBits .sub .f64 a b = floatBits .add .f64 a (ngf b) := by
      show double.sub a b = double.add a (ngf b)
      unfold Format.sub Format.add; rw [read_ngf' hb]
    have hs : SamOk (fop .add a (ngf b) w) (fop .sub a b V) := by
      cases g : floatBits .add .f64 a (ngf b) with
      | some r => left; rw [(fop_some g w).1, (fop_some (e.trans g) V).1]
      | none => right; exact ⟨nan_all g w, nan_all (e.trans g) V⟩
    rcases h with ⟨_, rfl, rfl⟩ | ⟨p, q, _⟩
    · exact ⟨hs, hs⟩
    · have := q.2
      rw [(ngf_is hb).1] at this
      exact absurd ⟨p.2, this⟩ hf

set_option maxHeartbeats 2000000 in
theorem roundSums_walk (a b : Nat) (w : World) (ha : a < 18446744073709551616) (hb : b < 18446744073709551616) :
    Calls Try.prog 3 #[.float .f64 a, .float .f64 b] w fun e w' => e = .returned (.bool true) ∧ Below w.heap.size w w' := by
  have H1 := Lib.hid (fun W => add_any a b W ha hb)
  have H2 := Lib.hid (fun W => radd_any a b W ha hb)
  have H3 := Lib.hid (fun W => sub_any a b W ha hb)
  have H4 := Lib.hid (fun W => rsub_any a b W ha hb)
  have HL := Lib.hid (And.intro ha hb)
  clear ha hb
  go_enter Try.func3, Try.ntmps3
  go_wp2_with fail
  refine (H1.out _).mono ?_
  rintro e w1 ⟨d1, u1, rfl, g, k⟩
  have K1 := Lib.hid k
  clear k H1
  go_wp2_with fail
  refine (H2.out _).mono ?_
  rintro e w2 ⟨d2, u2, rfl, k, q⟩
  have S1 := Lib.hid (sums_same HL.out.1 HL.out.2 K1.out k)
  replace g := g.trans (q.mono g.size)
  clear k q H2 K1
  go_wp2_with fail
  refine (H3.out _).mono ?_
  rintro e w3 ⟨d3, u3, rfl, q, k⟩
  have K1 := Lib.hid k
  replace g := g.trans (q.mono g.size)
  clear k q H3
  go_wp2_with fail
  refine (H4.out _).mono ?_
  rintro e w4 ⟨d4, u4, rfl, k, q⟩
  have S2 := Lib.hid (subs_same HL.out.1 HL.out.2 K1.out k)
  replace g := g.trans (q.mono g.size)
  clear k q H4 K1
  go_wp2_with fail
  refine (same4_any _ _ _ _ _ S1.out).mono ?_
  rintro e w5 ⟨rfl, rfl⟩
  go_wp2_with fail
  refine (same4_any _ _ _ _ _ S2.out).mono ?_
  rintro e w5 ⟨rfl, rfl⟩
  go_wp2
  go_ret
  exact ⟨rfl, g⟩
end Go.Proofs.Ytffjkfjokikhnaa.Rb
