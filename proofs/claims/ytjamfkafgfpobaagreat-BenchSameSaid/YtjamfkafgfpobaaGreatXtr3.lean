/-
  The sign of a fraction, taken up again. Conditions: as each theorem states.
-/
import Derived.Test.YtjamfkafgfpobaaGreatXtra
import Derived.Test.YtjamfkafgfpobaaGreatRf
import Derived.Test.YtjamfkafgfpobaaGreatBea
namespace Go.Proofs.YtjamfkafgfpobaaGreat
open Go.ChangeShapes Go.WideShapes Go.RowKit Nb
set_option maxHeartbeats 8000000 in
set_option maxRecDepth 20000 in
theorem frac_sign (q : Rat) (n : Bool) (A B : Option Addr) (xs ds : List Nat) (c d : Nat) (w : World) (h : Lf w q n A xs c B ds d) :
  Calls Tryz.prog 70 #[frq n A xs.length c false B ds.length d] w (fun e w' => e = .returned (.int .i64 (sgnQ q)) ∧ Below w.heap.size w w') := by
 obtain ⟨V, hV⟩ : ∃ V, V = (w.alloc (.cells #[.bool n, .slice A xs.length c, .bool false, .slice B ds.length d] 29)) := ⟨_, rfl⟩
 have BW : Below w.heap.size w V := by rw [hV]; go_grown
 have KX : Box V w.heap.size [.bool n, .slice A xs.length c, .bool false, .slice B ds.length d] := by rw [hV]; exact Box.new w _ _
 have LX := h.on BW
 clear h
 have KX_0 := KX.c 0 _ rfl
 have KX_1 := KX.c 1 _ rfl
 have KX_2 := KX.c 2 _ rfl
 have KX_3 := KX.c 3 _ rfl
 go_enter Tryz.func70, Tryz.ntmps70
 go_wp2_with fail
 clear KX_0 KX_1 KX_2 KX_3
 rw [← hV]
 clear hV
 refine (fcheck_any n false A B xs ds c d V LX.rq).mono ?_
 rw [chkF_ok LX.okf]
 rintro _ w1 ⟨rfl, hb⟩
 replace KX := KX.on hb
 replace LX := LX.on hb
 replace BW := BW.trans (hb.mono BW.size)
 clear hb
 have KX_0 := KX.c 0 _ rfl
 have KX_1 := KX.c 1 _ rfl
 have KX_2 := KX.c 2 _ rfl
 have KX_3 := KX.c 3 _ rfl
 go_wp2_with fail
 clear KX_0 KX_1 KX_2 KX_3
 refine (wsign_u n A xs c w1 LX.rq.x.sl LX.rq.x.dig LX.rq.x.sz).mono ?_
 rw [sgnV_nl LX.num]
 rintro _ w2 ⟨rfl, hb⟩
 replace KX := KX.on hb
 replace LX := LX.on hb
 replace BW := BW.trans (hb.mono BW.size)
 clear hb
 clear LX KX
 go_wp2
 go_ret
 exact ⟨rfl, BW⟩
section
variable {W : World} {q : Rat} {f : Fv}
theorem r_sign (h : Ff W q f) : Calls Tryz.prog 70 #[fv f] W (fun e w' => e = .returned (.int .i64 (sgnQ q)) ∧ Below W.heap.size W w') := by
 obtain ⟨n, A, xs, c, m, B, ds, d⟩ := f
 obtain ⟨rfl, h⟩ := h
 exact frac_sign q n A B xs ds c d W h
end
end Go.Proofs.YtjamfkafgfpobaaGreat
