/-
  The last ray of a trace is what the whole bench makes of the ray; each is what the next element makes of the last; a trace of two benches is that of the one, and then that of the other: yes. Conditions: that benches and ray are no longer than memory.
-/
import Derived.Test.YtjamfkafgfpobaaGreatBm7
import Derived.Test.YtjamfkafgfpobaaGreatRst
import Derived.Test.YtjamfkafgfpobaaGreatBd1
import Derived.Test.YtjamfkafgfpobaaGreatXtb
import Derived.Test.YtjamfkafgfpobaaGreatBm5
import Derived.Test.YtjamfkafgfpobaaGreatXtra
import Derived.Test.YtjamfkafgfpobaaGreatRf
import Derived.Test.YtjamfkafgfpobaaGreatRc0
import Derived.Deep.RegionHeld3
import Derived.Deep.DeepCutAuto
import Derived.BigRegion
import Derived.Test.YtjamfkafgfpobaaGreatRlb
import Derived.Test.YtjamfkafgfpobaaGreatBl2
import Derived.Test.YtjamfkafgfpobaaGreatRlc
namespace Go.Proofs.YtjamfkafgfpobaaGreat
open Go.RowKit Nb
def Bel (w W : World) : Prop := Below w.heap.size w W
def Lew (w : World) (g : Nat) : Prop := w.heap.size ≤ g
section
variable {w W V : World} {g o : Nat} {vs : List Value}
theorem Bel.b (h : Bel w W) : Below w.heap.size w W := h
theorem Bel.size (h : Bel w W) : w.heap.size ≤ W.heap.size := Below.size h
theorem Bel.lew (h : Bel w W) : Lew w W.heap.size := Below.size h
theorem Bel.trans (h : Bel w W) (k : Below w.heap.size W V) : Bel w V := Below.trans h k
end
theorem b_joinL {w : World} {a b : Option Addr} {c d : Nat} {es ds : List Ev} (S1 : Sle w a c es) (S2 : Sle w b d ds) (hl : es.length + ds.length ≤ 4096) : Calls Tryz.prog 11 #[.slice a es.length c, .slice b ds.length d] w (fun e w' => ∃ (gs : List Ev) (a3 : Option Addr) (c3 : Nat), Hid (gs = es ++ ds) ∧ e = .returned (.slice a3 gs.length c3) ∧ Sle w' a3 c3 gs ∧ Below w.heap.size w w') := (b_join S1 S2 hl).mono fun _ _ ⟨a3, c3, h1, h2, h3⟩ => ⟨_, a3, c3, Lib.hid rfl, h1, h2, h3⟩
end Go.Proofs.YtjamfkafgfpobaaGreat
