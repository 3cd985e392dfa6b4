/-
  A matrix is stored into a cell that has just been made. No conditions.
-/
import Derived.Test.YtjamfkafgfpobaaGreatRlb
import Derived.Test.YtjamfkafgfpobaaGreatXtra
import Derived.Laws.Alloc2
namespace Go.Proofs.YtjamfkafgfpobaaGreat
open Go.RowKit Nb
theorem setCells_alloc (W : World) (T : TypeId) : ∀ (vs : List Value) (o : Nat) (zs : List Value), (W.alloc (.cells zs.toArray T)).setCells W.heap.size o vs = W.alloc (.cells ((zs.take o ++ (vs ++ zs.drop (o + vs.length))).take zs.length).toArray T)
 | [], o, zs => by
  rw [List.nil_append, List.length_nil, Nat.add_zero, List.take_append_drop, List.take_length]
  rfl
 | v :: r, o, zs => by
  rw [World.setCells, World.setCell_alloc_new]
  have hz : zs.toArray.setIfInBounds o v = (zs.set o v).toArray := by simp
  first
  | rw [hz, setCells_alloc W T r (o + 1) (zs.set o v)]
  | (simp only [hz]; rw [setCells_alloc W T r (o + 1) (zs.set o v)])
  congr 3
  apply List.ext_getElem?
  intro i
  rw [List.length_set, List.getElem?_take, List.getElem?_take]
  by_cases hi : i < zs.length
  ·rw [if_pos hi, if_pos hi]
   by_cases h1 : i < o
   ·rw [List.getElem?_append_left (by rw [List.length_take, List.length_set]; omega), List.getElem?_append_left (by rw [List.length_take]; omega), List.getElem?_take, List.getElem?_take, if_pos (by omega), if_pos h1, List.getElem?_set_ne (by omega)]
   ·by_cases h2 : i = o
    ·subst h2
     rw [List.getElem?_append_left (by rw [List.length_take, List.length_set]; omega), List.getElem?_take, if_pos (by omega), List.getElem?_set_self hi, List.getElem?_append_right (by rw [List.length_take]; omega), List.length_take, show i - min i zs.length = 0 by omega]
     rfl
    ·have hL : ((zs.set o v).take (o + 1) ++ (r ++ (zs.set o v).drop (o + 1 + r.length)))[i]? = (r ++ (zs.set o v).drop (o + 1 + r.length))[i - (o + 1)]? := by
      rw [List.getElem?_append_right (by rw [List.length_take, List.length_set]; omega), List.length_take, List.length_set, show min (o + 1) zs.length = o + 1 by omega]
     have hR : (zs.take o ++ (v :: r ++ zs.drop (o + (v :: r).length)))[i]? = (v :: r ++ zs.drop (o + (v :: r).length))[i - o]? := by
      rw [List.getElem?_append_right (by rw [List.length_take]; omega), List.length_take, show min o zs.length = o by omega]
     rw [hL, hR, show i - o = (i - (o + 1)) + 1 by omega, List.cons_append, List.getElem?_cons_succ]
     by_cases h3 : i - (o + 1) < r.length
     ·rw [List.getElem?_append_left h3, List.getElem?_append_left h3]
     ·rw [List.getElem?_append_right (by omega), List.getElem?_append_right (by omega), List.getElem?_drop, List.getElem?_drop, List.getElem?_set_ne (by omega), List.length_cons]
      congr 1
      omega
  ·rw [if_neg hi, if_neg hi]
theorem setCells_new (W : World) (T : TypeId) {vs zs : List Value} (h : vs.length = zs.length) : (W.alloc (.cells zs.toArray T)).setCells W.heap.size 0 vs = W.alloc (.cells vs.toArray T) := by
 rw [setCells_alloc, List.take_zero, List.nil_append, Nat.zero_add, h, List.drop_length, List.append_nil, ← h, List.take_length]
theorem wpList_stNew {W : World} {T : TypeId} {zs vs : List Value} {ops : Array Oper} {rest : List Oper} {op : Oper} {a : Act} {Q : Exit → Act → World → Prop} {x y : Operand} (hgd : op.guard = none) (ho : op.op = .store 31 x y) (hx : a.eval x = .pointer (some ⟨W.heap.size, 0, none⟩)) (hy : a.eval y = .agg vs.toArray) (hl : zs.length = 16) (hv : vs.length = 16) (h1 : vs.all (·.oneCell') = true)
  (h : wpList Tryz.prog ops Q rest (a.put op.dst undef) (W.alloc (.cells vs.toArray T))) : wpList Tryz.prog ops Q (op :: rest) a (W.alloc (.cells zs.toArray T)) := by
 obtain ⟨V, hV, _, K, Z, _⟩ := alloc_new W zs T
 rw [← setCells_new W T (zs := zs) (by rw [hv, hl])] at h
 rw [← hV] at h ⊢
 exact wpList_stM hgd ho hx hy K Z hl hv h1 h
end Go.Proofs.YtjamfkafgfpobaaGreat
