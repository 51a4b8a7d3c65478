/-
  Laws on whole arrays in blocks of their own: what is loaded out of them, and stored into them.
-/
import Derived.Test.YtbemnolgolecaaaDoorBW
namespace Go.Proofs.YtbemnolgolecaaaDoor
open Go.RowKit

/-- Nothing but block g has turned. -/
structure Only (g : Nat) (w w' : World) : Prop where
  os : w'.os = w.os
  tape : w'.tape = w.tape
  output : w'.output = w.output
  size : w'.heap.size = w.heap.size
  block : ∀ k, k ≠ g → w'.heap[k]? = w.heap[k]?
theorem Only.below {g base : Nat} {w w' : World} (h : Only g w w') (hb : base ≤ g) : Below base w w' := ⟨h.os, h.tape, h.output, Nat.le_of_eq h.size.symm, fun i hi => h.block i (by omega)⟩
theorem Only.keep {g g' : Nat} {w w' : World} {t : TypeId} {cs : Array Value} (h : Only g w w') (hb : Blk w g' t cs) (hn : g' ≠ g) : Blk w' g' t cs := (h.block g' hn).trans hb

theorem setCells_only (vs : List Value) : ∀ (w : World) (g o : Nat), Only g w (w.setCells g o vs) := by
  induction vs with
  | nil => intro w g o; exact ⟨rfl, rfl, rfl, rfl, fun _ _ => rfl⟩
  | cons v r ih =>
    intro w g o
    rw [World.setCells]
    have h := ih (w.setCell ⟨g, o, none⟩ v) g (o + 1)
    exact ⟨h.os, h.tape, h.output, by rw [h.size]; simp [World.setCell], fun k hk => (h.block k hk).trans (Below.heap_setCell w _ v k hk)⟩

theorem Blk.rng {w : World} {g : Nat} {t : TypeId} {cs : List Value} (h : Blk w g t cs.toArray) : w.rangeAt g 0 cs := fun j v hj => by
  rw [Nat.zero_add, h.cell, List.getElem?_toArray]
  exact hj

/-- A whole array into a block that is known whole. -/
theorem wpList_store_blk {P : Program} {ops : Array Oper} {rest : List Oper} {op : Oper} {a : Act} {Q : Exit → Act → World → Prop} (w : World) (hgd : op.guard = none) (ty : TypeId) (x y : Operand) (ho : op.op = .store ty x y)
    (g : Nat) (c : Array Value) (t : TypeId) (cells : List Value) (hx : a.eval x = .pointer (some ⟨g, 0, none⟩)) (hy : a.eval y = .agg cells.toArray) (hb : Blk w g t c)
    (hc : c.size = cells.length) (hi : (P.info? ty).map (·.size) = some cells.length) (h1 : ∀ v ∈ cells, v.oneCell' = true)
    (h : ∀ w', Blk w' g t cells.toArray → Only g w w' → wpList P ops Q rest (a.put op.dst undef) w') : wpList P ops Q (op :: rest) a w := by
  refine wpList_store_mid hgd ty x y ho g 0 cells.toArray hx hy ?_ (by simpa using hi) (all_oneCell_toArray h1) ?_
  · intro j hj
    simp only [Nat.zero_add]
    have hj' : j < c.size := by simpa [hc] using hj
    refine ⟨?_, hb.frozen j⟩
    rw [hb.cell j]
    simp [hj']
  · rw [List.toList_toArray]
    refine h _ ?_ (setCells_only _ _ _ _)
    unfold Blk
    rw [heap_setCells_same cells w g 0 c t hb, lay_whole c cells hc]

/-- The next operation is a load. -/
theorem at_load {P : Program} {ops : Array Oper} {Q : Exit → Act → World → Prop} {rest : List Oper} {dst : Option Tmp} {t ty : TypeId} {x : Operand} {pos : String} {aft : Array Edge} {g : Option (Nat × Bool)} {a : Act} {w : World}
    (h : wpList P ops Q (⟨dst, .load t x, ty, pos, aft, g⟩ :: rest) a w) : wpList P ops Q (⟨dst, .load t x, ty, pos, aft, g⟩ :: rest) a w := h
/-- The next operation is a store. -/
theorem at_store {P : Program} {ops : Array Oper} {Q : Exit → Act → World → Prop} {rest : List Oper} {dst : Option Tmp} {t ty : TypeId} {x y : Operand} {pos : String} {aft : Array Edge} {g : Option (Nat × Bool)} {a : Act} {w : World}
    (h : wpList P ops Q (⟨dst, .store t x y, ty, pos, aft, g⟩ :: rest) a w) : wpList P ops Q (⟨dst, .store t x y, ty, pos, aft, g⟩ :: rest) a w := h

theorem Blk.new' (w : World) (t : TypeId) (cs : Array Value) {n : Nat} (hn : n = w.heap.size) : Blk (w.alloc (.cells cs t)) n t cs := by subst hn; exact Blk.new w t cs

/-- Numbers of 32 bits as cells. -/
def UL (l : List (BitVec 32)) : List Value := l.map fun x => .int .u32 (tn x : Int)
theorem UL.len (l : List (BitVec 32)) : (UL l).length = l.length := by simp [UL]
theorem UL.one (l : List (BitVec 32)) : ∀ v ∈ UL l, v.oneCell' = true := fun v hv => by
  obtain ⟨x, _, rfl⟩ := List.mem_map.1 hv
  rfl
theorem UL.get (l : List (BitVec 32)) (i : Nat) (hi : i < l.length) : (UL l)[i]? = some (.int .u32 (tn (l.getD i 0) : Int)) := by
  simp [UL, List.getD, hi]
theorem UL.set (l : List (BitVec 32)) (i : Nat) (x : BitVec 32) : (UL l).toArray.setIfInBounds i (.int .u32 (tn x : Int)) = (UL (l.set i x)).toArray := by
  simp [UL, List.map_set]
/-- Bytes as cells. -/
def BL (l : List Int) : List Value := l.map (Value.int .u8)
theorem BL.len (l : List Int) : (BL l).length = l.length := by simp [BL]
theorem BL.one (l : List Int) : ∀ v ∈ BL l, v.oneCell' = true := fun v hv => by
  obtain ⟨x, _, rfl⟩ := List.mem_map.1 hv
  rfl
theorem BL.get (l : List Int) (i : Nat) (hi : i < l.length) : (BL l)[i]? = some (.int .u8 (l.getD i 0)) := by
  simp [BL, List.getD, hi]

end Go.Proofs.YtbemnolgolecaaaDoor
