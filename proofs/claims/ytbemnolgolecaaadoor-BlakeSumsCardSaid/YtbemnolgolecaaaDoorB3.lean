/-
  The tables; Start, Orders, Less.
-/
import Derived.Test.YtbemnolgolecaaaDoorCmp
namespace Go.Proofs.YtbemnolgolecaaaDoor
open Go.RowKit

def startL : List (BitVec 32) := [1779033703#32, 3144134277#32, 1013904242#32, 2773480762#32, 1359893119#32, 2600822924#32, 528734635#32, 1541459225#32]
def ordersL : List (List Nat) := [[0, 1, 2, 3, 4, 5, 6, 7, 8, 9, 10, 11, 12, 13, 14, 15], [14, 10, 4, 8, 9, 15, 13, 6, 1, 12, 0, 2, 11, 7, 5, 3], [11, 8, 12, 0, 5, 2, 15, 13, 10, 14, 3, 6, 7, 1, 9, 4], [7, 9, 3, 1, 13, 12, 11, 14, 2, 6, 5, 10, 4, 0, 15, 8], [9, 0, 5, 7, 2, 4, 10, 15, 14, 1, 11, 12, 6, 8, 3, 13], [2, 12, 6, 10, 0, 11, 8, 3, 4, 13, 7, 5, 15, 14, 1, 9], [12, 5, 1, 15, 14, 13, 4, 10, 0, 7, 6, 3, 9, 2, 8, 11], [13, 11, 7, 14, 12, 1, 3, 9, 5, 0, 15, 4, 8, 6, 2, 10], [6, 15, 14, 9, 11, 3, 0, 8, 12, 2, 13, 7, 1, 4, 10, 5], [10, 2, 8, 4, 7, 6, 1, 5, 15, 11, 9, 14, 3, 12, 13, 0]]
def foursL : List (List Nat) := [[0, 4, 8, 12], [1, 5, 9, 13], [2, 6, 10, 14], [3, 7, 11, 15], [0, 5, 10, 15], [1, 6, 11, 12], [2, 7, 8, 13], [3, 4, 9, 14]]
/-- Places as cells. -/
def IL (l : List Nat) : List Value := l.map fun (n : Nat) => Value.int .i64 (n : Int)
theorem IL.len (l : List Nat) : (IL l).length = l.length := by simp [IL]
theorem IL.one (l : List Nat) : ∀ v ∈ IL l, v.oneCell' = true := fun v hv => by
  obtain ⟨x, _, rfl⟩ := List.mem_map.1 hv
  rfl
theorem IL.get (l : List Nat) (i : Nat) (hi : i < l.length) : (IL l)[i]? = some (.int .i64 (l.getD i 0 : Int)) := by
  simp [IL, List.getD, hi]

/-- What the tables hold. -/
structure Gl (w : World) : Prop where
  s : w.rangeAt 0 0 (UL startL)
  o : w.rangeAt 1 0 (IL ordersL.flatten)
  f : w.rangeAt 2 0 (IL foursL.flatten)
  lt : 3 ≤ w.heap.size
theorem Gl.below {w w' : World} (h : Gl w) {B : Nat} (hb : Below B w w') (h3 : 3 ≤ B) : Gl w' :=
  ⟨fun j v hj => (hb.cell (p := ⟨0, 0 + j, none⟩) (by show 0 < B; omega)).trans (h.s j v hj), fun j v hj => (hb.cell (p := ⟨1, 0 + j, none⟩) (by show 1 < B; omega)).trans (h.o j v hj),
   fun j v hj => (hb.cell (p := ⟨2, 0 + j, none⟩) (by show 2 < B; omega)).trans (h.f j v hj), Nat.le_trans h.lt (by
     rcases Nat.lt_or_ge w'.heap.size w.heap.size with h' | h'
     · exact absurd hb.size (by omega)
     · exact h')⟩
theorem Gl.low {w w' : World} (h : Gl w) (hb : Below w.heap.size w w') : Gl w' := h.below hb h.lt

/-- Noughts. -/
def ZU (n : Nat) : List Value := List.replicate n (.int .u32 0)
def ZB (n : Nat) : List Value := List.replicate n (.int .u8 0)
def ZI (n : Nat) : List Value := List.replicate n (.int .i64 0)
theorem Tryd.z42 : ∀ w, (zeroValue 42).run Tryd.prog w = .ok (.agg (ZU 8).toArray) w := (zero_of_info (n := 8) (by kernel_rfl)).1
theorem Tryd.z70 : ∀ w, (zeroValue 70).run Tryd.prog w = .ok (.agg (ZU 16).toArray) w := (zero_of_info (n := 16) (by kernel_rfl)).1
theorem Tryd.z27 : ∀ w, (zeroValue 27).run Tryd.prog w = .ok (.agg (ZB 32).toArray) w := (zero_of_info (n := 32) (by kernel_rfl)).1
theorem Tryd.z45 : ∀ w, (zeroValue 45).run Tryd.prog w = .ok (.agg (ZB 64).toArray) w := (zero_of_info (n := 64) (by kernel_rfl)).1
theorem Tryd.z37 : ∀ w, (zeroValue 37).run Tryd.prog w = .ok (.agg (ZI 16).toArray) w := (zero_of_info (n := 16) (by kernel_rfl)).1
theorem Tryd.z38 : ∀ w, (zeroValue 38).run Tryd.prog w = .ok (.agg (ZI 160).toArray) w := (zero_of_info (n := 160) (by kernel_rfl)).1
theorem Tryd.i42 : (Tryd.prog.info? 42).map (·.size) = some 8 := by kernel_rfl
theorem Tryd.i70 : (Tryd.prog.info? 70).map (·.size) = some 16 := by kernel_rfl
theorem Tryd.i27 : (Tryd.prog.info? 27).map (·.size) = some 32 := by kernel_rfl
theorem Tryd.i45 : (Tryd.prog.info? 45).map (·.size) = some 64 := by kernel_rfl
theorem Tryd.i37 : (Tryd.prog.info? 37).map (·.size) = some 16 := by kernel_rfl
theorem Tryd.i38 : (Tryd.prog.info? 38).map (·.size) = some 160 := by kernel_rfl

attribute [local go_sem ↓] Tryd.z42 Tryd.z70 Tryd.z27 Tryd.z45 Tryd.z37 Tryd.z38

theorem start_any (w : World) (hG : Gl w) : Calls Tryd.prog 20 #[] w fun e w' => e = .returned (.agg (UL startL).toArray) ∧ Below w.heap.size w w' := by
  have hr : Hid ((w.alloc (.cells (ZU 8).toArray 42)).rangeAt 0 0 (UL startL)) := fun j v hj => (World.cell?_alloc_lt w _ _ (by show 0 < _; have := hG.lt; omega)).trans (hG.s j v hj)
  clear hG
  go_enter Tryd.func20, Tryd.ntmps20
  go_wp2_with (first
    | ((with_reducible refine at_load (t := 42) ?_); refine wpList_load_mid rfl 42 _ rfl 0 0 rfl (UL startL) _ hr.out Tryd.underlying42 rfl Tryd.i42 ?_)
    | ((with_reducible refine at_store (t := 42) ?_); refine wpList_store_blk _ rfl 42 _ _ rfl w.heap.size (ZU 8).toArray 42 (UL startL) rfl rfl (Blk.new w 42 _) rfl Tryd.i42 (UL.one _) ?_; intro w9 hb9 ho9))
  exact bodyPost_ret (results_cell_row (p := 0) (ty := 42) rfl _ _ w.heap.size 42 _ (0, 0) _ rfl hb9 Tryd.underlying42 rfl Tryd.i42) rfl ⟨rfl, ((Below.refl _ w).alloc (Nat.le_refl _) _).trans (ho9.below (Nat.le_refl _))⟩

set_option maxRecDepth 100000 in
theorem orders_any (w : World) (hG : Gl w) : Calls Tryd.prog 17 #[] w fun e w' => e = .returned (.agg (IL ordersL.flatten).toArray) ∧ Below w.heap.size w w' := by
  have hr : Hid ((w.alloc (.cells (ZI 160).toArray 38)).rangeAt 1 0 (IL ordersL.flatten)) := fun j v hj => (World.cell?_alloc_lt w _ _ (by show 1 < _; have := hG.lt; omega)).trans (hG.o j v hj)
  have hi : Hid ((Tryd.prog.info? 38).map (·.size) = some (IL ordersL.flatten).length) := show _ = _ by rw [IL.len]; exact Tryd.i38
  have hz : Hid ((ZI 160).toArray.size = (IL ordersL.flatten).length) := show _ = _ by rw [IL.len]; rfl
  have h1 := Lib.hid (IL.one ordersL.flatten)
  clear hG
  generalize IL ordersL.flatten = L at *
  go_enter Tryd.func17, Tryd.ntmps17
  go_wp2_with (first
    | ((with_reducible refine at_load (t := 38) ?_); refine wpList_load_mid rfl 38 _ rfl 1 0 rfl L _ hr.out Tryd.underlying38 rfl hi.out ?_)
    | ((with_reducible refine at_store (t := 38) ?_); refine wpList_store_blk _ rfl 38 _ _ rfl w.heap.size (ZI 160).toArray 38 L rfl rfl (Blk.new w 38 _) hz.out hi.out h1.out ?_; intro w9 hb9 ho9))
  exact bodyPost_ret (results_cell_row (p := 0) (ty := 38) rfl _ _ w.heap.size 38 _ (0, 0) _ rfl hb9 Tryd.underlying38 rfl (by simpa using hi.out)) rfl ⟨rfl, ((Below.refl _ w).alloc (Nat.le_refl _) _).trans (ho9.below (Nat.le_refl _))⟩

end Go.Proofs.YtbemnolgolecaaaDoor
