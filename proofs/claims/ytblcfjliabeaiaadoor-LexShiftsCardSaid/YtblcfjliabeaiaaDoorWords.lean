/-
  Words for bytes in memory, and the plain lemmas on lists that the walks lean on. Nothing of the program is looked at here.
-/
import Derived.Below
import Derived.Laws.OwnMore
import Derived.Deep.Draws
import Derived.Laws.Rows
import Derived.Deep.AppendLies
namespace Go.Proofs.YtblcfjliabeaiaaDoor
open Go.RowKit

/-- The slice value '.slice A n c' holds the bytes zs, below block B. -/
def By (w : World) (B : Nat) (A : Option Addr) (n : Nat) (zs : List Int) : Prop :=
  zs.length = n ∧ (∀ j, 0 ≤ zs.getD j 0 ∧ zs.getD j 0 ≤ 255) ∧
    (0 < n → ∃ b o, A = some ⟨b, o, none⟩ ∧ b < B ∧ ∀ j, j < n → w.cell? ⟨b, o + j, none⟩ = some (.int .u8 (zs.getD j 0)))

section
variable {w w' : World} {B B' n : Nat} {A : Option Addr} {zs : List Int}
theorem By.none_ : By w B A 0 [] := ⟨rfl, fun j => by simp, fun h => absurd h (by omega)⟩
theorem By.keep (h : By w B A n zs) (hk : ∀ p : Addr, p.block < B → w'.cell? p = w.cell? p) : By w' B A n zs :=
  ⟨h.1, h.2.1, fun hn => by
    obtain ⟨b, o, e, hb, hc⟩ := h.2.2 hn
    exact ⟨b, o, e, hb, fun j hj => (hk ⟨b, o + j, none⟩ hb).trans (hc j hj)⟩⟩
theorem By.more (h : By w B A n zs) (hB : B ≤ B') : By w B' A n zs :=
  ⟨h.1, h.2.1, fun hn => by
    obtain ⟨b, o, e, hb, hc⟩ := h.2.2 hn
    exact ⟨b, o, e, by omega, hc⟩⟩
theorem By.below (h : By w B A n zs) (hb : Below B w w') : By w' B A n zs := h.keep fun _ hp => hb.cell hp
theorem By.drewN (h : By w B A n zs) (k : Nat) : By (w.drewN k) B A n zs := h
theorem By.alloc (h : By w B A n zs) (hB : B ≤ w.heap.size) (o : Obj) : By (w.alloc o) B A n zs := h.keep fun p hp => World.cell?_alloc_lt w o p (by omega)
theorem By.setCell (h : By w B A n zs) {p : Addr} (hB : B ≤ p.block) (u : Value) : By (w.setCell p u) B A n zs :=
  h.keep fun q hq => World.cell?_setCell_other w p q u (fun e => by subst e; omega)
end

/-- Block g is just the cells cs of element type t, none frozen. -/
def Blk (w : World) (g : Nat) (t : TypeId) (cs : Array Value) : Prop := w.heap[g]? = some (.cells cs t (0, 0))

section
variable {w w' : World} {g : Nat} {t : TypeId} {cs : Array Value}
theorem Blk.lt (h : Blk w g t cs) : g < w.heap.size := by
  rcases Nat.lt_or_ge g w.heap.size with hlt | hge
  · exact hlt
  · unfold Blk at h; rw [Array.getElem?_eq_none hge] at h; cases h
theorem Blk.cell (h : Blk w g t cs) (i : Nat) : w.cell? ⟨g, i, none⟩ = cs[i]? := cell_of_row w g i cs t (0, 0) h
theorem Blk.frozen (h : Blk w g t cs) (i : Nat) : w.frozen? ⟨g, i, none⟩ = false := by
  unfold Blk at h
  simp [World.frozen?, h]
theorem Blk.new (w : World) (t : TypeId) (cs : Array Value) : Blk (w.alloc (.cells cs t)) w.heap.size t cs := heap_alloc_new w _
theorem Blk.drewN (h : Blk w g t cs) (n : Nat) : Blk (w.drewN n) g t cs := h
theorem Blk.alloc (h : Blk w g t cs) (o : Obj) : Blk (w.alloc o) g t cs := (Below.heap_alloc w o g h.lt).trans h
theorem Blk.set_ (h : Blk w g t cs) (i : Nat) (u : Value) : Blk (w.setCell ⟨g, i, none⟩ u) g t (cs.setIfInBounds i u) := by
  unfold Blk at h ⊢
  simp [World.setCell, Array.getElem?_modify, h]
theorem Blk.far (h : Blk w g t cs) {p : Addr} (hp : g ≠ p.block) (u : Value) : Blk (w.setCell p u) g t cs := (Below.heap_setCell w p u g hp).trans h
theorem Blk.below {B : Nat} (h : Blk w g t cs) (hb : Below B w w') (hg : g < B) : Blk w' g t cs := (hb.block g hg).trans h
end

/-- How many of the bytes are c. -/
def cnt (c : Int) (zs : List Int) : Nat := (zs.filter (fun z => z == c)).length
theorem cnt_le (c : Int) (zs : List Int) : cnt c zs ≤ zs.length := List.length_filter_le _ _
theorem cnt_snoc (c : Int) (zs : List Int) (k : Nat) (hk : k < zs.length) : cnt c (zs.take (k + 1)) = cnt c (zs.take k) + if (zs.getD k 0 == c) = true then 1 else 0 := by
  rw [List.take_succ_eq_append_getElem hk]
  unfold cnt
  rw [List.filter_append, List.length_append]
  have e : zs.getD k 0 = zs[k] := by simp [List.getD, hk]
  rw [e]
  by_cases h : (zs[k] == c) = true
  · simp [h]
  · simp [h]

theorem ret_int {k : IntKind} {a b : Int} (h : a = b) : Ending.returned (.int k a) = .returned (.int k b) := by rw [h]
theorem ret_bool {a b : Bool} (h : a = b) : Ending.returned (.bool a) = .returned (.bool b) := by rw [h]

end Go.Proofs.YtblcfjliabeaiaaDoor
