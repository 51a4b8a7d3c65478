/-
  The law's said: where one stands; a sync.
-/
import Derived.Test.YtdhompiapklnaaaEB
import Derived.Test.YtdhompiapklnaaaO4
namespace Go.Proofs.Ytdhompiapklnaaa
open Go.RowKit
attribute [local go_sem ↓] Try.z39 Try.z86 Try.z75 Try.z32

/-- Where one stands: the Ask, the disk, both results. -/
structure SDW (w0 : World) (av : Array Value) (r3 : List Value) (c4 c5 : Array Value) (w : World) : Prop where
  below : Below w0.heap.size w0 w
  b2 : Blk w w0.heap.size 37 av
  b3 : Blk w (w0.heap.size + 1) 32 r3.toArray
  b4 : Blk w (w0.heap.size + 1 + 1) 32 c4
  b5 : Blk w (w0.heap.size + 1 + 1 + 1) 39 c5
section
variable {w0 w w' : World} {av : Array Value} {r3 : List Value} {c4 c5 : Array Value}
theorem SDW.start (w : World) (av : Array Value) (r3 : List Value) : SDW w av r3 ZZ Z0.toArray ((((w.alloc (.cells av 37)).alloc (.cells r3.toArray 32)).alloc (.cells ZZ 32)).alloc (.cells Z0.toArray 39)) :=
  ⟨((((Below.refl _ w).alloc (Nat.le_refl _) _).alloc (by simp) _).alloc (by simp; omega) _).alloc (by simp; omega) _, (((Blk.new w 37 _).alloc _).alloc _).alloc _, ((Blk.new' _ 32 _ (by simp)).alloc _).alloc _, (Blk.new' _ 32 _ (by simp)).alloc _, Blk.new' _ 39 _ (by simp)⟩
theorem SDW.low (s : SDW w0 av r3 c4 c5 w) (k : Below w.heap.size w w') : SDW w0 av r3 c4 c5 w' :=
  ⟨s.below.trans (k.mono s.below.size), s.b2.below k s.b2.lt, s.b3.below k s.b3.lt, s.b4.below k s.b4.lt, s.b5.below k s.b5.lt⟩
theorem SDW.put3 (s : SDW w0 av r3 c4 c5 w) {r : List Value} (ho : Only (w0.heap.size + 1) w w') (hb : Blk w' (w0.heap.size + 1) 32 r.toArray) : SDW w0 av r c4 c5 w' :=
  ⟨s.below.trans (ho.below (by omega)), ho.keep s.b2 (by omega), hb, ho.keep s.b4 (by omega), ho.keep s.b5 (by omega)⟩
theorem SDW.put4 (s : SDW w0 av r3 c4 c5 w) {c : Array Value} (ho : Only (w0.heap.size + 1 + 1) w w') (hb : Blk w' (w0.heap.size + 1 + 1) 32 c) : SDW w0 av r3 c c5 w' :=
  ⟨s.below.trans (ho.below (by omega)), ho.keep s.b2 (by omega), ho.keep s.b3 (by omega), hb, ho.keep s.b5 (by omega)⟩
theorem SDW.put5 (s : SDW w0 av r3 c4 c5 w) {c : Array Value} (ho : Only (w0.heap.size + 1 + 1 + 1) w w') (hb : Blk w' (w0.heap.size + 1 + 1 + 1) 39 c) : SDW w0 av r3 c4 c w' :=
  ⟨s.below.trans (ho.below (by omega)), ho.keep s.b2 (by omega), ho.keep s.b3 (by omega), ho.keep s.b4 (by omega), hb⟩
end
theorem RRow.one {F : Nat → Prop} {w : World} {S : DSt} {r : List Value} (h : RRow F w S r) : r.length = 6 ∧ ∀ v ∈ r, v.oneCell' = true := by
  obtain ⟨Ah, ch, Aq, cq, dm, _, rfl, _⟩ := h
  exact ⟨rfl, rrow_one _ _ _ _ _ _ _ _ _ _⟩
/-- A store of 64 bytes elsewhere. -/
theorem RRow.only39 {F : Nat → Prop} {w w' : World} {S : DSt} {r : List Value} {g : Nat} (h : RRow F w S r) (ho : Only g w w') (hr : ∀ A n c, Value.slice A n c ∈ r → (Value.slice A n c).ownBlock ≠ some g) : RRow F w' S r := by
  obtain ⟨Ah, ch, Aq, cq, dm, h1, h2, h3, h4, h5⟩ := h
  subst h2
  exact ⟨Ah, ch, Aq, cq, dm, h1, rfl, h3.keep fun g2 _ _ hv _ => ho.block g2 (fun e => hr _ _ _ (by simp [rrow]) (hv.trans (by rw [e]))), h4.keep fun g2 _ _ hv _ => ho.block g2 (fun e => hr Aq S.q.length cq (by simp [rrow]) (hv.trans (by rw [e]))), h5⟩

/-- What said leaves. -/
def RSaid (F : Nat → Prop) (w : World) (S' : DSt) (B : List Value) (er : Int) (e : Ending) (w' : World) : Prop := ∃ r, e = .returned (.tuple #[.agg r.toArray, .agg B.toArray, .int .i64 er]) ∧ RRow F w' S' r ∧ Below w.heap.size w w'

end Go.Proofs.Ytdhompiapklnaaa
