/-
  Sum, in plain words.
-/
import Derived.Test.YtbemnolgolecaaaDoorC1
import Derived.Test.YtbemnolgolecaaaDoorB9
namespace Go.Proofs.YtbemnolgolecaaaDoor
open Go.RowKit
attribute [local go_sem ↓] Tryd.z42 Tryd.z70 Tryd.z27 Tryd.z45 Tryd.z37 Tryd.z38

/-- How many blocks. -/
def cnt64 (n : Nat) : Nat := if 1 < (n + 63) / 64 then (n + 63) / 64 else 1
def end64 (n k : Nat) : Nat := if n < (k + 1) * 64 then n else (k + 1) * 64
/-- A block's bytes, noughts behind the last. -/
def blk64 (zs : List Int) (k : Nat) : List Int := (zs.drop (k * 64)).take 64 ++ List.replicate (64 - ((zs.drop (k * 64)).take 64).length) 0
theorem blk64_len (zs : List Int) (k : Nat) : (blk64 zs k).length = 64 := by
  unfold blk64
  rw [List.length_append, List.length_replicate, List.length_take]
  omega
theorem blk64_bs {zs : List Int} (h : Bs zs) (k : Nat) : Bs (blk64 zs k) := Bs.append ((h.drop _).take _) (fun j => by
  rw [List.getD_eq_getElem?_getD, List.getElem?_replicate]
  split <;> simp)
theorem blk64_splice (zs : List Int) (k : Nat) (X : List Int) (hX : X = (zs.drop (k * 64)).take 64) : splice (ZB 64) 0 (BL X) = BL (blk64 zs k) := by
  subst hX
  have hl : ((zs.drop (k * 64)).take 64).length ≤ 64 := by rw [List.length_take]; omega
  unfold splice blk64
  generalize (zs.drop (k * 64)).take 64 = Y at hl
  rw [BL.len, Nat.zero_add, List.take_zero, List.nil_append]
  have e : BL (Y ++ List.replicate (64 - Y.length) 0) = BL Y ++ ZB (64 - Y.length) := by rw [ZB.bl]; simp [BL]
  rw [e]
  congr 1
  unfold ZB
  rw [List.drop_replicate]
def start0 : List (BitVec 32) := startL.set 0 (gt startL 0 ^^^ bv 16842784)
def sumL (zs : List Int) : Nat → List (BitVec 32)
  | 0 => start0
  | k + 1 => blockF (sumL zs k) (blk64 zs k) (end64 zs.length k : Int) (k == cnt64 zs.length - 1)
theorem sumL_len (zs : List Int) : ∀ k, (sumL zs k).length = 8
  | 0 => rfl
  | k + 1 => by rw [sumL]; exact blockF_len _ _ _ _ (sumL_len zs k)
def sumF (zs : List Int) : List Int := digestF (sumL zs (cnt64 zs.length))

/-- Where one stands. -/
structure TW (w0 : World) (A : Option Addr) (n : Nat) (zs : List Int) (h : List (BitVec 32)) (w : World) : Prop where
  below : Below w0.heap.size w0 w
  gl : Gl w
  g3 : 3 ≤ w0.heap.size
  by_ : By w w0.heap.size A n zs
  res : Blk w w0.heap.size 27 (ZB 32).toArray
  hb : Blk w (w0.heap.size + 1) 42 (UL h).toArray
section
variable {w0 w w' : World} {A : Option Addr} {n : Nat} {zs : List Int} {h : List (BitVec 32)}
theorem TW.low (s : TW w0 A n zs h w) (hb : Below w.heap.size w w') : TW w0 A n zs h w' :=
  ⟨s.below.trans (hb.mono s.below.size), s.gl.low hb, s.g3, s.by_.below (hb.mono s.below.size), s.res.below hb s.res.lt, s.hb.below hb s.hb.lt⟩
theorem TW.drew (s : TW w0 A n zs h w) : TW w0 A n zs h w.drew := ⟨s.below.drew, ⟨s.gl.s, s.gl.o, s.gl.f, s.gl.lt⟩, s.g3, s.by_, s.res, s.hb⟩
theorem TW.put (s : TW w0 A n zs h w) {h' : List (BitVec 32)} (ho : Only (w0.heap.size + 1) w w') (hv : Blk w' (w0.heap.size + 1) 42 (UL h').toArray) : TW w0 A n zs h' w' :=
  ⟨s.below.trans (ho.below (by omega)), s.gl.below (ho.below (Nat.le_refl _)) (by have := s.g3; omega), s.g3, s.by_.below (ho.below (by omega)), ho.keep s.res (by omega), hv⟩
end

end Go.Proofs.YtbemnolgolecaaaDoor
