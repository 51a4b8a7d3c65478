/-
  few, and the law's argument opened.
-/
import Derived.Test.YtbemnolgolecaaaDoorC2b
import Derived.Test.YtbemnolgolecaaaDoorC4
import Derived.Test.YtbemnolgolecaaaDoorOp
import Derived.WalkKit
namespace Go.Proofs.YtbemnolgolecaaaDoor
open Go.ChangeShapes Go.WideShapes Go.ChangeAt Go.RowKit

set_option maxRecDepth 100000 in
set_option maxHeartbeats 2000000 in
theorem few_any (A : Option Addr) (n c : Nat) (zs : List Int) (w : World) (B : Nat) (h : By w B A n zs) (hnc : n ≤ c) :
    Calls Tryd.prog 11 #[.slice A n c] w (Cloned w (min n 1000) (zs.take 1000)) := by
  have hcut := h.cut (k := 0) (m := min n 1000) (c := c) (by omega) (by omega) hnc
  have e : (zs.drop 0).take (min n 1000) = zs.take 1000 := by rw [List.drop_zero, ← h.1, List.take_eq_take_iff]; omega
  have eA : (if c = 0 then A else A.map (·.add 0)) = A := by
    split
    · rfl
    · cases A <;> simp [Addr.add]
  rw [e, eA] at hcut
  clear h e eA
  generalize zs.take 1000 = ys at *
  by_cases h3 : n ≤ 1000
  · have e2 : (min (n : Int) 1000).toNat = n := by omega
    rw [Nat.min_eq_left h3] at hcut ⊢
    go_enter Tryd.func11, Tryd.ntmps11
    go_wp2_with fail
    refine (clone_any _ _ _ _ _ _ hcut (by omega)).mono ?_
    rintro e w' ⟨A', c', rfl, ho, hb⟩
    go_wp2_with fail
    go_ret
    exact ⟨A', c', rfl, ho, hb⟩
  · have e2 : (min (n : Int) 1000).toNat = 1000 := by omega
    rw [Nat.min_eq_right (by omega)] at hcut ⊢
    go_enter Tryd.func11, Tryd.ntmps11
    go_wp2_with fail
    refine (clone_any _ _ _ _ _ _ hcut (by omega)).mono ?_
    rintro e w' ⟨A', c', rfl, ho, hb⟩
    go_wp2_with fail
    go_ret
    exact ⟨A', c', rfl, ho, hb⟩

theorem addr_of {w : World} {a : Addr} {v : Value} (h : w.cell? (a.add 0) = some v) : ∃ b o, a = ⟨b, o, none⟩ ∧ b < w.heap.size := by
  rw [show a.add 0 = a from rfl] at h
  obtain ⟨b, o, s⟩ := a
  have hs : s = none := World.cell?_spot h
  subst hs
  exact ⟨b, o, rfl, World.block_lt_of_cell? w _ h⟩
theorem add_at (b o i : Nat) : (⟨b, o, none⟩ : Addr).add i = ⟨b, o + i, none⟩ := by by_cases h0 : i = 0 <;> simp [Addr.add, h0]
theorem Tryd.cells5 : Tryd.prog.cellsOf 5 = 1 := by kernel_rfl

theorem open_bytes {H : Type} {enc : TypeId × Value → H} {W : World} {sp : Nat → Bool} {a : Option Addr} {len cap : Nat} {d : DataW H} {p : List MemPlace} (h : DataW.Trod enc Tryd.prog W 0 sp true 24 (.slice a len cap) d p) : ∃ zs, By W W.heap.size a len zs ∧ len ≤ cap ∧ cap ≤ 9223372036854775807 := by
  obtain ⟨fuel, hf⟩ := h
  rcases open_ints Tryd.underlying24 Tryd.underlying5 Tryd.cells5 hf with ⟨hcs, _⟩ | ⟨x, l, c, zs, hcs, _, hl, hm, hz, _, hcell, hwz⟩
  · simp [Value.cells] at hcs
    obtain ⟨rfl, rfl, rfl⟩ := hcs
    exact ⟨[], By.none_, by omega, by omega⟩
  · simp [Value.cells] at hcs
    obtain ⟨rfl, rfl, rfl⟩ := hcs
    have hlz : len ≤ zs.length := by rw [hz]; split <;> omega
    have hbs : Bs zs := fun j => by
      rcases Nat.lt_or_ge j zs.length with hj | hj
      · have := hwz (zs.getD j 0) (by simp [List.getD, hj])
        have := bounds_u8 this
        omega
      · simp [List.getD, List.getElem?_eq_none hj]
    refine ⟨zs.take len, ⟨by rw [List.length_take]; omega, hbs.take len, fun hp => ?_⟩, hl, by unfold maxLen at hm; omega⟩
    obtain ⟨b, o, rfl, hb⟩ := addr_of (hcell 0 (by omega))
    refine ⟨b, o, rfl, hb, fun j hj => ?_⟩
    have := hcell j (by omega)
    rw [add_at] at this
    rw [this]
    simp [List.getD, hj]

/-- Byte j of a digest is a byte of one of its numbers. -/
theorem idL_getD (h : List (BitVec 32)) : ∀ k i j, i < k → j < 4 → (idL h k).getD (4 * i + j) 0 = (byt (gt h i) j : Int)
  | 0, i, j, hi, _ => by omega
  | k + 1, i, j, hi, hj => by
    rw [idL]
    by_cases hik : i < k
    · rw [List.getD_eq_getElem?_getD, List.getElem?_append_left (by rw [idL_len]; omega), ← List.getD_eq_getElem?_getD]
      exact idL_getD h k i j hik hj
    · obtain rfl : i = k := by omega
      rw [List.getD_eq_getElem?_getD, List.getElem?_append_right (by rw [idL_len]; omega), idL_len, show 4 * i + j - 4 * i = j by omega]
      rcases j with _ | _ | _ | _ | j
      · rfl
      · rfl
      · rfl
      · rfl
      · omega

theorem or_nat (a b n P : Nat) (hP : P = 2 ^ n) (ha : a < P) (h : a + P * b < 4294967296) : bits .or .u32 (a : Int) ((P * b : Nat) : Int) = ((a + P * b : Nat) : Int) := by
  have e (k : Nat) (hk : k < 4294967296) : (BitVec.ofInt 32 (k : Int)).toNat = k := by rw [BitVec.toNat_ofInt]; omega
  have o : a ||| P * b = a + P * b := by
    subst hP
    rw [Nat.or_comm, Nat.mul_comm, ← Nat.shiftLeft_eq, ← Nat.shiftLeft_add_eq_or_of_lt ha, Nat.add_comm]
  show IntKind.u32.wrap ((BitVec.ofInt 32 (a : Int) ||| BitVec.ofInt 32 ((P * b : Nat) : Int)).toNat : Int) = _
  rw [BitVec.toNat_or, e a (by omega), e (P * b) (by omega), o, IntKind.wrap_u32']
  omega

/-- The four bytes of a number, put together again. -/
theorem put4 (x : BitVec 32) : bits .or .u32 (bits .or .u32 (bits .or .u32 (byt x 0 : Int) (((byt x 1 : Int) * 256) % 4294967296)) (((byt x 2 : Int) * 65536) % 4294967296)) (((byt x 3 : Int) * 16777216) % 4294967296) = (tn x : Int) := by
  have h0 := byt_lt x 0
  have h1 := byt_lt x 1
  have h2 := byt_lt x 2
  have h3 := byt_lt x 3
  rw [show ((byt x 1 : Int) * 256) % 4294967296 = ((256 * byt x 1 : Nat) : Int) by omega, show ((byt x 2 : Int) * 65536) % 4294967296 = ((65536 * byt x 2 : Nat) : Int) by omega, show ((byt x 3 : Int) * 16777216) % 4294967296 = ((16777216 * byt x 3 : Nat) : Int) by omega,
    or_nat _ _ 8 256 (by decide) (by omega) (by omega), or_nat _ _ 16 65536 (by decide) (by omega) (by omega), or_nat _ _ 24 16777216 (by decide) (by omega) (by omega), byt_sum]

/-- Where the law's walk stands: the bytes lie below block g, which holds the numbers h. -/
structure LW (w0 : World) (g : Nat) (A : Option Addr) (n : Nat) (zs : List Int) (h : List (BitVec 32)) (w : World) : Prop where
  below : Below w0.heap.size w0 w
  gl : Gl w
  g3 : 3 ≤ w0.heap.size
  lo : w0.heap.size ≤ g
  by_ : By w g A n zs
  hb : Blk w g 42 (UL h).toArray
section
variable {w0 w w' : World} {g n : Nat} {A : Option Addr} {zs : List Int} {h : List (BitVec 32)}
theorem LW.low (s : LW w0 g A n zs h w) (hb : Below w.heap.size w w') : LW w0 g A n zs h w' :=
  ⟨s.below.trans (hb.mono s.below.size), s.gl.low hb, s.g3, s.lo, s.by_.below (hb.mono (Nat.le_of_lt s.hb.lt)), s.hb.below hb s.hb.lt⟩
theorem LW.drew (s : LW w0 g A n zs h w) : LW w0 g A n zs h w.drew := ⟨s.below.drew, ⟨s.gl.s, s.gl.o, s.gl.f, s.gl.lt⟩, s.g3, s.lo, s.by_, s.hb⟩
theorem LW.put (s : LW w0 g A n zs h w) {h' : List (BitVec 32)} (ho : Only g w w') (hv : Blk w' g 42 (UL h').toArray) : LW w0 g A n zs h' w' :=
  ⟨s.below.trans (ho.below s.lo), s.gl.below (ho.below (Nat.le_refl _)) (by have := s.g3; have := s.lo; omega), s.g3, s.lo, s.by_.below (ho.below (Nat.le_refl _)), hv⟩
end

/-- How many blocks are walked over before the last. -/
theorem cnt_last {n k : Nat} (h1 : k * 64 ≤ n) (h2 : k = 0 ∨ k * 64 < n) (h3 : n - k * 64 ≤ 64) : cnt64 n = k + 1 := by
  unfold cnt64
  split <;> omega
theorem cnt_more {n k : Nat} (h3 : 64 < n - k * 64) : (k == cnt64 n - 1) = false ∧ end64 n k = (k + 1) * 64 := by
  constructor
  · rw [beq_eq_false_iff_ne]
    unfold cnt64
    split <;> omega
  · unfold end64
    rw [if_neg (by omega)]
theorem sumL_more (zs : List Int) (k : Nat) (h : 64 < zs.length - k * 64) : sumL zs (k + 1) = blockF (sumL zs k) (blk64 zs k) (((k : Int)) * 64 + 64) false := by
  rw [sumL, (cnt_more h).1, (cnt_more h).2]
  congr 1
  omega
theorem sumL_last (zs : List Int) (k : Nat) (h1 : k * 64 ≤ zs.length) (h2 : k = 0 ∨ k * 64 < zs.length) (h3 : zs.length - k * 64 ≤ 64) : sumL zs (k + 1) = blockF (sumL zs k) (blk64 zs k) (zs.length : Int) true ∧ sumF zs = digestF (sumL zs (k + 1)) := by
  have hc := cnt_last h1 h2 h3
  have he : end64 zs.length k = zs.length := by
    unfold end64
    split <;> omega
  constructor
  · rw [sumL, he, hc]
    simp
  · unfold sumF
    rw [hc]
theorem blk64_full (zs : List Int) (k : Nat) (h : 64 < zs.length - k * 64) : blk64 zs k = (zs.drop (k * 64)).take 64 := by
  unfold blk64
  have : ((zs.drop (k * 64)).take 64).length = 64 := by rw [List.length_take, List.length_drop]; omega
  rw [this]
  simp

end Go.Proofs.YtbemnolgolecaaaDoor
