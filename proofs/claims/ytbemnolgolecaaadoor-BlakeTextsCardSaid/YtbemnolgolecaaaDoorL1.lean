/-
  The document's Less.
-/
import Derived.Test.YtbemnolgolecaaaDoorM1
import Derived.Test.YtbemnolgolecaaaDoorB4
namespace Go.Proofs.YtbemnolgolecaaaDoor
open Go.RowKit
attribute [local go_sem ↓] Tryd.z42 Tryd.z70 Tryd.z27 Tryd.z45 Tryd.z37 Tryd.z38

theorem u8_lt {x y : Int} (hx : 0 ≤ x ∧ x ≤ 255) (hy : 0 ≤ y ∧ y ≤ 255) : (UInt8.ofNat x.toNat < UInt8.ofNat y.toNat) ↔ x < y := by
  rw [UInt8.lt_iff_toNat_lt, UInt8.toNat_ofNat', UInt8.toNat_ofNat']
  omega
theorem cmp_ne : ∀ (k : Nat) (a b : List Int), Bs a → Bs b → k < a.length → k < b.length → (∀ i, i < k → a.getD i 0 = b.getD i 0) → a.getD k 0 ≠ b.getD k 0 → (cmpL a b < 0 ↔ a.getD k 0 < b.getD k 0)
  | _, [], _, _, _, ha, _, _, _ => absurd ha (by simp)
  | _, _ :: _, [], _, _, _, hb, _, _ => absurd hb (by simp)
  | 0, x :: u, y :: v, h1, h2, _, _, _, hn => by
    have hx : 0 ≤ x ∧ x ≤ 255 := h1 0
    have hy : 0 ≤ y ∧ y ≤ 255 := h2 0
    have hn' : x ≠ y := hn
    show Lib.compareBytes (UInt8.ofNat x.toNat :: Lib.bytesOf u) (UInt8.ofNat y.toNat :: Lib.bytesOf v) < 0 ↔ x < y
    unfold Lib.compareBytes
    simp only [u8_lt hx hy, u8_lt hy hx]
    by_cases h : x < y
    · simp [h]
    · have : y < x := by omega
      simp [h, this]
  | k + 1, x :: u, y :: v, h1, h2, ha, hb, he, hn => by
    have hx : 0 ≤ x ∧ x ≤ 255 := h1 0
    have hy : 0 ≤ y ∧ y ≤ 255 := h2 0
    have exy : x = y := he 0 (by omega)
    subst exy
    have ih := cmp_ne k u v (fun j => h1 (j + 1)) (fun j => h2 (j + 1)) (by simpa using ha) (by simpa using hb) (fun i hi => he (i + 1) (by omega)) hn
    show Lib.compareBytes (UInt8.ofNat x.toNat :: Lib.bytesOf u) (UInt8.ofNat x.toNat :: Lib.bytesOf v) < 0 ↔ u.getD k 0 < v.getD k 0
    unfold Lib.compareBytes
    simp only [u8_lt hx hx]
    simp only [Int.lt_irrefl, if_false]
    exact ih
theorem cmp_self : ∀ (l : List UInt8), Lib.compareBytes l l = 0
  | [] => rfl
  | x :: l => by
    unfold Lib.compareBytes
    simp only [UInt8.lt_irrefl, if_false]
    exact cmp_self l

set_option maxRecDepth 100000 in
set_option maxHeartbeats 1000000 in
theorem refless_any (a b : List Int) (ha : a.length = 32) (hb : b.length = 32) (ba : Bs a) (bb : Bs b) (w : World) :
    Calls Tryd.prog 27 #[.agg (BL a).toArray, .agg (BL b).toArray] w fun e w' => e = .returned (.bool (decide (cmpL a b < 0))) ∧ Below w.heap.size w w' := by
  have A0 : Hid (Blk ((w.alloc (.cells (BL a).toArray 27)).alloc (.cells (BL b).toArray 27)) w.heap.size 27 (BL a).toArray) := (Blk.new w 27 _).alloc _
  have B0 : Hid (Blk ((w.alloc (.cells (BL a).toArray 27)).alloc (.cells (BL b).toArray 27)) (w.heap.size + 1) 27 (BL b).toArray) := Blk.new' _ 27 _ (by simp)
  have W0 : Hid (Below w.heap.size w ((w.alloc (.cells (BL a).toArray 27)).alloc (.cells (BL b).toArray 27))) := ((Below.refl _ w).alloc (Nat.le_refl _) _).alloc (by simp) _
  have LA := Lib.hid ha
  have LB := Lib.hid hb
  have SA := Lib.hid ba
  have SB := Lib.hid bb
  clear ha hb ba bb
  go_enter Tryd.func27, Tryd.ntmps27
  go_wp2_with fail
  generalize (w.alloc (.cells (BL a).toArray 27)).alloc (.cells (BL b).toArray 27) = W1 at *
  go_loopw [6] (fun i wr => ∃ k : Nat, k ≤ 32 ∧ i = .int .i64 k ∧ (∀ i, i < k → a.getD i 0 = b.getD i 0) ∧ Blk wr w.heap.size 27 (BL a).toArray ∧ Blk wr (w.heap.size + 1) 27 (BL b).toArray ∧ Below w.heap.size w wr) (fun i _ => 32 - (intOf i).toNat)
  case atStart => exact ⟨0, Nat.zero_le _, rfl, fun i hi => absurd hi (by omega), A0.out, B0.out, W0.out⟩
  case round =>
    obtain ⟨k, hk, rfl, he, h1, h2, h3⟩ := hrel
    have HE := Lib.hid he
    have H1 := Lib.hid h1
    have H2 := Lib.hid h2
    have H3 := Lib.hid h3
    clear A0 B0 W0 he h1 h2 h3
    by_cases hlt : k < 32
    · have c0 : wr.cell? ⟨w.heap.size, k, none⟩ = some (.int .u8 (a.getD k 0)) := by rw [H1.out.cell, List.getElem?_toArray]; exact BL.get a k (by rw [LA.out]; exact hlt)
      have c1 : wr.cell? ⟨w.heap.size + 1, k, none⟩ = some (.int .u8 (b.getD k 0)) := by rw [H2.out.cell, List.getElem?_toArray]; exact BL.get b k (by rw [LB.out]; exact hlt)
      have CN := Lib.hid (cmp_ne k a b SA.out SB.out (by rw [LA.out]; exact hlt) (by rw [LB.out]; exact hlt) HE.out)
      have HS : Hid (a.getD k 0 = b.getD k 0 → ∀ i, i < k + 1 → a.getD i 0 = b.getD i 0) := fun e i hi => by
        by_cases h : i < k
        · exact HE.out i h
        · obtain rfl : i = k := by omega
          exact e
      generalize a.getD k 0 = x at *
      generalize b.getD k 0 = y at *
      have k0 : (0 : Int) ≤ k := by omega
      by_cases hxy : x = y
      · have HS1 := Lib.hid (HS.out hxy)
        subst hxy
        clear CN HS HE
        go_wp2_with fail
        go_quiet (fail)
        go_wp2_with fail
        exact ⟨⟨k + 1, by omega, by go_num, HS1.out, H1.out, H2.out, H3.out.trans ⟨rfl, rfl, rfl, Nat.le_refl _, fun _ _ => rfl⟩⟩, by simp [intOf]; omega⟩
      · have hne : (x != y) = true := by simp [hxy]
        have CD : Hid (decide (cmpL a b < 0) = decide (x < y)) := show _ = _ by rw [decide_eq_decide]; exact CN.out hxy
        clear CN HS HE hxy
        go_wp2_with fail
        go_quiet (fail)
        go_wp2_with fail
        go_quiet (fail)
        go_wp2_with fail
        go_ret
        exact ⟨congrArg (fun b => Ending.returned (Value.bool b)) CD.out.symm, H3.out.trans ⟨rfl, rfl, rfl, Nat.le_refl _, fun _ _ => rfl⟩⟩
    · obtain rfl : k = 32 := by omega
      have hab : a = b := by
        apply List.ext_getElem
        · rw [LA.out, LB.out]
        · intro i h1 h2
          have := HE.out i (by have := LA.out; omega)
          simpa [List.getD, h1, h2] using this
      have CD : Hid (decide (cmpL a b < 0) = false) := show _ = _ by
        subst hab
        unfold cmpL
        rw [cmp_self]
        rfl
      clear hab
      go_wp2_with fail
      go_ret
      exact ⟨congrArg (fun b => Ending.returned (Value.bool b)) CD.out.symm, H3.out⟩

end Go.Proofs.YtbemnolgolecaaaDoor
