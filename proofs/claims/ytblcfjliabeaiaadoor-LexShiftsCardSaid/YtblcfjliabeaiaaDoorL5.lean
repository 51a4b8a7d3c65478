/-
  Words that are kept: the program's isKey and Key; how many bytes a sign has.
-/
import Derived.Test.YtblcfjliabeaiaaDoorL4
import Derived.WalkSmall
import Derived.Lib.LaidTab
namespace Go.Proofs.YtblcfjliabeaiaaDoor
open Go.RowKit Go.Shelf

/-- The words that are kept. -/
def keptL : List (List UInt8) := [[67, 82, 69, 65, 84, 69], [84, 65, 66, 76, 69], [68, 82, 79, 80], [73, 78, 83, 69, 82, 84], [73, 78, 84, 79], [86, 65, 76, 85, 69, 83], [85, 80, 68, 65, 84, 69], [83, 69, 84], [68, 69, 76, 69, 84, 69], [70, 82, 79, 77], [83, 69, 76, 69, 67, 84], [87, 72, 69, 82, 69], [73, 78, 78, 69, 82], [74, 79, 73, 78], [79, 78], [79, 82, 68, 69, 82], [66, 89], [65, 83, 67], [68, 69, 83, 67], [76, 73, 77, 73, 84], [71, 82, 79, 85, 80], [67, 79, 85, 78, 84], [83, 85, 77], [65, 78, 68], [79, 82], [78, 79, 84], [78, 85, 76, 76], [84, 82, 85, 69], [70, 65, 76, 83, 69], [73, 83], [73, 78, 84], [66, 79, 79, 76], [84, 69, 88, 84], [80, 82, 73, 77, 65, 82, 89], [75, 69, 89]]
def isKeyF (l k : List UInt8) : Bool := decide (l.map (fun b => capB (b.toNat : Int)) = k.map (fun b => (b.toNat : Int)))
def keyF (l : List UInt8) : Option (List UInt8) := keptL.find? (isKeyF l)
theorem isKeyF_len {l k : List UInt8} (h : l.length ≠ k.length) : isKeyF l k = false := by
  unfold isKeyF
  refine decide_eq_false fun e => h ?_
  have := congrArg List.length e
  simpa using this
theorem isKeyF_yes {l k : List UInt8} (h : l.length = k.length) (ha : ∀ j, j < k.length → capB (bt l j) = bt k j) : isKeyF l k = true := by
  unfold isKeyF
  refine decide_eq_true (List.ext_getElem (by simpa using h) fun j h1 h2 => ?_)
  rw [List.length_map] at h1 h2
  have := ha j h2
  simp only [List.getElem_map]
  simpa [bt, List.getD, h1, h2] using this
theorem isKeyF_no {l k : List UInt8} {j : Nat} (h : l.length = k.length) (hj : j < k.length) (ha : capB (bt l j) ≠ bt k j) : isKeyF l k = false := by
  unfold isKeyF
  refine decide_eq_false fun e => ha ?_
  have := congrArg (fun x => x[j]?) e
  simp only [List.getElem?_map, List.getElem?_eq_getElem hj, List.getElem?_eq_getElem (h ▸ hj : j < l.length), Option.map_some, Option.some.injEq] at this
  simpa [bt, List.getD, hj, (h ▸ hj : j < l.length)] using this

set_option maxRecDepth 100000 in
set_option maxHeartbeats 4000000 in
theorem isKey_any (l k : List UInt8) (hl : l.length ≤ 1000000) (hk : k.length ≤ 1000000) (w : World) :
    Calls Tryd.prog 37 #[tx l, tx k] w fun e w' => e = .returned (.bool (isKeyF l k)) ∧ Below w.heap.size w w' := by
  by_cases hlen : l.length = k.length
  · have Y := Lib.hid (isKeyF_yes hlen)
    have N := Lib.hid (fun j hj => isKeyF_no (j := j) hlen hj)
    generalize isKeyF l k = R at *
    have hn : ((l.length : Int) != (k.length : Int)) = false := by rw [hlen]; simp
    go_enter Tryd.func37, Tryd.ntmps37
    go_wp2
    go_loopw [13] (fun iv wr => ∃ i : Nat, i ≤ k.length ∧ iv = .int .i64 (i : Int) ∧ Hid (∀ j, j < i → capB (bt l j) = bt k j) ∧ Below w.heap.size w wr) (fun iv _ => k.length - (intOf iv).toNat)
    case atStart => exact ⟨0, Nat.zero_le _, rfl, Lib.hid (fun j hj => absurd hj (by omega)), Below.refl _ _⟩
    case round =>
      obtain ⟨i, hi, rfl, HA, HB⟩ := hrel
      by_cases hlt : i < k.length
      · have h1 : i < l.length := by omega
        have i0 : (0 : Int) ≤ (i : Int) := by omega
        have i1 : (i : Int) < (l.length : Int) := by omega
        have i2 : (i : Int) < (k.length : Int) := by omega
        have e1 := bt_of h1
        have e2 := bt_of hlt
        have C := Lib.hid (capital_any ((((⟨l.toArray⟩ : ByteArray)[i]'(by simpa [ByteArray.size] using h1)).toNat : Nat) : Int) (by omega) (by rw [e1]; exact bt1 l i))
        rw [e1] at C
        have B1 := Lib.hid HB.drew
        by_cases hq : capB (bt l i) = bt k i
        · have q1 : (capB (((⟨l.toArray⟩ : ByteArray)[i]'(by simpa [ByteArray.size] using h1)).toNat : Int) != (((⟨k.toArray⟩ : ByteArray)[i]'(by simpa [ByteArray.size] using hlt)).toNat : Int)) = false := by rw [e1, e2, hq]; simp
          rw [← e1] at C
          clear e1 e2
          go_upto_region 6 with fail
          refine wp_region_noPanic ?_
          refine wp_region_held_drew (S := fun w' => True) (by kernel_rfl) trivial (fun hHeld => ?_)
          refine take_d (i := 0) (d := 16) (v := ?v16) rfl rfl (by kernel_rfl) (by kernel_rfl) (by kernel_rfl) (fun _ _ _ h => h) (Or.inl ⟨by kernel_rfl, ?v16h⟩) hHeld ?v16n
          case v16h => (intro w hSw; (try dsimp only at hSw); go_split_ands; go_simp; (try exact rfl))
          try simp only [Act.put, List.setIfInBounds_toArray, List.set_cons_zero, List.set_cons_succ]
          refine take_d (i := 1) (d := 17) (v := ?v17) rfl rfl (by kernel_rfl) (by kernel_rfl) (by kernel_rfl) (fun _ _ _ h => h) (Or.inl ⟨by kernel_rfl, ?v17h⟩) hHeld ?v17n
          case v17h => (intro w hSw; (try dsimp only at hSw); go_split_ands; go_simp; (try exact rfl))
          try simp only [Act.put, List.setIfInBounds_toArray, List.set_cons_zero, List.set_cons_succ]
          refine take_d (i := 2) (d := 18) (v := ?v18) rfl rfl (by kernel_rfl) (by kernel_rfl) (by kernel_rfl) (fun _ _ _ h => h) (Or.inl ⟨by kernel_rfl, ?v18h⟩) hHeld ?v18n
          case v18h => (intro w hSw; (try dsimp only at hSw); go_split_ands; go_simp; (try exact rfl))
          try simp only [Act.put, List.setIfInBounds_toArray, List.set_cons_zero, List.set_cons_succ]
          refine take_d (i := 4) (d := 20) (v := ?v20) rfl rfl (by kernel_rfl) (by kernel_rfl) (by kernel_rfl) (fun _ _ _ h => h) (Or.inl ⟨by kernel_rfl, ?v20h⟩) hHeld ?v20n
          case v20h => (intro w hSw; (try dsimp only at hSw); go_split_ands; go_simp; (try exact rfl))
          try simp only [Act.put, List.setIfInBounds_toArray, List.set_cons_zero, List.set_cons_succ]
          refine take_d (i := 5) (d := 21) (v := ?v21) rfl rfl (by kernel_rfl) (by kernel_rfl) (by kernel_rfl) (fun _ _ _ h => h) (Or.inl ⟨by kernel_rfl, ?v21h⟩) hHeld ?v21n
          case v21h => (intro w hSw; (try dsimp only at hSw); go_split_ands; go_simp; (try exact rfl))
          try simp only [Act.put, List.setIfInBounds_toArray, List.set_cons_zero, List.set_cons_succ]
          refine take_d (i := 6) (d := 22) (v := ?v22) rfl rfl (by kernel_rfl) (by kernel_rfl) (by kernel_rfl) (fun _ _ _ h => h) (Or.inl ⟨by kernel_rfl, ?v22h⟩) hHeld ?v22n
          case v22h => (intro w hSw; (try dsimp only at hSw); go_split_ands; go_simp; (try exact rfl))
          try simp only [Act.put, List.setIfInBounds_toArray, List.set_cons_zero, List.set_cons_succ]
          refine wpAnyH_ready (rs := [3]) (by kernel_rfl) (by simp) ?_
          refine AllReadyH.cons rfl (fun K hK => ?_) AllReadyH.nil
          go_simp
          refine (C.out _).mono ?_
          rintro e v1 ⟨rfl, rfl⟩
          refine hK.out _ _ (trivial) (fun hHeld => ?_)
          clear hK K
          try simp only [Act.put, List.setIfInBounds_toArray, List.set_cons_zero, List.set_cons_succ]
          refine take_d (i := 7) (d := 23) (v := ?v23) rfl rfl (by kernel_rfl) (by kernel_rfl) (by kernel_rfl) (fun _ _ _ h => h) (Or.inl ⟨by kernel_rfl, ?v23h⟩) hHeld ?v23n
          case v23h => (intro w hSw; (try dsimp only at hSw); go_split_ands; go_simp; (try exact rfl))
          try simp only [Act.put, List.setIfInBounds_toArray, List.set_cons_zero, List.set_cons_succ]
          refine wpAnyH_done (by kernel_rfl) ?_ _
          refine NoPanic.normal ?_
          go_wp2_with fail
          go_roundw
          case rel => exact ⟨i + 1, by omega, by go_num, Lib.hid (fun j hj => by
            by_cases hji : j = i
            · subst hji; exact hq
            · exact HA.out j (by omega)), B1.out⟩
          case measure => simp [intOf]; omega
        · have q1 : (capB (((⟨l.toArray⟩ : ByteArray)[i]'(by simpa [ByteArray.size] using h1)).toNat : Int) != (((⟨k.toArray⟩ : ByteArray)[i]'(by simpa [ByteArray.size] using hlt)).toNat : Int)) = true := by rw [e1, e2]; simpa using hq
          rw [← e1] at C
          have hR := N.out i hlt hq
          clear e1 e2
          go_upto_region 6 with fail
          refine wp_region_noPanic ?_
          refine wp_region_held_drew (S := fun w' => True) (by kernel_rfl) trivial (fun hHeld => ?_)
          refine take_d (i := 0) (d := 16) (v := ?u16) rfl rfl (by kernel_rfl) (by kernel_rfl) (by kernel_rfl) (fun _ _ _ h => h) (Or.inl ⟨by kernel_rfl, ?u16h⟩) hHeld ?u16n
          case u16h => (intro w hSw; (try dsimp only at hSw); go_split_ands; go_simp; (try exact rfl))
          try simp only [Act.put, List.setIfInBounds_toArray, List.set_cons_zero, List.set_cons_succ]
          refine take_d (i := 1) (d := 17) (v := ?u17) rfl rfl (by kernel_rfl) (by kernel_rfl) (by kernel_rfl) (fun _ _ _ h => h) (Or.inl ⟨by kernel_rfl, ?u17h⟩) hHeld ?u17n
          case u17h => (intro w hSw; (try dsimp only at hSw); go_split_ands; go_simp; (try exact rfl))
          try simp only [Act.put, List.setIfInBounds_toArray, List.set_cons_zero, List.set_cons_succ]
          refine take_d (i := 2) (d := 18) (v := ?u18) rfl rfl (by kernel_rfl) (by kernel_rfl) (by kernel_rfl) (fun _ _ _ h => h) (Or.inl ⟨by kernel_rfl, ?u18h⟩) hHeld ?u18n
          case u18h => (intro w hSw; (try dsimp only at hSw); go_split_ands; go_simp; (try exact rfl))
          try simp only [Act.put, List.setIfInBounds_toArray, List.set_cons_zero, List.set_cons_succ]
          refine take_d (i := 4) (d := 20) (v := ?u20) rfl rfl (by kernel_rfl) (by kernel_rfl) (by kernel_rfl) (fun _ _ _ h => h) (Or.inl ⟨by kernel_rfl, ?u20h⟩) hHeld ?u20n
          case u20h => (intro w hSw; (try dsimp only at hSw); go_split_ands; go_simp; (try exact rfl))
          try simp only [Act.put, List.setIfInBounds_toArray, List.set_cons_zero, List.set_cons_succ]
          refine take_d (i := 5) (d := 21) (v := ?u21) rfl rfl (by kernel_rfl) (by kernel_rfl) (by kernel_rfl) (fun _ _ _ h => h) (Or.inl ⟨by kernel_rfl, ?u21h⟩) hHeld ?u21n
          case u21h => (intro w hSw; (try dsimp only at hSw); go_split_ands; go_simp; (try exact rfl))
          try simp only [Act.put, List.setIfInBounds_toArray, List.set_cons_zero, List.set_cons_succ]
          refine take_d (i := 6) (d := 22) (v := ?u22) rfl rfl (by kernel_rfl) (by kernel_rfl) (by kernel_rfl) (fun _ _ _ h => h) (Or.inl ⟨by kernel_rfl, ?u22h⟩) hHeld ?u22n
          case u22h => (intro w hSw; (try dsimp only at hSw); go_split_ands; go_simp; (try exact rfl))
          try simp only [Act.put, List.setIfInBounds_toArray, List.set_cons_zero, List.set_cons_succ]
          refine wpAnyH_ready (rs := [3]) (by kernel_rfl) (by simp) ?_
          refine AllReadyH.cons rfl (fun K hK => ?_) AllReadyH.nil
          go_simp
          refine (C.out _).mono ?_
          rintro e v1 ⟨rfl, rfl⟩
          refine hK.out _ _ (trivial) (fun hHeld => ?_)
          clear hK K
          try simp only [Act.put, List.setIfInBounds_toArray, List.set_cons_zero, List.set_cons_succ]
          refine take_d (i := 7) (d := 23) (v := ?u23) rfl rfl (by kernel_rfl) (by kernel_rfl) (by kernel_rfl) (fun _ _ _ h => h) (Or.inl ⟨by kernel_rfl, ?u23h⟩) hHeld ?u23n
          case u23h => (intro w hSw; (try dsimp only at hSw); go_split_ands; go_simp; (try exact rfl))
          try simp only [Act.put, List.setIfInBounds_toArray, List.set_cons_zero, List.set_cons_succ]
          refine wpAnyH_done (by kernel_rfl) ?_ _
          refine NoPanic.normal ?_
          go_wp2_with fail
          go_ret
          exact ⟨by rw [hR]; rfl, B1.out⟩
      · obtain rfl : i = k.length := by omega
        have hR := Y.out HA.out
        go_wp2_with fail
        go_ret
        exact ⟨by rw [hR]; rfl, HB⟩
  · rw [isKeyF_len hlen]
    have hn : ((l.length : Int) != (k.length : Int)) = true := by simp; omega
    go_enter Tryd.func37, Tryd.ntmps37
    go_wp2
    go_ret
    exact ⟨rfl, Below.refl _ _⟩

/-- What the listed variables hold. -/
structure Gl (w : World) : Prop where
  kept : ∀ i, i < 35 → w.cell? ⟨0, i, none⟩ = some (tx (keptL.getD i []))
  rng : ∃ tp p, w.var? Tryd.prog "strconv.ErrRange" = some #[.iface tp p]
  tab : Lib.TabIs Tryd.prog w "internal/strconv.uint64pow10" .u64 Lib.pow10Tab
  lt : 7 ≤ w.heap.size
theorem Gl.below {w w' : World} (h : Gl w) {B : Nat} (hb : Below B w w') (h1 : 7 ≤ B) : Gl w' :=
  ⟨fun i hi => by rw [← h.kept i hi]; simp only [World.cell?, hb.block 0 (by omega)],
   by obtain ⟨tp, p, hv⟩ := h.rng; exact ⟨tp, p, var?_below (g := 6) hb (by kernel_rfl) (by omega) hv⟩,
   var?_below (g := 2) hb (by kernel_rfl) (by omega) h.tab, Nat.le_trans h.lt (by have := hb.size; omega)⟩
theorem Gl.on {w w' : World} (h : Gl w) (hb : Below w.heap.size w w') : Gl w' := h.below hb h.lt
theorem keptL_len : ∀ i : Fin 35, (keptL.getD i.val []).length ≤ 7 := by decide +kernel
end Go.Proofs.YtblcfjliabeaiaaDoor
