/-
  Several texts in one: L4, L5, L6.
-/
import Derived.Test.YtiipglmbfgmbbaaGreatDoorPkB
import Derived.Test.YtiipglmbfgmbbaaGreatDoorShelf
import Derived.WalkSmall
import Derived.Lib.LaidTab
namespace Go.Proofs.YtiipglmbfgmbbaaGreatDoor
open Go.RowKit Go.Shelf
attribute [local go_sem] Oper.semAt_some

def blkB (b : Int) : Bool := b == 9 || b == 10 || b == 13 || b == 32
/-- How many bytes of blanks and remarks a text begins with; within a remark, or not. -/
def blkN : Bool → List UInt8 → Nat
  | _, [] => 0
  | true, b :: r => blkN ((b.toNat : Int) != 10) r + 1
  | false, b :: r => if Lib.hasPrefix (b :: r) [45, 45] = true then blkN true r + 1 else if blkB (b.toNat : Int) = true then blkN false r + 1 else 0
def blkE (l : List UInt8) (p : Nat) : Nat := p + blkN false (l.drop p)
theorem blkN_le : ∀ (rm : Bool) (l : List UInt8), blkN rm l ≤ l.length
  | _, [] => by simp [blkN]
  | true, b :: r => by have := blkN_le ((b.toNat : Int) != 10) r; simp [blkN]; omega
  | false, b :: r => by
    have h1 := blkN_le true r
    have h2 := blkN_le false r
    simp only [blkN, List.length_cons]
    split
    · omega
    · split <;> omega
theorem blkE_le {l : List UInt8} {p : Nat} (h : p ≤ l.length) : p ≤ blkE l p ∧ blkE l p ≤ l.length := by
  have := blkN_le false (l.drop p)
  rw [List.length_drop] at this
  unfold blkE
  omega
theorem drop_at {l : List UInt8} {i : Nat} (h : i < l.length) : ∃ b r, l.drop i = b :: r ∧ l.drop (i + 1) = r ∧ (b.toNat : Int) = bt l i := by
  refine ⟨l[i], l.drop (i + 1), (List.drop_eq_getElem_cons h), rfl, ?_⟩
  simp [bt, List.getD, h]
theorem ext_list (l : List UInt8) (i : Nat) : ((⟨l.toArray⟩ : ByteArray).extract i l.length).data.toList = l.drop i := by
  simp [ByteArray.data_extract]
  exact List.take_of_length_le (by simp)

set_option maxRecDepth 100000 in
set_option maxHeartbeats 4000000 in
theorem blanks_any (l : List UInt8) (p : Nat) (hl : l.length ≤ 1000000) (hp : p ≤ l.length) (w : World) :
    Calls Tryz.prog 60 #[tx l, .int .i64 (p : Int)] w fun e w' => e = .returned (.int .i64 (blkE l p : Nat)) ∧ Below w.heap.size w w' := by
  have HS : Hid (blkE l p = p + blkN false (l.drop p)) := Lib.hid rfl
  generalize blkE l p = R at *
  refine (callsIn_wide (n := 9)).1 ?_
  refine callsIn_of_wp_marks Tryz.func60 rfl trivial ?_ rfl
  simp only [Tryz.ntmps60, List.size_toArray, List.length_cons, List.length_nil, Nat.reduceAdd, Nat.reduceSub, Array.replicate_succ, Array.replicate_zero, List.push_toArray, List.append_toArray, List.nil_append, List.cons_append]
  gi_wp2_with (refine ⟨trivial, ?_⟩; gi_at_call 88; refine (callsIn_wide.2 (from_any _ _ _)).mono ?_; rintro e w' ⟨rfl, rfl⟩)
  obtain ⟨g, hg⟩ : ∃ g, w.heap.size = g := ⟨_, rfl⟩
  obtain ⟨W0, hW0⟩ : ∃ W0, (((((w.alloc (.cells #[tx l] 9)).alloc (.cells #[.int .i64 0] 3)).alloc (.cells #[.bool false] 4)).alloc (.cells #[tx l] 9)).alloc (.cells #[.int .i64 (p : Int)] 3)) = W0 := ⟨_, rfl⟩
  have b0 : Blk W0 g 9 #[tx l] := by rw [← hW0, ← hg]; exact ((((Blk.new _ _ _).alloc _).alloc _).alloc _).alloc _
  have b1 : Blk W0 (g + 1) 3 #[.int .i64 0] := by rw [← hW0, ← hg]; exact (((Blk.fresh (by simp)).alloc _).alloc _).alloc _
  have b2 : Blk W0 (g + 2) 4 #[.bool false] := by rw [← hW0, ← hg]; exact ((Blk.fresh (by simp)).alloc _).alloc _
  have b3 : Blk W0 (g + 3) 9 #[tx l] := by rw [← hW0, ← hg]; exact (Blk.fresh (by simp)).alloc _
  have b4 : Blk W0 (g + 3 + 1) 3 #[.int .i64 (p : Int)] := by rw [← hW0, ← hg]; exact Blk.fresh (by simp)
  have hb0 : Below g w W0 := by rw [← hW0, ← hg]; exact (((((Below.refl _ _).alloc (Nat.le_refl _) _).alloc (by simp) _).alloc (by simp; omega) _).alloc (by simp; omega) _).alloc (by simp; omega) _
  have hs0 : W0.heap.size = g + 5 := by rw [← hW0, ← hg]; simp
  rw [hW0]
  rw [hg]
  clear hW0
  refine wpIn_rangeFunc_mem rfl (by omega) (gf := 124) (lb := #[.pointer (some ⟨g + 3 + 1, 0, none⟩), .pointer (some ⟨g + 3, 0, none⟩)]) rfl trivial (enters_of Tryz.func124 (by kernel_rfl) rfl)
    (from1_mem 8 (by omega) l p hl (by omega) g (g + 3) W0 (by omega) b3 b4) (by omega) (by omega) (fun _ => rfl)
    (fun k W => ∃ rm, Hid (blkN false (l.drop p) = k + blkN rm (l.drop (p + k))) ∧ Blk W g 9 #[tx l] ∧ Blk W (g + 1) 3 #[.int .i64 0] ∧ Blk W (g + 2) 4 #[.bool rm] ∧ Below g w W)
    (fun c k W => c = .ret ∧ Hid (blkN false (l.drop p) = k) ∧ Blk W (g + 1) 3 #[.int .i64 ((p + k : Nat) : Int)] ∧ Below g w W)
    (fun k X Y hs hb => by
      obtain ⟨rm, h0, h1, h2, h3, h4⟩ := hs
      exact ⟨rm, h0, h1.below hb (by omega), h2.below hb (by omega), h3.below hb (by omega), h4.trans (hb.mono (by omega))⟩)
    (fun _ _ _ _ hs hb => ⟨hs.1, hs.2.1, hs.2.2.1.below hb (by omega), hs.2.2.2.trans (hb.mono (by omega))⟩) ⟨false, Lib.hid (by simp), b0, b1, b2, hb0⟩
    (fun k a _ => a = { tmps := #[tx l, .int .i64 (p : Int), .pointer (some ⟨g, 0, none⟩), undef, .pointer (some ⟨g + 1, 0, none⟩), .pointer (some ⟨g + 1 + 1, 0, none⟩), .int .i64 ((p + k : Nat) : Int), .int .u8 (bt l (p + k)), tx l, .int .i64 (p : Int), .func (.func 124) #[] #[.pointer (some ⟨g + 1 + 1 + 1 + 1, 0, none⟩), .pointer (some ⟨g + 1 + 1 + 1, 0, none⟩)], .int .i64 ((p + k : Nat) : Int), .int .u8 (bt l (p + k)), undef, undef, undef, undef, undef, undef, undef, undef, undef, undef, undef, undef, undef, undef, undef, undef, undef, undef, undef, undef, undef, undef, undef, undef, undef, undef, undef], defers := [] })
    (fun k a X r o o' hs hr ho => hs) ?assign ?body ?done ?stop
  case assign =>
    intro lb k W hI hsz hk
    simp only [byE]
    gi_wp2
    exact ⟨Fixed.refl _ _ _, hI, rfl⟩
  case body =>
    rintro lb k a1 W ⟨rm, i0, i1, i2, i3, i4⟩ rfl hsz hk
    have e0 : W.cell? ⟨g, 0, none⟩ = some (.string ⟨l.toArray⟩) := i1.cell 0
    have e1 : W.cell? ⟨g + 1, 0, none⟩ = some (.int .i64 0) := i2.cell 0
    have f1 : W.frozen? ⟨g + 1, 0, none⟩ = false := i2.frozen 0
    have e2 : W.cell? ⟨g + 1 + 1, 0, none⟩ = some (.bool rm) := i3.cell 0
    have f2 : W.frozen? ⟨g + 1 + 1, 0, none⟩ = false := i3.frozen 0
    obtain ⟨b, r, hd, hd1, hb⟩ := drop_at (l := l) (i := p + k) (by omega)
    have HP := Lib.hid (fun W' => Tryz.strings_HasPrefix ((⟨l.toArray⟩ : ByteArray).extract (p + k) l.length) ⟨#[45, 45]⟩ W')
    rw [ext_list, hd] at HP
    rw [hd] at i0
    have q0 : (0 : Int) ≤ ((p + k : Nat) : Int) := by omega
    have q1 : ((p + k : Nat) : Int) ≤ (l.length : Int) := by omega
    have fr : ∀ v, Fixed g (g + 3) W (W.setCell ⟨g + 2, 0, none⟩ v) := fun v => ⟨(Below.refl _ _).setCell (p := ⟨g + 2, 0, none⟩) (by simp) _, fun j hj _ => Below.heap_setCell _ _ _ _ (by simp; omega)⟩
    have fr1 : ∀ v, Fixed g (g + 3) W (W.setCell ⟨g + 1, 0, none⟩ v) := fun v => ⟨(Below.refl _ _).setCell (p := ⟨g + 1, 0, none⟩) (by simp) _, fun j hj _ => Below.heap_setCell _ _ _ _ (by simp; omega)⟩
    have hpk : p + (k + 1) = p + k + 1 := by omega
    rw [← hb]
    cases rm with
    | true =>
      have st : Hid (blkN false (l.drop p) = k + 1 + blkN ((b.toNat : Int) != 10) (l.drop (p + (k + 1)))) := Lib.hid (by rw [i0.out, hpk, hd1]; simp only [blkN]; omega)
      clear i0 HP hd hb
      gi_wp2
      exact ⟨fr _, _, st, i1.far (by simp <;> omega) _, i2.far (by simp <;> omega) _, i3.set_ 0 _, i4.setCell (p := ⟨g + 2, 0, none⟩) (by simp) _⟩
    | false =>
      cases hh : Lib.hasPrefix (b :: r) [45, 45] with
      | true =>
        have st : Hid (blkN false (l.drop p) = k + 1 + blkN true (l.drop (p + (k + 1)))) := Lib.hid (by rw [i0.out, hpk, hd1]; simp only [blkN, hh, if_true]; omega)
        have HP2 : Hid (∀ W', Calls Tryz.prog 89 #[.string ((⟨l.toArray⟩ : ByteArray).extract (p + k) l.length), .string ⟨#[45, 45]⟩] W' fun e w' => e = .returned (.bool true) ∧ w' = W') := Lib.hid (fun W' => by have := HP.out W'; rw [show Lib.hasPrefix (b :: r) (⟨#[45, 45]⟩ : ByteArray).data.toList = true from hh] at this; exact this)
        clear i0 HP hd hb
        gi_wp2_with (refine ⟨trivial, ?_⟩; gi_at_call 89; refine (callsIn_wide.2 (HP2.out _)).mono ?_; rintro e w' ⟨rfl, rfl⟩)
        exact ⟨fr _, true, st, i1.far (by simp <;> omega) _, i2.far (by simp <;> omega) _, i3.set_ 0 _, i4.setCell (p := ⟨g + 2, 0, none⟩) (by simp) _⟩
      | false =>
        have HP2 : Hid (∀ W', Calls Tryz.prog 89 #[.string ((⟨l.toArray⟩ : ByteArray).extract (p + k) l.length), .string ⟨#[45, 45]⟩] W' fun e w' => e = .returned (.bool false) ∧ w' = W') := Lib.hid (fun W' => by have := HP.out W'; rw [show Lib.hasPrefix (b :: r) (⟨#[45, 45]⟩ : ByteArray).data.toList = false from hh] at this; exact this)
        cases hk2 : blkB (b.toNat : Int) with
        | true =>
          have st : Hid (blkN false (l.drop p) = k + 1 + blkN false (l.drop (p + (k + 1)))) := Lib.hid (by rw [i0.out, hpk, hd1]; simp only [blkN, hh, hk2, if_true]; simp; omega)
          unfold blkB at hk2
          have hx : (b.toNat : Int) = 9 ∨ (b.toNat : Int) = 10 ∨ (b.toNat : Int) = 13 ∨ (b.toNat : Int) = 32 := by simpa [or_assoc] using hk2
          clear i0 HP hd hb hk2
          generalize (b.toNat : Int) = z at *
          rcases hx with rfl | rfl | rfl | rfl <;> (
            gi_wp2_with (refine ⟨trivial, ?_⟩; gi_at_call 89; refine (callsIn_wide.2 (HP2.out _)).mono ?_; rintro e w' ⟨rfl, rfl⟩)
            exact ⟨Fixed.refl _ _ _, false, st, i1, i2, i3, i4⟩)
        | false =>
          have st : Hid (blkN false (l.drop p) = k) := Lib.hid (by rw [i0.out]; simp only [blkN, hh, hk2]; simp)
          have z1 : ((b.toNat : Int) != 9) = true ∧ ((b.toNat : Int) != 10) = true ∧ ((b.toNat : Int) != 13) = true ∧ ((b.toNat : Int) != 32) = true := by
            unfold blkB at hk2
            simp only [Bool.or_eq_false_iff] at hk2
            obtain ⟨⟨⟨x1, x2⟩, x3⟩, x4⟩ := hk2
            simp only [bne, x1, x2, x3, x4, Bool.not_false, and_self]
          clear i0 HP hd hb hk2
          generalize (b.toNat : Int) = z at *
          obtain ⟨z1, z2, z3, z4⟩ := z1
          gi_wp2_with (refine ⟨trivial, ?_⟩; gi_at_call 89; refine (callsIn_wide.2 (HP2.out _)).mono ?_; rintro e w' ⟨rfl, rfl⟩)
          exact ⟨fr1 _, rfl, st, i2.set_ 0 _, i4.setCell (p := ⟨g + 1, 0, none⟩) (by simp) _⟩
  case done =>
    rintro D W hD ⟨rm, i0, i1, i2, i3, i4⟩ hK
    have e0 : W.cell? ⟨g, 0, none⟩ = some (.string ⟨l.toArray⟩) := i1.cell 0
    have e1 : W.cell? ⟨g + 1, 0, none⟩ = some (.int .i64 0) := i2.cell 0
    have f1 : W.frozen? ⟨g + 1, 0, none⟩ = false := i2.frozen 0
    have hR : R = l.length := by
      rw [HS.out, i0.out, show l.drop (p + (l.length - p)) = [] by rw [List.drop_eq_nil_iff]; omega]
      simp only [blkN]
      omega
    gi_wp2
    have r1 : Blk (W.setCell ⟨g + 1, 0, none⟩ (.int .i64 (l.length : Int))) (g + 1) 3 #[.int .i64 (l.length : Int)] := i2.set_ 0 _
    have r2 : Below g w (W.setCell ⟨g + 1, 0, none⟩ (.int .i64 (l.length : Int))) := i4.setCell (p := ⟨g + 1, 0, none⟩) (by simp) _
    have r3 : (W.setCell ⟨g + 1, 0, none⟩ (.int .i64 (l.length : Int))).heap[D]? = some (.deferred (some [])) := (Below.heap_setCell _ _ _ _ (by simp; omega)).trans hK
    generalize W.setCell ⟨g + 1, 0, none⟩ (.int .i64 (l.length : Int)) = W5 at *
    refine ⟨by simp, .inl ⟨_, _, rfl, run_takeDeferred r3, ?_⟩⟩
    exact ⟨_, resT rfl _ _ (g + 1) _ rfl rfl (r1.putR r3 rfl _), by rw [hR], by rw [hg]; exact r2.trans (below_shut _ (.deferred none) (by omega))⟩
  case stop =>
    rintro D c k W hD hk ⟨rfl, i0, i2, i3⟩ hK
    have hR : R = p + k := by rw [HS.out, i0.out]
    gi_wp2
    refine ⟨by simp, .inl ⟨_, _, rfl, run_takeDeferred hK, ?_⟩⟩
    exact ⟨_, resT rfl _ _ (g + 1) _ rfl rfl (i2.putR hK rfl _), by rw [hR], by rw [hg]; exact i3.trans (below_shut _ (.deferred none) (by omega))⟩

end Go.Proofs.YtiipglmbfgmbbaaGreatDoor

namespace Go.Proofs.YtiipglmbfgmbbaaGreatDoor
open Go.RowKit Go.Shelf

/-- The words that are kept. -/
def keptL : List (List UInt8) := [[67, 82, 69, 65, 84, 69], [84, 65, 66, 76, 69], [68, 82, 79, 80], [73, 78, 83, 69, 82, 84], [73, 78, 84, 79], [86, 65, 76, 85, 69, 83], [85, 80, 68, 65, 84, 69], [83, 69, 84], [68, 69, 76, 69, 84, 69], [70, 82, 79, 77], [83, 69, 76, 69, 67, 84], [87, 72, 69, 82, 69], [73, 78, 78, 69, 82], [74, 79, 73, 78], [79, 78], [79, 82, 68, 69, 82], [66, 89], [65, 83, 67], [68, 69, 83, 67], [76, 73, 77, 73, 84], [71, 82, 79, 85, 80], [67, 79, 85, 78, 84], [83, 85, 77], [65, 78, 68], [79, 82], [78, 79, 84], [78, 85, 76, 76], [84, 82, 85, 69], [70, 65, 76, 83, 69], [73, 83], [73, 78, 84], [66, 79, 79, 76], [84, 69, 88, 84], [80, 82, 73, 77, 65, 82, 89], [75, 69, 89]]
def isKeyF (l k : List UInt8) : Bool := decide (l.map (fun b => capB (b.toNat : Int)) = k.map (fun b => (b.toNat : Int)))
def keyF (l : List UInt8) : Option (List UInt8) := keptL.find? (isKeyF l)
theorem isKeyF_len {l k : List UInt8} (h : l.length ≠ k.length) : isKeyF l k = false := by
  unfold isKeyF
  refine decide_eq_false fun e => h ?_
  have := congrArg List.length e
  simpa using this
theorem isKeyF_yes {l k : List UInt8} (h : l.length = k.length) (ha : ∀ j, j < k.length → capB (bt l j) = bt k j) : isKeyF l k = true := by
  unfold isKeyF
  refine decide_eq_true (List.ext_getElem (by simpa using h) fun j h1 h2 => ?_)
  rw [List.length_map] at h1 h2
  have := ha j h2
  simp only [List.getElem_map]
  simpa [bt, List.getD, h1, h2] using this
theorem isKeyF_no {l k : List UInt8} {j : Nat} (h : l.length = k.length) (hj : j < k.length) (ha : capB (bt l j) ≠ bt k j) : isKeyF l k = false := by
  unfold isKeyF
  refine decide_eq_false fun e => ha ?_
  have := congrArg (fun x => x[j]?) e
  simp only [List.getElem?_map, List.getElem?_eq_getElem hj, List.getElem?_eq_getElem (h ▸ hj : j < l.length), Option.map_some, Option.some.injEq] at this
  simpa [bt, List.getD, hj, (h ▸ hj : j < l.length)] using this

set_option maxRecDepth 100000 in
set_option maxHeartbeats 4000000 in
theorem isKey_any (l k : List UInt8) (hl : l.length ≤ 1000000) (hk : k.length ≤ 1000000) (w : World) :
    Calls Tryz.prog 131 #[tx l, tx k] w fun e w' => e = .returned (.bool (isKeyF l k)) ∧ Below w.heap.size w w' := by
  by_cases hlen : l.length = k.length
  · have Y := Lib.hid (isKeyF_yes hlen)
    have N := Lib.hid (fun j hj => isKeyF_no (j := j) hlen hj)
    generalize isKeyF l k = R at *
    have hn : ((l.length : Int) != (k.length : Int)) = false := by rw [hlen]; simp
    go_enter Tryz.func131, Tryz.ntmps131
    go_wp2
    go_loopw [13] (fun iv wr => ∃ i : Nat, i ≤ k.length ∧ iv = .int .i64 (i : Int) ∧ Hid (∀ j, j < i → capB (bt l j) = bt k j) ∧ Below w.heap.size w wr) (fun iv _ => k.length - (intOf iv).toNat)
    case atStart => exact ⟨0, Nat.zero_le _, rfl, Lib.hid (fun j hj => absurd hj (by omega)), Below.refl _ _⟩
    case round =>
      obtain ⟨i, hi, rfl, HA, HB⟩ := hrel
      by_cases hlt : i < k.length
      · have h1 : i < l.length := by omega
        have i0 : (0 : Int) ≤ (i : Int) := by omega
        have i1 : (i : Int) < (l.length : Int) := by omega
        have i2 : (i : Int) < (k.length : Int) := by omega
        have e1 := bt_of h1
        have e2 := bt_of hlt
        have C := Lib.hid (capital_any ((((⟨l.toArray⟩ : ByteArray)[i]'(by simpa [ByteArray.size] using h1)).toNat : Nat) : Int) (by omega) (by rw [e1]; exact bt1 l i))
        rw [e1] at C
        have B1 := Lib.hid HB.drew
        by_cases hq : capB (bt l i) = bt k i
        · have q1 : (capB (((⟨l.toArray⟩ : ByteArray)[i]'(by simpa [ByteArray.size] using h1)).toNat : Int) != (((⟨k.toArray⟩ : ByteArray)[i]'(by simpa [ByteArray.size] using hlt)).toNat : Int)) = false := by rw [e1, e2, hq]; simp
          rw [← e1] at C
          clear e1 e2
          go_upto_region 6 with fail
          refine wp_region_noPanic ?_
          refine wp_region_held_drew (S := fun w' => True) (by kernel_rfl) trivial (fun hHeld => ?_)
          refine take_d (i := 0) (d := 16) (v := ?v16) rfl rfl (by kernel_rfl) (by kernel_rfl) (by kernel_rfl) (fun _ _ _ h => h) (Or.inl ⟨by kernel_rfl, ?v16h⟩) hHeld ?v16n
          case v16h => (intro w hSw; (try dsimp only at hSw); go_split_ands; go_simp; (try exact rfl))
          try simp only [Act.put, List.setIfInBounds_toArray, List.set_cons_zero, List.set_cons_succ]
          refine take_d (i := 1) (d := 17) (v := ?v17) rfl rfl (by kernel_rfl) (by kernel_rfl) (by kernel_rfl) (fun _ _ _ h => h) (Or.inl ⟨by kernel_rfl, ?v17h⟩) hHeld ?v17n
          case v17h => (intro w hSw; (try dsimp only at hSw); go_split_ands; go_simp; (try exact rfl))
          try simp only [Act.put, List.setIfInBounds_toArray, List.set_cons_zero, List.set_cons_succ]
          refine take_d (i := 2) (d := 18) (v := ?v18) rfl rfl (by kernel_rfl) (by kernel_rfl) (by kernel_rfl) (fun _ _ _ h => h) (Or.inl ⟨by kernel_rfl, ?v18h⟩) hHeld ?v18n
          case v18h => (intro w hSw; (try dsimp only at hSw); go_split_ands; go_simp; (try exact rfl))
          try simp only [Act.put, List.setIfInBounds_toArray, List.set_cons_zero, List.set_cons_succ]
          refine take_d (i := 4) (d := 20) (v := ?v20) rfl rfl (by kernel_rfl) (by kernel_rfl) (by kernel_rfl) (fun _ _ _ h => h) (Or.inl ⟨by kernel_rfl, ?v20h⟩) hHeld ?v20n
          case v20h => (intro w hSw; (try dsimp only at hSw); go_split_ands; go_simp; (try exact rfl))
          try simp only [Act.put, List.setIfInBounds_toArray, List.set_cons_zero, List.set_cons_succ]
          refine take_d (i := 5) (d := 21) (v := ?v21) rfl rfl (by kernel_rfl) (by kernel_rfl) (by kernel_rfl) (fun _ _ _ h => h) (Or.inl ⟨by kernel_rfl, ?v21h⟩) hHeld ?v21n
          case v21h => (intro w hSw; (try dsimp only at hSw); go_split_ands; go_simp; (try exact rfl))
          try simp only [Act.put, List.setIfInBounds_toArray, List.set_cons_zero, List.set_cons_succ]
          refine take_d (i := 6) (d := 22) (v := ?v22) rfl rfl (by kernel_rfl) (by kernel_rfl) (by kernel_rfl) (fun _ _ _ h => h) (Or.inl ⟨by kernel_rfl, ?v22h⟩) hHeld ?v22n
          case v22h => (intro w hSw; (try dsimp only at hSw); go_split_ands; go_simp; (try exact rfl))
          try simp only [Act.put, List.setIfInBounds_toArray, List.set_cons_zero, List.set_cons_succ]
          refine wpAnyH_ready (rs := [3]) (by kernel_rfl) (by simp) ?_
          refine AllReadyH.cons rfl (fun K hK => ?_) AllReadyH.nil
          go_simp
          refine (C.out _).mono ?_
          rintro e v1 ⟨rfl, rfl⟩
          refine hK.out _ _ (trivial) (fun hHeld => ?_)
          clear hK K
          try simp only [Act.put, List.setIfInBounds_toArray, List.set_cons_zero, List.set_cons_succ]
          refine take_d (i := 7) (d := 23) (v := ?v23) rfl rfl (by kernel_rfl) (by kernel_rfl) (by kernel_rfl) (fun _ _ _ h => h) (Or.inl ⟨by kernel_rfl, ?v23h⟩) hHeld ?v23n
          case v23h => (intro w hSw; (try dsimp only at hSw); go_split_ands; go_simp; (try exact rfl))
          try simp only [Act.put, List.setIfInBounds_toArray, List.set_cons_zero, List.set_cons_succ]
          refine wpAnyH_done (by kernel_rfl) ?_ _
          refine NoPanic.normal ?_
          go_wp2_with fail
          go_roundw
          case rel => exact ⟨i + 1, by omega, by go_num, Lib.hid (fun j hj => by
            by_cases hji : j = i
            · subst hji; exact hq
            · exact HA.out j (by omega)), B1.out⟩
          case measure => simp [intOf]; omega
        · have q1 : (capB (((⟨l.toArray⟩ : ByteArray)[i]'(by simpa [ByteArray.size] using h1)).toNat : Int) != (((⟨k.toArray⟩ : ByteArray)[i]'(by simpa [ByteArray.size] using hlt)).toNat : Int)) = true := by rw [e1, e2]; simpa using hq
          rw [← e1] at C
          have hR := N.out i hlt hq
          clear e1 e2
          go_upto_region 6 with fail
          refine wp_region_noPanic ?_
          refine wp_region_held_drew (S := fun w' => True) (by kernel_rfl) trivial (fun hHeld => ?_)
          refine take_d (i := 0) (d := 16) (v := ?u16) rfl rfl (by kernel_rfl) (by kernel_rfl) (by kernel_rfl) (fun _ _ _ h => h) (Or.inl ⟨by kernel_rfl, ?u16h⟩) hHeld ?u16n
          case u16h => (intro w hSw; (try dsimp only at hSw); go_split_ands; go_simp; (try exact rfl))
          try simp only [Act.put, List.setIfInBounds_toArray, List.set_cons_zero, List.set_cons_succ]
          refine take_d (i := 1) (d := 17) (v := ?u17) rfl rfl (by kernel_rfl) (by kernel_rfl) (by kernel_rfl) (fun _ _ _ h => h) (Or.inl ⟨by kernel_rfl, ?u17h⟩) hHeld ?u17n
          case u17h => (intro w hSw; (try dsimp only at hSw); go_split_ands; go_simp; (try exact rfl))
          try simp only [Act.put, List.setIfInBounds_toArray, List.set_cons_zero, List.set_cons_succ]
          refine take_d (i := 2) (d := 18) (v := ?u18) rfl rfl (by kernel_rfl) (by kernel_rfl) (by kernel_rfl) (fun _ _ _ h => h) (Or.inl ⟨by kernel_rfl, ?u18h⟩) hHeld ?u18n
          case u18h => (intro w hSw; (try dsimp only at hSw); go_split_ands; go_simp; (try exact rfl))
          try simp only [Act.put, List.setIfInBounds_toArray, List.set_cons_zero, List.set_cons_succ]
          refine take_d (i := 4) (d := 20) (v := ?u20) rfl rfl (by kernel_rfl) (by kernel_rfl) (by kernel_rfl) (fun _ _ _ h => h) (Or.inl ⟨by kernel_rfl, ?u20h⟩) hHeld ?u20n
          case u20h => (intro w hSw; (try dsimp only at hSw); go_split_ands; go_simp; (try exact rfl))
          try simp only [Act.put, List.setIfInBounds_toArray, List.set_cons_zero, List.set_cons_succ]
          refine take_d (i := 5) (d := 21) (v := ?u21) rfl rfl (by kernel_rfl) (by kernel_rfl) (by kernel_rfl) (fun _ _ _ h => h) (Or.inl ⟨by kernel_rfl, ?u21h⟩) hHeld ?u21n
          case u21h => (intro w hSw; (try dsimp only at hSw); go_split_ands; go_simp; (try exact rfl))
          try simp only [Act.put, List.setIfInBounds_toArray, List.set_cons_zero, List.set_cons_succ]
          refine take_d (i := 6) (d := 22) (v := ?u22) rfl rfl (by kernel_rfl) (by kernel_rfl) (by kernel_rfl) (fun _ _ _ h => h) (Or.inl ⟨by kernel_rfl, ?u22h⟩) hHeld ?u22n
          case u22h => (intro w hSw; (try dsimp only at hSw); go_split_ands; go_simp; (try exact rfl))
          try simp only [Act.put, List.setIfInBounds_toArray, List.set_cons_zero, List.set_cons_succ]
          refine wpAnyH_ready (rs := [3]) (by kernel_rfl) (by simp) ?_
          refine AllReadyH.cons rfl (fun K hK => ?_) AllReadyH.nil
          go_simp
          refine (C.out _).mono ?_
          rintro e v1 ⟨rfl, rfl⟩
          refine hK.out _ _ (trivial) (fun hHeld => ?_)
          clear hK K
          try simp only [Act.put, List.setIfInBounds_toArray, List.set_cons_zero, List.set_cons_succ]
          refine take_d (i := 7) (d := 23) (v := ?u23) rfl rfl (by kernel_rfl) (by kernel_rfl) (by kernel_rfl) (fun _ _ _ h => h) (Or.inl ⟨by kernel_rfl, ?u23h⟩) hHeld ?u23n
          case u23h => (intro w hSw; (try dsimp only at hSw); go_split_ands; go_simp; (try exact rfl))
          try simp only [Act.put, List.setIfInBounds_toArray, List.set_cons_zero, List.set_cons_succ]
          refine wpAnyH_done (by kernel_rfl) ?_ _
          refine NoPanic.normal ?_
          go_wp2_with fail
          go_ret
          exact ⟨by rw [hR]; rfl, B1.out⟩
      · obtain rfl : i = k.length := by omega
        have hR := Y.out HA.out
        go_wp2_with fail
        go_ret
        exact ⟨by rw [hR]; rfl, HB⟩
  · rw [isKeyF_len hlen]
    have hn : ((l.length : Int) != (k.length : Int)) = true := by simp; omega
    go_enter Tryz.func131, Tryz.ntmps131
    go_wp2
    go_ret
    exact ⟨rfl, Below.refl _ _⟩

/-- What the listed variables hold. -/
structure Gl (w : World) : Prop where
  kept : ∀ i, i < 35 → w.cell? ⟨2, i, none⟩ = some (tx (keptL.getD i []))
  rng : ∃ tp p, w.var? Tryz.prog "strconv.ErrRange" = some #[.iface tp p]
  tab : Lib.TabIs Tryz.prog w "internal/strconv.uint64pow10" .u64 Lib.pow10Tab
  lt : 9 ≤ w.heap.size
theorem Gl.below {w w' : World} (h : Gl w) {B : Nat} (hb : Below B w w') (h1 : 9 ≤ B) : Gl w' :=
  ⟨fun i hi => by rw [← h.kept i hi]; simp only [World.cell?, hb.block 2 (by omega)],
   by obtain ⟨tp, p, hv⟩ := h.rng; exact ⟨tp, p, var?_below (g := 5) hb (by kernel_rfl) (by omega) hv⟩,
   var?_below (g := 3) hb (by kernel_rfl) (by omega) h.tab, Nat.le_trans h.lt (by have := hb.size; omega)⟩
theorem Gl.on {w w' : World} (h : Gl w) (hb : Below w.heap.size w w') : Gl w' := h.below hb h.lt
theorem keptL_len : ∀ i : Fin 35, (keptL.getD i.val []).length ≤ 7 := by decide +kernel
end Go.Proofs.YtiipglmbfgmbbaaGreatDoor

namespace Go.Proofs.YtiipglmbfgmbbaaGreatDoor
open Go.RowKit Go.Shelf

def keptV : List Value := keptL.map tx
theorem ix66 (w : World) : ∀ i : Nat, i < 35 → (Instr.index 170 (.agg keptV.toArray) (.int .i64 (i : Int))).run Tryz.prog w = .ok (tx (keptL.getD i [])) w
  | 0, _ => by kernel_rfl
  | 1, _ => by kernel_rfl
  | 2, _ => by kernel_rfl
  | 3, _ => by kernel_rfl
  | 4, _ => by kernel_rfl
  | 5, _ => by kernel_rfl
  | 6, _ => by kernel_rfl
  | 7, _ => by kernel_rfl
  | 8, _ => by kernel_rfl
  | 9, _ => by kernel_rfl
  | 10, _ => by kernel_rfl
  | 11, _ => by kernel_rfl
  | 12, _ => by kernel_rfl
  | 13, _ => by kernel_rfl
  | 14, _ => by kernel_rfl
  | 15, _ => by kernel_rfl
  | 16, _ => by kernel_rfl
  | 17, _ => by kernel_rfl
  | 18, _ => by kernel_rfl
  | 19, _ => by kernel_rfl
  | 20, _ => by kernel_rfl
  | 21, _ => by kernel_rfl
  | 22, _ => by kernel_rfl
  | 23, _ => by kernel_rfl
  | 24, _ => by kernel_rfl
  | 25, _ => by kernel_rfl
  | 26, _ => by kernel_rfl
  | 27, _ => by kernel_rfl
  | 28, _ => by kernel_rfl
  | 29, _ => by kernel_rfl
  | 30, _ => by kernel_rfl
  | 31, _ => by kernel_rfl
  | 32, _ => by kernel_rfl
  | 33, _ => by kernel_rfl
  | 34, _ => by kernel_rfl
  | i + 35, h => by omega
theorem Tryz.i66 : (Tryz.prog.info? 170).map (·.size) = some 35 := by kernel_rfl
theorem kept_rng {w : World} (h : Gl w) : w.rangeAt 2 0 keptV := fun j v hj => by
  have hl : j < 35 := by
    have := (List.getElem?_eq_some_iff.1 hj).1
    exact this
  rw [Nat.zero_add, h.kept j hl, ← hj]
  have h2 : j < keptL.length := hl
  simp [keptV, List.getD, h2]
def keyR (l : List UInt8) : Value := match keyF l with
  | some k => .tuple #[tx k, .bool true]
  | none => .tuple #[tx [], .bool false]
theorem find_at (q : List UInt8 → Bool) : ∀ (L : List (List UInt8)) (i : Nat), i < L.length → (∀ j, j < i → q (L.getD j []) = false) → q (L.getD i []) = true → L.find? q = some (L.getD i [])
  | [], i, h, _, _ => by simp at h
  | a :: L, 0, _, _, h => by
    have : q a = true := h
    simp [List.find?, this]
  | a :: L, i + 1, hi, ha, h => by
    have h0 : q a = false := ha 0 (by omega)
    simp only [List.find?, h0]
    exact find_at q L i (by simpa using hi) (fun j hj => ha (j + 1) (by omega)) h
theorem find_no (q : List UInt8 → Bool) : ∀ (L : List (List UInt8)), (∀ j, j < L.length → q (L.getD j []) = false) → L.find? q = none
  | [], _ => rfl
  | a :: L, ha => by
    have h0 : q a = false := ha 0 (by simp)
    simp only [List.find?, h0]
    exact find_no q L (fun j hj => ha (j + 1) (by simpa using hj))

set_option maxRecDepth 100000 in
set_option maxHeartbeats 4000000 in
theorem key_any (l : List UInt8) (hl : l.length ≤ 1000000) (w : World) (hG : Gl w) :
    Calls Tryz.prog 97 #[tx l] w fun e w' => e = .returned (keyR l) ∧ Below w.heap.size w w' := by
  have Y : Hid (∀ i, i < 35 → (∀ j, j < i → isKeyF l (keptL.getD j []) = false) → isKeyF l (keptL.getD i []) = true → keyR l = .tuple #[tx (keptL.getD i []), .bool true]) := Lib.hid (fun i hi ha h => by
    have : keyF l = some (keptL.getD i []) := find_at _ _ i hi ha h
    unfold keyR
    rw [this])
  have N : Hid ((∀ j, j < 35 → isKeyF l (keptL.getD j []) = false) → keyR l = .tuple #[tx [], .bool false]) := Lib.hid (fun ha => by
    have : keyF l = none := find_no _ _ ha
    unfold keyR
    rw [this])
  have K := Lib.hid (fun i (hi : i < 35) W => isKey_any l (keptL.getD i []) hl (Nat.le_trans (keptL_len ⟨i, hi⟩) (by omega)) W)
  have KR := Lib.hid (kept_rng hG)
  have IXH := Lib.hid (fun i hi W => ix66 W i hi)
  generalize keyR l = R at *
  generalize hV : keptV.toArray = KV at *
  have hV2 : KV.toList = keptV := by rw [← hV]
  clear hV hG
  go_enter Tryz.func97, Tryz.ntmps97
  go_upto_region 2 with ((with_reducible refine at_load (t := 170) ?_); refine wpList_load_mid rfl 170 _ rfl 2 0 rfl keptV _ KR.out Tryz.underlying170 rfl Tryz.i66 ?_)
  rw [← hV2]
  simp only [Array.toArray_toList]
  go_loopw [7] (fun iv wr => ∃ i : Nat, i ≤ 35 ∧ iv = .int .i64 (i : Int) ∧ Hid (∀ j, j < i → isKeyF l (keptL.getD j []) = false) ∧ Below w.heap.size w wr) (fun iv _ => 35 - (intOf iv).toNat)
  case atStart => exact ⟨0, Nat.zero_le _, rfl, Lib.hid (fun j hj => absurd hj (by omega)), Below.refl _ _⟩
  case round =>
    obtain ⟨i, hi, rfl, HA, HB⟩ := hrel
    by_cases hlt : i < 35
    · have i0 : (0 : Int) ≤ (i : Int) := by omega
      have i1 : (i : Int) < 35 := by omega
      have IX := IXH.out i hlt
      have KK := Lib.hid (K.out i hlt)
      have YY := Lib.hid (Y.out i hlt HA.out)
      have HB1 := Lib.hid HB
      clear HB
      cases hq : isKeyF l (keptL.getD i []) with
      | true =>
        have hR := YY.out hq
        rw [hq] at KK
        generalize keptL.getD i [] = kk at *
        go_wp2_with (go_at_call 131; refine (KK.out _).mono ?_; rintro e w2 ⟨rfl, hb⟩; have B2 := Lib.hid (HB1.out.trans (hb.mono HB1.out.size)); clear hb)
        go_ret2
        exact ⟨by rw [hR]; rfl, B2.out⟩
      | false =>
        have HA2 : Hid (∀ j, j < i + 1 → isKeyF l (keptL.getD j []) = false) := Lib.hid (fun j hj => by
          by_cases hji : j = i
          · subst hji; exact hq
          · exact HA.out j (by omega))
        rw [hq] at KK
        generalize keptL.getD i [] = kk at *
        go_wp2_with (go_at_call 131; refine (KK.out _).mono ?_; rintro e w2 ⟨rfl, hb⟩; have B2 := Lib.hid (HB1.out.trans (hb.mono HB1.out.size)); clear hb)
        go_roundw
        case rel => exact ⟨i + 1, by omega, by go_num, HA2, B2.out⟩
        case measure => simp [intOf]; omega
    · obtain rfl : i = 35 := by omega
      have hR := N.out HA.out
      go_wp2_with fail
      go_ret2
      exact ⟨by rw [hR]; rfl, HB⟩

/-- The bytes that are a sign. -/
def sgnL : List UInt8 := [40, 41, 44, 59, 61, 60, 62, 43, 45, 42, 47, 37, 46]
/-- How many bytes the longest sign has with which a text begins; 0: it begins with none. -/
def sgnN : List UInt8 → Nat
  | [] => 0
  | b :: r => if (Lib.hasPrefix (b :: r) [60, 61] || Lib.hasPrefix (b :: r) [62, 61] || Lib.hasPrefix (b :: r) [60, 62]) = true then 2 else if 0 ≤ Lib.indexByte sgnL b then 1 else 0
set_option maxRecDepth 100000 in
set_option maxHeartbeats 4000000 in
theorem sign_any (l : List UInt8) (w : World) : Calls Tryz.prog 95 #[tx l] w fun e w' => e = .returned (.int .i64 (sgnN l : Nat)) ∧ w' = w := by
  cases l with
  | nil =>
    go_enter Tryz.func95, Tryz.ntmps95
    go_wp2
    go_ret
    exact ⟨rfl, rfl⟩
  | cons b r =>
    have hs : ((⟨(b :: r).toArray⟩ : ByteArray) == ⟨#[]⟩) = false := by first | rfl | kernel_rfl
    have P1 : Hid (∀ W, _) := Lib.hid (Tryz.strings_HasPrefix ⟨(b :: r).toArray⟩ ⟨#[60, 61]⟩)
    have P2 : Hid (∀ W, _) := Lib.hid (Tryz.strings_HasPrefix ⟨(b :: r).toArray⟩ ⟨#[62, 61]⟩)
    have P3 : Hid (∀ W, _) := Lib.hid (Tryz.strings_HasPrefix ⟨(b :: r).toArray⟩ ⟨#[60, 62]⟩)
    have IB : Hid (∀ W, _) := Lib.hid (Tryz.strings_IndexByte ⟨sgnL.toArray⟩ ((b.toNat : Nat) : Int))
    simp only [show (⟨(b :: r).toArray⟩ : ByteArray).data.toList = b :: r from rfl, show (⟨#[60, 61]⟩ : ByteArray).data.toList = [60, 61] from rfl, show (⟨#[62, 61]⟩ : ByteArray).data.toList = [62, 61] from rfl, show (⟨#[60, 62]⟩ : ByteArray).data.toList = [60, 62] from rfl] at P1 P2 P3
    rw [show (⟨sgnL.toArray⟩ : ByteArray).data.toList = sgnL from rfl, show ((b.toNat : Nat) : Int).toNat.toUInt8 = b from by rw [Int.toNat_natCast]; exact UInt8.ofNat_toNat] at IB
    show Calls Tryz.prog 95 #[tx (b :: r)] w fun e w' => e = .returned (.int .i64 (((if (Lib.hasPrefix (b :: r) [60, 61] || Lib.hasPrefix (b :: r) [62, 61] || Lib.hasPrefix (b :: r) [60, 62]) = true then 2 else if 0 ≤ Lib.indexByte sgnL b then 1 else 0) : Nat) : Int)) ∧ w' = w
    generalize Lib.hasPrefix (b :: r) [60, 61] = p1 at *
    generalize Lib.hasPrefix (b :: r) [62, 61] = p2 at *
    generalize Lib.hasPrefix (b :: r) [60, 62] = p3 at *
    generalize Lib.indexByte sgnL b = ib at *
    unfold sgnL at IB
    cases p1 with
    | true =>
      simp only [Bool.true_or, Bool.false_or, if_true, Bool.false_eq_true, if_false]
      go_enter Tryz.func95, Tryz.ntmps95
      go_wp2_with (go_at_call 89; refine (P1.out _).mono ?_; rintro e w2 ⟨rfl, rfl⟩)
      go_ret
      exact ⟨rfl, rfl⟩
    | false =>
      cases p2 with
      | true =>
        simp only [Bool.true_or, Bool.false_or, if_true, Bool.false_eq_true, if_false]
        go_enter Tryz.func95, Tryz.ntmps95
        go_upto_region 4 with (go_at_call 89; refine (P1.out _).mono ?_; rintro e w2 ⟨rfl, rfl⟩)
        go_wp2_with (go_at_call 89; refine (P2.out _).mono ?_; rintro e w2 ⟨rfl, rfl⟩)
        go_ret
        exact ⟨rfl, rfl⟩
      | false =>
        cases p3 with
        | true =>
          simp only [Bool.true_or, Bool.false_or, if_true, Bool.false_eq_true, if_false]
          go_enter Tryz.func95, Tryz.ntmps95
          go_upto_region 4 with (go_at_call 89; refine (P1.out _).mono ?_; rintro e w2 ⟨rfl, rfl⟩)
          go_upto_region 5 with (go_at_call 89; refine (P2.out _).mono ?_; rintro e w2 ⟨rfl, rfl⟩)
          go_wp2_with (go_at_call 89; refine (P3.out _).mono ?_; rintro e w2 ⟨rfl, rfl⟩)
          go_ret
          exact ⟨rfl, rfl⟩
        | false =>
          by_cases hi : 0 ≤ ib
          · simp only [Bool.false_or, Bool.false_eq_true, if_false, if_pos hi]
            have hd : decide (0 ≤ ib) = true := decide_eq_true hi
            go_enter Tryz.func95, Tryz.ntmps95
            go_upto_region 4 with (go_at_call 89; refine (P1.out _).mono ?_; rintro e w2 ⟨rfl, rfl⟩)
            go_upto_region 5 with (go_at_call 89; refine (P2.out _).mono ?_; rintro e w2 ⟨rfl, rfl⟩)
            go_upto_region 7 with (go_at_call 89; refine (P3.out _).mono ?_; rintro e w2 ⟨rfl, rfl⟩)
            go_wp2_with (go_at_call 129; refine (IB.out _).mono ?_; rintro e w2 ⟨rfl, rfl⟩)
            go_ret
            exact ⟨rfl, rfl⟩
          · simp only [Bool.false_or, Bool.false_eq_true, if_false, if_neg hi]
            have hd : decide (0 ≤ ib) = false := decide_eq_false hi
            go_enter Tryz.func95, Tryz.ntmps95
            go_upto_region 4 with (go_at_call 89; refine (P1.out _).mono ?_; rintro e w2 ⟨rfl, rfl⟩)
            go_upto_region 5 with (go_at_call 89; refine (P2.out _).mono ?_; rintro e w2 ⟨rfl, rfl⟩)
            go_upto_region 7 with (go_at_call 89; refine (P3.out _).mono ?_; rintro e w2 ⟨rfl, rfl⟩)
            go_wp2_with (go_at_call 129; refine (IB.out _).mono ?_; rintro e w2 ⟨rfl, rfl⟩)
            go_ret
            exact ⟨rfl, rfl⟩
end Go.Proofs.YtiipglmbfgmbbaaGreatDoor
