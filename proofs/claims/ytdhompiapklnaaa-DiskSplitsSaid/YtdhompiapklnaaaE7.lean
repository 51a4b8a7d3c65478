/-
  The document's Done.
-/
import Derived.Test.YtdhompiapklnaaaE6
import Derived.Test.YtdhompiapklnaaaLa
namespace Go.Proofs.Ytdhompiapklnaaa
open Go.RowKit
attribute [local go_sem ↓] Try.z39 Try.z86 Try.z75 Try.z32

/-- A row of n answers. -/
def rowB (n : Nat) (f : Nat → Bool) : List Value := (List.range n).map fun k => .bool (f k)
theorem rowB_len (n : Nat) (f : Nat → Bool) : (rowB n f).length = n := by simp [rowB]
theorem rowB_at {n k : Nat} (f : Nat → Bool) (h : k < n) : (rowB n f)[k]? = some (.bool (f k)) := by simp [rowB, h]
theorem rowB_congr {n : Nat} {f g : Nat → Bool} (h : ∀ k, k < n → f k = g k) : rowB n f = rowB n g := by
  unfold rowB
  exact List.map_congr_left fun k hk => by rw [h k (List.mem_range.1 hk)]
theorem rowB_set {n k : Nat} (f g : Nat → Bool) (_h : k < n) (hg : ∀ x, g x = (f x || decide (x = k))) : (rowB n f).toArray.setIfInBounds k (.bool true) = (rowB n g).toArray := by
  rw [List.setIfInBounds_toArray]
  congr 1
  refine List.ext_getElem (by simp [rowB]) fun i h1 h2 => ?_
  rw [List.getElem_set]
  by_cases e : k = i
  · subst e
    simp [rowB, hg]
  · have e' : ¬ i = k := fun h => e h.symm
    simp [rowB, hg, e, e']
theorem rowB_made (n : Nat) : madeCells #[.bool false] n = (rowB n fun _ => false).toArray := by
  refine Array.ext (by simp [rowB, madeCells]) fun i h1 h2 => ?_
  simp [rowB, madeCells, Nat.mod_one]

/-- What is done behind the first j writes. -/
def fD (ks : List Bool) (j k : Nat) : Bool := (decide (k < j) && kept ks k) || decide (∃ p, p < j ∧ kept ks p = true ∧ k + 4 ≤ p)
/-- And inside of write j, behind the first m of those ahead of it. -/
def fI (ks : List Bool) (j m k : Nat) : Bool := fD ks j k || decide (k = j) || decide (k < m)
theorem fD_zero (ks : List Bool) (k : Nat) : false = fD ks 0 k := by simp [fD]
theorem fD_skip {ks : List Bool} {j : Nat} (h : kept ks j = false) : fD ks (j + 1) = fD ks j := by
  funext k
  rw [Bool.eq_iff_iff]
  simp only [fD, Bool.or_eq_true, Bool.and_eq_true, decide_eq_true_eq]
  constructor
  · rintro (⟨h1, h2⟩ | ⟨p, h1, h2, h3⟩)
    · by_cases e : k = j
      · subst e
        rw [h] at h2
        cases h2
      · exact .inl ⟨by omega, h2⟩
    · by_cases e : p = j
      · subst e
        rw [h] at h2
        cases h2
      · exact .inr ⟨p, by omega, h2, h3⟩
  · rintro (⟨h1, h2⟩ | ⟨p, h1, h2, h3⟩)
    · exact .inl ⟨by omega, h2⟩
    · exact .inr ⟨p, by omega, h2, h3⟩
theorem fI_zero (ks : List Bool) (j k : Nat) : fI ks j 0 k = (fD ks j k || decide (k = j)) := by simp [fI]
theorem fI_succ (ks : List Bool) (j m k : Nat) : fI ks j (m + 1) k = (fI ks j m k || decide (k = m)) := by
  rw [Bool.eq_iff_iff]
  simp only [fI, Bool.or_eq_true, decide_eq_true_eq]
  rw [show k < m + 1 ↔ k < m ∨ k = m by omega]
  exact or_assoc.symm
theorem fI_end {ks : List Bool} {j m : Nat} (h : kept ks j = true) (h1 : j < m + 4) (h2 : m = 0 ∨ m + 3 ≤ j) : fI ks j m = fD ks (j + 1) := by
  funext k
  rw [Bool.eq_iff_iff]
  simp only [fI, fD, Bool.or_eq_true, Bool.and_eq_true, decide_eq_true_eq]
  constructor
  · rintro (((⟨h3, h4⟩ | ⟨p, h3, h4, h5⟩) | h3) | h3)
    · exact .inl ⟨by omega, h4⟩
    · exact .inr ⟨p, by omega, h4, h5⟩
    · subst h3
      exact .inl ⟨by omega, h⟩
    · exact .inr ⟨j, by omega, h, by omega⟩
  · rintro (⟨h3, h4⟩ | ⟨p, h3, h4, h5⟩)
    · by_cases e : k = j
      · exact .inl (.inr e)
      · exact .inl (.inl (.inl ⟨by omega, h4⟩))
    · by_cases e : p = j
      · subst e
        exact .inr (by omega)
      · exact .inl (.inl (.inr ⟨p, by omega, h4, h5⟩))
theorem fD_end (ks : List Bool) {n k : Nat} (h : k < n) : fD ks n k = dn n ks k := by simp [fD, dn, h]
theorem kept_over {ks : List Bool} {j : Nat} (h : ks.length ≤ j) : kept ks j = false := by
  unfold kept
  rw [List.getD, List.getElem?_eq_none h]
  rfl

/-- What Done leaves. -/
def RDone (w : World) (n : Nat) (ks : List Bool) (e : Ending) (w' : World) : Prop :=
  e = .returned (.slice (some ⟨w.heap.size, 0, none⟩) n n) ∧ Blk w' w.heap.size 4 (rowB n (dn n ks)).toArray ∧ Below w.heap.size w w'

set_option maxRecDepth 100000 in
set_option maxHeartbeats 2000000 in
theorem refdone_any (n : Nat) (hn : n ≤ 1000000) (A : Option Addr) (c : Nat) (ks : List Bool) (hl : ks.length ≤ 9223372036854775807) (w : World) (h : Bs w w.heap.size A ks) :
    Calls Try.prog 58 #[.int .i64 (n : Int), .slice A ks.length c] w (RDone w n ks) := by
  have hmk := makeBools n (by omega)
  rw [rowB_made, rowB_congr (g := fD ks 0) (fun k _ => fD_zero ks k)] at hmk
  have HK := Lib.hid h
  clear h
  go_enter Try.func58, Try.ntmps58
  go_wp2
  clear hmk
  go_loopw [11] (fun i wr => ∃ j : Nat, j ≤ n ∧ i = .int .i64 j ∧ Blk wr w.heap.size 4 (rowB n (fD ks j)).toArray ∧ Below w.heap.size w wr) (fun i _ => n - (intOf i).toNat)
  case atStart => exact ⟨0, Nat.zero_le _, rfl, Blk.new w 4 _, (Below.refl _ _).alloc (Nat.le_refl _) _⟩
  case round =>
    obtain ⟨j, hj, rfl, hb, hB⟩ := hrel
    by_cases hlt : j < n
    · have jI : (j : Int) < (n : Int) := by omega
      have jI0 : (0 : Int) ≤ (j : Nat) := by omega
      have HBL := Lib.hid hb
      have HBB := Lib.hid hB
      clear hb hB
      cases hd : kept ks j with
      | false =>
        have S1 : Hid (Blk wr w.heap.size 4 (rowB n (fD ks (j + 1))).toArray) := show Blk _ _ _ _ by rw [fD_skip hd]; exact HBL.out
        by_cases hlen : j < ks.length
        · have jk : (j : Int) < (ks.length : Int) := by omega
          obtain ⟨kb, ko, rfl, hkb, hkc⟩ := (HK.out.below HBB.out) (by omega)
          have kx : wr.cell? ⟨kb, ko + j, none⟩ = some (.bool (kept ks j)) := hkc j hlen
          rw [hd] at kx
          clear hkc hd HBL
          go_wp2_with fail
          refine ⟨?_, by simp [intOf]; omega⟩
          first | exact ⟨j + 1, by omega, by go_num, S1.out, HBB.out⟩ | ((repeat apply Exists.intro); refine ⟨⟨j + 1, by omega, by go_num, S1.out, HBB.out⟩, ?_⟩; and_intros <;> rfl)
        · have jk : (ks.length : Int) ≤ (j : Int) := by omega
          clear hd HBL
          go_wp2_with fail
          refine ⟨?_, by simp [intOf]; omega⟩
          first | exact ⟨j + 1, by omega, by go_num, S1.out, HBB.out⟩ | ((repeat apply Exists.intro); refine ⟨⟨j + 1, by omega, by go_num, S1.out, HBB.out⟩, ?_⟩; and_intros <;> rfl)
      | true =>
        have hlen : j < ks.length := by
          by_cases hlen : j < ks.length
          · exact hlen
          · rw [kept_over (by omega)] at hd
            cases hd
        have jk : (j : Int) < (ks.length : Int) := by omega
        obtain ⟨kb, ko, rfl, hkb, hkc⟩ := (HK.out.below HBB.out) (by omega)
        have kx : wr.cell? ⟨kb, ko + j, none⟩ = some (.bool (kept ks j)) := hkc j hlen
        rw [hd] at kx
        have x0 : wr.cell? ⟨w.heap.size, j, none⟩ = some (.bool (fD ks j j)) := (HBL.out.cell j).trans (by rw [List.getElem?_toArray]; exact rowB_at _ hlt)
        have f0 := HBL.out.frozen j
        have D0 : Hid (Blk (wr.setCell ⟨w.heap.size, j, none⟩ (.bool true)) w.heap.size 4 (rowB n (fI ks j 0)).toArray) := show Blk _ _ _ _ by
          rw [← rowB_set (fD ks j) (fI ks j 0) hlt (fI_zero ks j)]
          exact HBL.out.set_ j _
        have B0 : Hid (Below w.heap.size w (wr.setCell ⟨w.heap.size, j, none⟩ (.bool true))) := HBB.out.setCell (p := ⟨w.heap.size, j, none⟩) (Nat.le_refl _) _
        have HD := Lib.hid hd
        clear hkc hd HBL HBB
        go_wp2_with fail
        go_loopw [7] (fun i wr => ∃ m : Nat, (m = 0 ∨ m + 3 ≤ j) ∧ i = .int .i64 m ∧ Blk wr w.heap.size 4 (rowB n (fI ks j m)).toArray ∧ Below w.heap.size w wr) (fun i _ => j - (intOf i).toNat)
        case atStart => exact ⟨0, .inl rfl, rfl, D0.out, B0.out⟩
        case round =>
          clear D0 B0 x0 f0 kx
          obtain ⟨m, hm, rfl, hb, hB⟩ := hrel
          by_cases hmj : m + 4 ≤ j
          · have mI : (m : Int) + 4 ≤ (j : Int) := by omega
            have mI0 : (0 : Int) ≤ (m : Nat) := by omega
            have mI1 : (m : Int) < (n : Int) := by omega
            have hmn : m < n := by omega
            have x0 : wr.cell? ⟨w.heap.size, m, none⟩ = some (.bool (fI ks j m m)) := (hb.cell m).trans (by rw [List.getElem?_toArray]; exact rowB_at _ hmn)
            have f0 := hb.frozen m
            have D1 : Hid (Blk (wr.setCell ⟨w.heap.size, m, none⟩ (.bool true)) w.heap.size 4 (rowB n (fI ks j (m + 1))).toArray) := show Blk _ _ _ _ by
              rw [← rowB_set (fI ks j m) (fI ks j (m + 1)) hmn (fI_succ ks j m)]
              exact hb.set_ m _
            have B1 : Hid (Below w.heap.size w (wr.setCell ⟨w.heap.size, m, none⟩ (.bool true))) := hB.setCell (p := ⟨w.heap.size, m, none⟩) (Nat.le_refl _) _
            clear hb hB
            go_wp2_with fail
            refine ⟨?_, by simp [intOf]; omega⟩
            first | exact ⟨m + 1, by omega, by go_num, D1.out, B1.out⟩ | ((repeat apply Exists.intro); refine ⟨⟨m + 1, by omega, by go_num, D1.out, B1.out⟩, ?_⟩; and_intros <;> rfl)
          · have mI : ¬ (m : Int) + 4 ≤ (j : Int) := by omega
            have mI0 : (0 : Int) ≤ (m : Nat) := by omega
            have D1 : Hid (Blk wr w.heap.size 4 (rowB n (fD ks (j + 1))).toArray) := show Blk _ _ _ _ by
              rw [← fI_end HD.out (by omega) hm]
              exact hb
            have B1 := Lib.hid hB
            clear hb hB
            go_wp2_with fail
            refine ⟨?_, by simp [intOf]; omega⟩
            first | exact ⟨j + 1, by omega, by go_num, D1.out, B1.out⟩ | ((repeat apply Exists.intro); refine ⟨⟨j + 1, by omega, by go_num, D1.out, B1.out⟩, ?_⟩; and_intros <;> rfl)
    · obtain rfl : j = n := by omega
      have jI : ¬ (j : Int) < (j : Int) := by omega
      have E1 : Hid (Blk wr w.heap.size 4 (rowB j (dn j ks)).toArray) := show Blk _ _ _ _ by
        rw [rowB_congr (g := fD ks j) (fun k hk => (fD_end ks hk).symm)]
        exact hb
      clear hb
      go_wp2
      go_ret
      exact ⟨rfl, E1.out, hB⟩

end Go.Proofs.Ytdhompiapklnaaa
