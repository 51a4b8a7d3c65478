/-
  The token that begins at a place, or why none does: the program's begin.
-/
import Derived.Test.YtiipglmbfgmbbaaGreatDoorL9
namespace Go.Proofs.YtiipglmbfgmbbaaGreatDoor
open Go.RowKit Go.Shelf

/-- The token that begins at a place; or why none does. -/
def begF (l : List UInt8) (p : Nat) : Tk × Int :=
  if letB (bt l p) = true then wordF l p else if digB (bt l p) = true then numF l p else if (bt l p == 39) = true then quotedF l p
  else if sgnN (l.drop p) = 0 then (errT p, 200) else (⟨5, cutF l p (p + sgnN (l.drop p)), 0, p, p + sgnN (l.drop p)⟩, 0)
theorem sgnN_le : ∀ l : List UInt8, sgnN l ≤ l.length
  | [] => Nat.le_refl _
  | b :: r => by
    show (if (Lib.hasPrefix (b :: r) [60, 61] || Lib.hasPrefix (b :: r) [62, 61] || Lib.hasPrefix (b :: r) [60, 62]) = true then 2 else if 0 ≤ Lib.indexByte sgnL b then 1 else 0) ≤ (b :: r).length
    by_cases h : (Lib.hasPrefix (b :: r) [60, 61] || Lib.hasPrefix (b :: r) [62, 61] || Lib.hasPrefix (b :: r) [60, 62]) = true
    · rw [if_pos h]
      simp only [Bool.or_eq_true] at h
      rcases h with (h | h) | h <;> exact (List.isPrefixOf_iff_prefix.1 h).length_le
    · rw [if_neg h]
      split
      · simp
      · simp
theorem cut_all_drop (l : List UInt8) (p : Nat) : cutF l p l.length = l.drop p := by unfold cutF; rw [List.take_length]

set_option maxRecDepth 100000 in
set_option maxHeartbeats 4000000 in
theorem begin_any (l : List UInt8) (p : Nat) (hl : l.length ≤ 1000000) (hp : p < l.length) (w : World) (hG : Gl w) :
    Calls Tryz.prog 61 #[tx l, .int .i64 (p : Int)] w fun e w' => e = .returned (begR (begF l p)) ∧ Below w.heap.size w w' := by
  have LT := Lib.hid (fun W => letter_any (((⟨l.toArray⟩ : ByteArray)[p]'(by simpa [ByteArray.size] using hp)).toNat : Int) (by omega) (by rw [bt_of hp]; exact bt1 _ _) W)
  have DG := Lib.hid (fun W => digit_any (((⟨l.toArray⟩ : ByteArray)[p]'(by simpa [ByteArray.size] using hp)).toNat : Int) (by omega) (by rw [bt_of hp]; exact bt1 _ _) W)
  have NA := Lib.hid (fun hd W hg => number_any l p hl hp hd W hg)
  have e1 := bt_of hp
  have EX := ext_eq l p l.length
  rw [cut_all_drop] at EX
  have SG := Lib.hid (fun W => sign_any (l.drop p) W)
  have p0 : (0 : Int) ≤ (p : Int) := by omega
  have p1 : (p : Int) < (l.length : Int) := by omega
  have p2 : (p : Int) ≤ (l.length : Int) := by omega
  obtain ⟨g, hg⟩ : ∃ g, w.heap.size = g := ⟨_, rfl⟩
  obtain ⟨w0, hw0⟩ : ∃ w0, w.alloc (.cells #[.int .i64 0, .string ⟨#[]⟩, .int .i64 0, .int .i64 0, .int .i64 0] 50) = w0 := ⟨_, rfl⟩
  have b0 : Hid (Blk w0 g 50 #[.int .i64 0, .string ⟨#[]⟩, .int .i64 0, .int .i64 0, .int .i64 0]) := Lib.hid (by rw [← hw0, ← hg]; exact Blk.new _ _ _)
  have h0 : Hid (Below g w w0) := Lib.hid (by rw [← hw0, ← hg]; exact (Below.refl _ _).alloc (Nat.le_refl _) _)
  have GH := Lib.hid hG
  have G7 : 9 ≤ g := by rw [← hg]; exact hG.lt
  have gl : g < w0.heap.size := b0.out.lt
  clear hG
  by_cases c1 : letB (bt l p) = true
  · rw [e1, c1] at LT
    rw [← e1] at LT
    have WF : Hid (begF l p = wordF l p) := Lib.hid (by unfold begF; simp only [c1]; simp)
    have SC := Lib.hid ((fun W hg => word_any l p hl (Nat.le_of_lt hp) W hg) w0 (GH.out.below h0.out G7))
    obtain ⟨⟨t, er⟩, hte⟩ : ∃ r, wordF l p = r := ⟨_, rfl⟩
    rw [hte] at SC WF
    have SC2 : Hid (Calls Tryz.prog 91 #[tx l, .int .i64 (p : Int)] w0 fun e w' => e = .returned (.tuple #[.agg t.cells.toArray, .int .i64 er]) ∧ Below w0.heap.size w0 w') := SC
    clear SC hte
    subst hw0
    clear e1 c1 DG NA EX
    go_enter Tryz.func61, Tryz.ntmps61
    go_wp2_with (first
      | (go_at_call 90; refine (LT.out _).mono ?_; rintro e w' ⟨rfl, rfl⟩)
      | (go_at_call 91; refine SC2.out.mono ?_; rintro e w2 ⟨rfl, hb⟩; have B2 := Lib.hid (b0.out.below hb b0.out.lt); have H2 := Lib.hid (h0.out.trans (hb.mono (by omega))); clear hb)
      | ((with_reducible refine at_store (t := 50) ?_); refine wpList_store_blk _ rfl 50 _ _ rfl g _ 50 t.cells rfl rfl B2.out rfl Tryz.i47 (by simp [Value.oneCell', Tk.cells]) ?_; intro w8 hb8 ho8; have X8 := Lib.hid hb8; have H8 := Lib.hid (H2.out.trans (ho8.below (Nat.le_refl _))); clear hb8 ho8))
    exact bodyPost_ret (ret_cell_tmp rfl _ _ g 50 _ _ rfl X8.out Tryz.underlying50 rfl Tryz.i47) rfl ⟨by rw [WF.out]; rfl, by rw [hg]; exact H8.out⟩
  · have c1' : letB (bt l p) = false := Bool.eq_false_iff.2 c1
    rw [e1, c1'] at LT
    rw [← e1] at LT
    by_cases c2 : digB (bt l p) = true
    · rw [e1, c2] at DG
      rw [← e1] at DG
      have WF : Hid (begF l p = numF l p) := Lib.hid (by unfold begF; simp only [c1', c2]; simp)
      have SC := Lib.hid (NA.out c2 w0 (GH.out.below h0.out G7))
      obtain ⟨⟨t, er⟩, hte⟩ : ∃ r, numF l p = r := ⟨_, rfl⟩
      rw [hte] at SC WF
      have SC2 : Hid (Calls Tryz.prog 93 #[tx l, .int .i64 (p : Int)] w0 fun e w' => e = .returned (.tuple #[.agg t.cells.toArray, .int .i64 er]) ∧ Below w0.heap.size w0 w') := SC
      clear SC hte
      subst hw0
      clear e1 c1 c2 c1' NA EX
      go_enter Tryz.func61, Tryz.ntmps61
      go_wp2_with (first
        | (go_at_call 90; refine (LT.out _).mono ?_; rintro e w' ⟨rfl, rfl⟩)
        | (go_at_call 92; refine (DG.out _).mono ?_; rintro e w' ⟨rfl, rfl⟩)
        | (go_at_call 93; refine SC2.out.mono ?_; rintro e w2 ⟨rfl, hb⟩; have B2 := Lib.hid (b0.out.below hb b0.out.lt); have H2 := Lib.hid (h0.out.trans (hb.mono (by omega))); clear hb)
        | ((with_reducible refine at_store (t := 50) ?_); refine wpList_store_blk _ rfl 50 _ _ rfl g _ 50 t.cells rfl rfl B2.out rfl Tryz.i47 (by simp [Value.oneCell', Tk.cells]) ?_; intro w8 hb8 ho8; have X8 := Lib.hid hb8; have H8 := Lib.hid (H2.out.trans (ho8.below (Nat.le_refl _))); clear hb8 ho8))
      exact bodyPost_ret (ret_cell_tmp rfl _ _ g 50 _ _ rfl X8.out Tryz.underlying50 rfl Tryz.i47) rfl ⟨by rw [WF.out]; rfl, by rw [hg]; exact H8.out⟩
    · have c2' : digB (bt l p) = false := Bool.eq_false_iff.2 c2
      rw [e1, c2'] at DG
      rw [← e1] at DG
      by_cases c3 : (bt l p == 39) = true
      · have c3' : ((((⟨l.toArray⟩ : ByteArray)[p]'(by simpa [ByteArray.size] using hp)).toNat : Int) == 39) = true := by rw [e1]; exact c3
        have WF : Hid (begF l p = quotedF l p) := Lib.hid (by unfold begF; simp only [c1', c2', c3]; simp)
        have SC := Lib.hid ((fun W (_ : Gl W) => quoted_any l p hl hp W) w0 (GH.out.below h0.out G7))
        obtain ⟨⟨t, er⟩, hte⟩ : ∃ r, quotedF l p = r := ⟨_, rfl⟩
        rw [hte] at SC WF
        have SC2 : Hid (Calls Tryz.prog 94 #[tx l, .int .i64 (p : Int)] w0 fun e w' => e = .returned (.tuple #[.agg t.cells.toArray, .int .i64 er]) ∧ Below w0.heap.size w0 w') := SC
        clear SC hte
        subst hw0
        clear e1 c1 c2 c1' c2' c3 NA EX
        go_enter Tryz.func61, Tryz.ntmps61
        go_wp2_with (first
          | (go_at_call 90; refine (LT.out _).mono ?_; rintro e w' ⟨rfl, rfl⟩)
          | (go_at_call 92; refine (DG.out _).mono ?_; rintro e w' ⟨rfl, rfl⟩)
          | (go_at_call 94; refine SC2.out.mono ?_; rintro e w2 ⟨rfl, hb⟩; have B2 := Lib.hid (b0.out.below hb b0.out.lt); have H2 := Lib.hid (h0.out.trans (hb.mono (by omega))); clear hb)
          | ((with_reducible refine at_store (t := 50) ?_); refine wpList_store_blk _ rfl 50 _ _ rfl g _ 50 t.cells rfl rfl B2.out rfl Tryz.i47 (by simp [Value.oneCell', Tk.cells]) ?_; intro w8 hb8 ho8; have X8 := Lib.hid hb8; have H8 := Lib.hid (H2.out.trans (ho8.below (Nat.le_refl _))); clear hb8 ho8))
        exact bodyPost_ret (ret_cell_tmp rfl _ _ g 50 _ _ rfl X8.out Tryz.underlying50 rfl Tryz.i47) rfl ⟨by rw [WF.out]; rfl, by rw [hg]; exact H8.out⟩
      · have c3f : (bt l p == 39) = false := Bool.eq_false_iff.2 c3
        have c3' : ((((⟨l.toArray⟩ : ByteArray)[p]'(by simpa [ByteArray.size] using hp)).toNat : Int) == 39) = false := by rw [e1]; exact c3f
        by_cases hs : sgnN (l.drop p) = 0
        · have WF : Hid (begF l p = (errT p, 200)) := Lib.hid (by unfold begF; simp only [c1', c2', c3f, hs]; simp)
          have z0 : ((sgnN (l.drop p) : Nat) : Int) = 0 := by omega
          rw [z0] at SG
          clear e1 c1 c2 c1' c2' c3 c3f NA hs z0
          subst hw0
          go_enter Tryz.func61, Tryz.ntmps61
          go_wp2_with (first
            | (go_at_call 90; refine (LT.out _).mono ?_; rintro e w' ⟨rfl, rfl⟩)
            | (go_at_call 92; refine (DG.out _).mono ?_; rintro e w' ⟨rfl, rfl⟩)
            | (go_at_call 95; refine (SG.out _).mono ?_; rintro e w' ⟨rfl, rfl⟩)
            | ((with_reducible refine at_store (t := 50) ?_); refine wpList_store_blk _ rfl 50 _ _ rfl g _ 50 [.int .i64 0, tx [], .int .i64 0, .int .i64 (p : Int), .int .i64 0] rfl rfl b0.out rfl Tryz.i47 (by simp [Value.oneCell', Tk.cells]) ?_; intro w8 hb8 ho8; have X8 := Lib.hid hb8; have H8 := Lib.hid (h0.out.trans (ho8.below (Nat.le_refl _))); clear hb8 ho8))
          exact bodyPost_ret (ret_cell_tmp rfl _ _ g 50 _ _ rfl X8.out Tryz.underlying50 rfl Tryz.i47) rfl ⟨by rw [WF.out]; rfl, by rw [hg]; exact H8.out⟩
        · have sl := sgnN_le (l.drop p)
          rw [List.length_drop] at sl
          have WF : Hid (begF l p = (⟨5, cutF l p (p + sgnN (l.drop p)), 0, p, p + sgnN (l.drop p)⟩, 0)) := Lib.hid (by unfold begF; simp only [c1', c2', c3f, hs]; simp)
          generalize sgnN (l.drop p) = z at *
          obtain ⟨R, hR⟩ : ∃ R, p + z = R := ⟨_, rfl⟩
          rw [hR] at WF
          have CL := cut_len (l := l) (p := p) (q := R) (by omega) (by omega)
          have EX2 := ext_eq l p R
          have CN := Lib.hid (fun W => clone_any (cutF l p R) (by omega) W)
          generalize cutF l p R = own at *
          have q0 : (p : Int) ≤ (R : Int) := by omega
          have q1 : (R : Int) ≤ (l.length : Int) := by omega
          have q2 : (p : Int) + (z : Int) = (R : Int) := by omega
          have q3 : (R : Int) ≤ 1000000 := by omega
          have q4 : ((z : Int) == 0) = false := by simp; omega
          clear e1 c1 c2 c1' c2' c3 c3f NA hs sl CL hR
          subst hw0
          go_enter Tryz.func61, Tryz.ntmps61
          go_wp2_with (first
            | (go_at_call 90; refine (LT.out _).mono ?_; rintro e w' ⟨rfl, rfl⟩)
            | (go_at_call 92; refine (DG.out _).mono ?_; rintro e w' ⟨rfl, rfl⟩)
            | (go_at_call 95; refine (SG.out _).mono ?_; rintro e w' ⟨rfl, rfl⟩)
            | (go_at_call 96; refine (CN.out _).mono ?_; rintro e w2 ⟨rfl, hb⟩; have B2 := Lib.hid (b0.out.below hb b0.out.lt); have H2 := Lib.hid (h0.out.trans (hb.mono (by omega))); clear hb)
            | ((with_reducible refine at_store (t := 50) ?_); refine wpList_store_blk _ rfl 50 _ _ rfl g _ 50 [.int .i64 5, tx own, .int .i64 0, .int .i64 (p : Int), .int .i64 (R : Int)] rfl rfl B2.out rfl Tryz.i47 (by simp [Value.oneCell', Tk.cells]) ?_; intro w8 hb8 ho8; have X8 := Lib.hid hb8; have H8 := Lib.hid (H2.out.trans (ho8.below (Nat.le_refl _))); clear hb8 ho8))
          exact bodyPost_ret (ret_cell_tmp rfl _ _ g 50 _ _ rfl X8.out Tryz.underlying50 rfl Tryz.i47) rfl ⟨by rw [WF.out]; rfl, by rw [hg]; exact H8.out⟩
end Go.Proofs.YtiipglmbfgmbbaaGreatDoor
