/-
  The document's Far, With, Without.
-/
import Derived.Test.YtfclppopelmdgaaDoorD1
import Derived.Shelf.RegionOpen
namespace Go.Proofs.YtfclppopelmdgaaDoor
open Go.RowKit
attribute [local go_sem ↓] field27

def farK (X Y : List Int) : Nat → Nat
  | 0 => 0
  | k + 1 => farK X Y k + if (X.contains ((k : Int) + 1) != Y.contains ((k : Int) + 1)) = true then 1 else 0
theorem farK_le (X Y : List Int) : ∀ k, farK X Y k ≤ k
  | 0 => Nat.le_refl _
  | k + 1 => by
    have := farK_le X Y k
    unfold farK
    split <;> omega
theorem far_row : ∀ a b : Fin 32, farK (row a.val) (row b.val) 5 = pop (Nat.xor a.val b.val) := by decide +kernel
theorem far_right {X Y : List Int} (hx : grp X ≠ 0) (hy : grp Y ≠ 0) : farK X Y 5 = pop (Nat.xor (grp X) (grp Y)) := by
  have h1 := of_grp hx
  have h2 := of_grp hy
  have := far_row ⟨grp X, grp_lt X⟩ ⟨grp Y, grp_lt Y⟩
  simp only at this
  rw [← h1, ← h2] at this
  exact this

set_option maxRecDepth 100000 in
set_option maxHeartbeats 4000000 in
theorem far_any (A : Option Addr) (n c B : Nat) (xs : List Int) (A1 : Option Addr) (n1 c1 B1 : Nat) (ys : List Int) (w : World) (h : Is w B A n xs) (hn : n ≤ 1000000) (hB : B ≤ w.heap.size) (h1 : Is w B1 A1 n1 ys) (hn1 : n1 ≤ 1000000) (hB1 : B1 ≤ w.heap.size) :
    Calls Tryd.prog 24 #[.agg #[.slice A n c], .agg #[.slice A1 n1 c1]] w fun e w' => e = .returned (.int .i64 (farK xs ys 5 : Nat)) ∧ Below w.heap.size w w' := by
  have RX := Lib.hid (fun m W (hW : Below w.heap.size w W) => refhas_any m A n c B xs W (h.below (hW.mono hB)) hn (Nat.le_trans hB hW.size))
  have RY := Lib.hid (fun m W (hW : Below w.heap.size w W) => refhas_any m A1 n1 c1 B1 ys W (h1.below (hW.mono hB1)) hn1 (Nat.le_trans hB1 hW.size))
  have HB0 : Hid (Below w.heap.size w ((w.alloc (.cells #[.slice A n c] 27)).alloc (.cells #[.slice A1 n1 c1] 27))) := Lib.hid (((Below.refl _ _).alloc (Nat.le_refl _) _).alloc (by simp) _)
  have B00 : Hid (Blk ((w.alloc (.cells #[.slice A n c] 27)).alloc (.cells #[.slice A1 n1 c1] 27)) w.heap.size 27 #[.slice A n c]) := Lib.hid ((Blk.new _ _ _).alloc _)
  have B10 : Hid (Blk ((w.alloc (.cells #[.slice A n c] 27)).alloc (.cells #[.slice A1 n1 c1] 27)) (w.heap.size + 1) 27 #[.slice A1 n1 c1]) := Lib.hid (Blk.fresh (by simp))
  have FS := Lib.hid (fun k => show farK xs ys (k + 1) = farK xs ys k + if (xs.contains ((k : Int) + 1) != ys.contains ((k : Int) + 1)) = true then 1 else 0 from rfl)
  have FL := Lib.hid (farK_le xs ys)
  have F0 : Hid (farK xs ys 0 = 0) := Lib.hid rfl
  clear h h1
  generalize farK xs ys = FK at *
  go_enter Tryd.func24, Tryd.ntmps24
  go_wp2
  generalize ((w.alloc (.cells #[.slice A n c] 27)).alloc (.cells #[.slice A1 n1 c1] 27)) = W1 at *
  go_loopw [5, 6] (fun v i wr => ∃ k : Nat, k ≤ 5 ∧ i = .int .i64 ((k : Int) + 1) ∧ v = .int .i64 (FK k : Nat) ∧ Hid (Blk wr w.heap.size 27 #[.slice A n c]) ∧ Hid (Blk wr (w.heap.size + 1) 27 #[.slice A1 n1 c1]) ∧ Hid (Below w.heap.size w wr)) (fun _ i _ => 6 - (intOf i).toNat)
  case atStart => exact ⟨0, Nat.zero_le _, rfl, by rw [F0.out]; rfl, B00, B10, HB0⟩
  case round =>
    obtain ⟨k, hk, rfl, rfl, I0, I1, IB⟩ := hrel
    have fl := FL.out k
    by_cases hlt : k < 5
    · have fs := FS.out k
      have k0 : (0 : Int) ≤ (k : Int) := by omega
      have k5 : (k : Int) < 5 := by omega
      have HX := Lib.hid (fun W hW => RX.out ((k : Int) + 1) W hW)
      have HY := Lib.hid (fun W hW => RY.out ((k : Int) + 1) W hW)
      generalize xs.contains ((k : Int) + 1) = bx at *
      generalize ys.contains ((k : Int) + 1) = by_ at *
      obtain ⟨f1, hf1⟩ : ∃ f1, FK (k + 1) = f1 := ⟨_, rfl⟩
      rw [hf1] at fs
      have HF := Lib.hid hf1
      clear hf1
      generalize FK k = f0 at *
      go_upto_region 5 with fail
      have B01 : Hid (Blk wr.drew w.heap.size 27 #[.slice A n c]) := Lib.hid (I0.out.drewN 1)
      have B11 : Hid (Blk wr.drew (w.heap.size + 1) 27 #[.slice A1 n1 c1]) := Lib.hid (I1.out.drewN 1)
      have HB1 : Hid (Below w.heap.size w wr.drew) := Lib.hid IB.out.drew
      cases bx with
      | true =>
        cases by_ with
        | true =>
          have FE : Hid (FK (k + 1) = f0) := Lib.hid (by rw [HF.out, fs]; rfl)
          clear fs HF
          refine wp_region_noPanic ?_
          refine wp_region_held_drew (S := fun w' => w'.cell? ⟨w.heap.size, 0, none⟩ = some (.slice A n c) ∧ w'.cell? ⟨w.heap.size + 1, 0, none⟩ = some (.slice A1 n1 c1)) (by kernel_rfl) ⟨B01.out.cell 0, B11.out.cell 0⟩ (fun hHeld => ?_)
          refine take_d (i := 0) (d := 11) (v := ?z1) rfl rfl (by kernel_rfl) (by kernel_rfl) (by kernel_rfl) (fun _ _ _ h => h) (Or.inl ⟨by kernel_rfl, ?z1h⟩) hHeld ?z1n
          case z1h => (intro w hSw; (try dsimp only at hSw); go_split_ands; go_simp; (try exact rfl))
          try simp only [Act.put, List.setIfInBounds_toArray, List.set_cons_zero, List.set_cons_succ]
          refine take_d (i := 1) (d := 12) (v := ?z2) rfl rfl (by kernel_rfl) (by kernel_rfl) (by kernel_rfl) (fun _ _ _ h => h) (Or.inl ⟨by kernel_rfl, ?z2h⟩) hHeld ?z2n
          case z2h => (intro w hSw; (try dsimp only at hSw); go_split_ands; go_simp; (try exact rfl))
          try simp only [Act.put, List.setIfInBounds_toArray, List.set_cons_zero, List.set_cons_succ]
          refine take_d (i := 3) (d := 14) (v := ?z3) rfl rfl (by kernel_rfl) (by kernel_rfl) (by kernel_rfl) (fun _ _ _ h => h) (Or.inl ⟨by kernel_rfl, ?z3h⟩) hHeld ?z3n
          case z3h => (intro w hSw; (try dsimp only at hSw); go_split_ands; go_simp; (try exact rfl))
          try simp only [Act.put, List.setIfInBounds_toArray, List.set_cons_zero, List.set_cons_succ]
          refine take_d (i := 4) (d := 15) (v := ?z4) rfl rfl (by kernel_rfl) (by kernel_rfl) (by kernel_rfl) (fun _ _ _ h => h) (Or.inl ⟨by kernel_rfl, ?z4h⟩) hHeld ?z4n
          case z4h => (intro w hSw; (try dsimp only at hSw); go_split_ands; go_simp; (try exact rfl))
          try simp only [Act.put, List.setIfInBounds_toArray, List.set_cons_zero, List.set_cons_succ]
          refine wpAnyH_ready (rs := [2]) (by kernel_rfl) (by simp) ?_
          refine AllReadyH.cons rfl (fun K hK => ?_) AllReadyH.nil
          go_simp
          refine (HX.out _ HB1.out).mono ?_
          rintro e y2 ⟨rfl, hb⟩
          have HB2 := Lib.hid (HB1.out.trans (hb.mono HB1.out.size))
          have B02 := Lib.hid (B01.out.below hb B01.out.lt)
          have B12 := Lib.hid (B11.out.below hb B11.out.lt)
          clear hb
          refine hK.out _ _ ⟨B02.out.cell 0, B12.out.cell 0⟩ (fun hHeld => ?_)
          clear hK K
          try simp only [Act.put, List.setIfInBounds_toArray, List.set_cons_zero, List.set_cons_succ]
          refine wpAnyH_ready (rs := [5]) (by kernel_rfl) (by simp) ?_
          refine AllReadyH.cons rfl (fun K hK => ?_) AllReadyH.nil
          go_simp
          refine (HY.out _ HB2.out).mono ?_
          rintro e y3 ⟨rfl, hb⟩
          have HB3 := Lib.hid (HB2.out.trans (hb.mono HB2.out.size))
          have B03 := Lib.hid (B02.out.below hb B02.out.lt)
          have B13 := Lib.hid (B12.out.below hb B12.out.lt)
          clear hb
          refine hK.out _ _ ⟨B03.out.cell 0, B13.out.cell 0⟩ (fun hHeld => ?_)
          clear hK K
          try simp only [Act.put, List.setIfInBounds_toArray, List.set_cons_zero, List.set_cons_succ]
          refine take_d (i := 6) (d := 17) (v := .bool false) rfl rfl (by kernel_rfl) (by kernel_rfl) (by kernel_rfl) (fun _ _ _ h => h) (Or.inl ⟨by kernel_rfl, ?z5h⟩) hHeld ?_
          case z5h => (intro w hSw; (try dsimp only at hSw); go_split_ands; go_simp)
          try simp only [Act.put, List.setIfInBounds_toArray, List.set_cons_zero, List.set_cons_succ]
          refine wpAnyH_done (by kernel_rfl) ?_ _
          refine NoPanic.normal ?_
          go_wp2
          go_roundw
          case rel => exact ⟨k + 1, by omega, by go_num, by rw [FE.out], B03, B13, HB3⟩
          case measure => simp [intOf]; omega
        | false =>
          have FE : Hid (FK (k + 1) = f0 + 1) := Lib.hid (by rw [HF.out, fs]; rfl)
          clear fs HF
          refine wp_region_noPanic ?_
          refine wp_region_held_drew (S := fun w' => w'.cell? ⟨w.heap.size, 0, none⟩ = some (.slice A n c) ∧ w'.cell? ⟨w.heap.size + 1, 0, none⟩ = some (.slice A1 n1 c1)) (by kernel_rfl) ⟨B01.out.cell 0, B11.out.cell 0⟩ (fun hHeld => ?_)
          refine take_d (i := 0) (d := 11) (v := ?z1001) rfl rfl (by kernel_rfl) (by kernel_rfl) (by kernel_rfl) (fun _ _ _ h => h) (Or.inl ⟨by kernel_rfl, ?z1001h⟩) hHeld ?z1001n
          case z1001h => (intro w hSw; (try dsimp only at hSw); go_split_ands; go_simp; (try exact rfl))
          try simp only [Act.put, List.setIfInBounds_toArray, List.set_cons_zero, List.set_cons_succ]
          refine take_d (i := 1) (d := 12) (v := ?z1002) rfl rfl (by kernel_rfl) (by kernel_rfl) (by kernel_rfl) (fun _ _ _ h => h) (Or.inl ⟨by kernel_rfl, ?z1002h⟩) hHeld ?z1002n
          case z1002h => (intro w hSw; (try dsimp only at hSw); go_split_ands; go_simp; (try exact rfl))
          try simp only [Act.put, List.setIfInBounds_toArray, List.set_cons_zero, List.set_cons_succ]
          refine take_d (i := 3) (d := 14) (v := ?z1003) rfl rfl (by kernel_rfl) (by kernel_rfl) (by kernel_rfl) (fun _ _ _ h => h) (Or.inl ⟨by kernel_rfl, ?z1003h⟩) hHeld ?z1003n
          case z1003h => (intro w hSw; (try dsimp only at hSw); go_split_ands; go_simp; (try exact rfl))
          try simp only [Act.put, List.setIfInBounds_toArray, List.set_cons_zero, List.set_cons_succ]
          refine take_d (i := 4) (d := 15) (v := ?z1004) rfl rfl (by kernel_rfl) (by kernel_rfl) (by kernel_rfl) (fun _ _ _ h => h) (Or.inl ⟨by kernel_rfl, ?z1004h⟩) hHeld ?z1004n
          case z1004h => (intro w hSw; (try dsimp only at hSw); go_split_ands; go_simp; (try exact rfl))
          try simp only [Act.put, List.setIfInBounds_toArray, List.set_cons_zero, List.set_cons_succ]
          refine wpAnyH_ready (rs := [2]) (by kernel_rfl) (by simp) ?_
          refine AllReadyH.cons rfl (fun K hK => ?_) AllReadyH.nil
          go_simp
          refine (HX.out _ HB1.out).mono ?_
          rintro e y2 ⟨rfl, hb⟩
          have HB2 := Lib.hid (HB1.out.trans (hb.mono HB1.out.size))
          have B02 := Lib.hid (B01.out.below hb B01.out.lt)
          have B12 := Lib.hid (B11.out.below hb B11.out.lt)
          clear hb
          refine hK.out _ _ ⟨B02.out.cell 0, B12.out.cell 0⟩ (fun hHeld => ?_)
          clear hK K
          try simp only [Act.put, List.setIfInBounds_toArray, List.set_cons_zero, List.set_cons_succ]
          refine wpAnyH_ready (rs := [5]) (by kernel_rfl) (by simp) ?_
          refine AllReadyH.cons rfl (fun K hK => ?_) AllReadyH.nil
          go_simp
          refine (HY.out _ HB2.out).mono ?_
          rintro e y3 ⟨rfl, hb⟩
          have HB3 := Lib.hid (HB2.out.trans (hb.mono HB2.out.size))
          have B03 := Lib.hid (B02.out.below hb B02.out.lt)
          have B13 := Lib.hid (B12.out.below hb B12.out.lt)
          clear hb
          refine hK.out _ _ ⟨B03.out.cell 0, B13.out.cell 0⟩ (fun hHeld => ?_)
          clear hK K
          try simp only [Act.put, List.setIfInBounds_toArray, List.set_cons_zero, List.set_cons_succ]
          refine take_d (i := 6) (d := 17) (v := .bool true) rfl rfl (by kernel_rfl) (by kernel_rfl) (by kernel_rfl) (fun _ _ _ h => h) (Or.inl ⟨by kernel_rfl, ?z1005h⟩) hHeld ?_
          case z1005h => (intro w hSw; (try dsimp only at hSw); go_split_ands; go_simp)
          try simp only [Act.put, List.setIfInBounds_toArray, List.set_cons_zero, List.set_cons_succ]
          refine wpAnyH_done (by kernel_rfl) ?_ _
          refine NoPanic.normal ?_
          go_wp2
          go_roundw
          case rel => exact ⟨k + 1, by omega, by go_num, by rw [FE.out]; go_num, B03, B13, HB3⟩
          case measure => simp [intOf]; omega
      | false =>
        cases by_ with
        | true =>
          have FE : Hid (FK (k + 1) = f0 + 1) := Lib.hid (by rw [HF.out, fs]; rfl)
          clear fs HF
          refine wp_region_noPanic ?_
          refine wp_region_held_drew (S := fun w' => w'.cell? ⟨w.heap.size, 0, none⟩ = some (.slice A n c) ∧ w'.cell? ⟨w.heap.size + 1, 0, none⟩ = some (.slice A1 n1 c1)) (by kernel_rfl) ⟨B01.out.cell 0, B11.out.cell 0⟩ (fun hHeld => ?_)
          refine take_d (i := 0) (d := 11) (v := ?z2001) rfl rfl (by kernel_rfl) (by kernel_rfl) (by kernel_rfl) (fun _ _ _ h => h) (Or.inl ⟨by kernel_rfl, ?z2001h⟩) hHeld ?z2001n
          case z2001h => (intro w hSw; (try dsimp only at hSw); go_split_ands; go_simp; (try exact rfl))
          try simp only [Act.put, List.setIfInBounds_toArray, List.set_cons_zero, List.set_cons_succ]
          refine take_d (i := 1) (d := 12) (v := ?z2002) rfl rfl (by kernel_rfl) (by kernel_rfl) (by kernel_rfl) (fun _ _ _ h => h) (Or.inl ⟨by kernel_rfl, ?z2002h⟩) hHeld ?z2002n
          case z2002h => (intro w hSw; (try dsimp only at hSw); go_split_ands; go_simp; (try exact rfl))
          try simp only [Act.put, List.setIfInBounds_toArray, List.set_cons_zero, List.set_cons_succ]
          refine take_d (i := 3) (d := 14) (v := ?z2003) rfl rfl (by kernel_rfl) (by kernel_rfl) (by kernel_rfl) (fun _ _ _ h => h) (Or.inl ⟨by kernel_rfl, ?z2003h⟩) hHeld ?z2003n
          case z2003h => (intro w hSw; (try dsimp only at hSw); go_split_ands; go_simp; (try exact rfl))
          try simp only [Act.put, List.setIfInBounds_toArray, List.set_cons_zero, List.set_cons_succ]
          refine take_d (i := 4) (d := 15) (v := ?z2004) rfl rfl (by kernel_rfl) (by kernel_rfl) (by kernel_rfl) (fun _ _ _ h => h) (Or.inl ⟨by kernel_rfl, ?z2004h⟩) hHeld ?z2004n
          case z2004h => (intro w hSw; (try dsimp only at hSw); go_split_ands; go_simp; (try exact rfl))
          try simp only [Act.put, List.setIfInBounds_toArray, List.set_cons_zero, List.set_cons_succ]
          refine wpAnyH_ready (rs := [2]) (by kernel_rfl) (by simp) ?_
          refine AllReadyH.cons rfl (fun K hK => ?_) AllReadyH.nil
          go_simp
          refine (HX.out _ HB1.out).mono ?_
          rintro e y2 ⟨rfl, hb⟩
          have HB2 := Lib.hid (HB1.out.trans (hb.mono HB1.out.size))
          have B02 := Lib.hid (B01.out.below hb B01.out.lt)
          have B12 := Lib.hid (B11.out.below hb B11.out.lt)
          clear hb
          refine hK.out _ _ ⟨B02.out.cell 0, B12.out.cell 0⟩ (fun hHeld => ?_)
          clear hK K
          try simp only [Act.put, List.setIfInBounds_toArray, List.set_cons_zero, List.set_cons_succ]
          refine wpAnyH_ready (rs := [5]) (by kernel_rfl) (by simp) ?_
          refine AllReadyH.cons rfl (fun K hK => ?_) AllReadyH.nil
          go_simp
          refine (HY.out _ HB2.out).mono ?_
          rintro e y3 ⟨rfl, hb⟩
          have HB3 := Lib.hid (HB2.out.trans (hb.mono HB2.out.size))
          have B03 := Lib.hid (B02.out.below hb B02.out.lt)
          have B13 := Lib.hid (B12.out.below hb B12.out.lt)
          clear hb
          refine hK.out _ _ ⟨B03.out.cell 0, B13.out.cell 0⟩ (fun hHeld => ?_)
          clear hK K
          try simp only [Act.put, List.setIfInBounds_toArray, List.set_cons_zero, List.set_cons_succ]
          refine take_d (i := 6) (d := 17) (v := .bool true) rfl rfl (by kernel_rfl) (by kernel_rfl) (by kernel_rfl) (fun _ _ _ h => h) (Or.inl ⟨by kernel_rfl, ?z2005h⟩) hHeld ?_
          case z2005h => (intro w hSw; (try dsimp only at hSw); go_split_ands; go_simp)
          try simp only [Act.put, List.setIfInBounds_toArray, List.set_cons_zero, List.set_cons_succ]
          refine wpAnyH_done (by kernel_rfl) ?_ _
          refine NoPanic.normal ?_
          go_wp2
          go_roundw
          case rel => exact ⟨k + 1, by omega, by go_num, by rw [FE.out]; go_num, B03, B13, HB3⟩
          case measure => simp [intOf]; omega
        | false =>
          have FE : Hid (FK (k + 1) = f0) := Lib.hid (by rw [HF.out, fs]; rfl)
          clear fs HF
          refine wp_region_noPanic ?_
          refine wp_region_held_drew (S := fun w' => w'.cell? ⟨w.heap.size, 0, none⟩ = some (.slice A n c) ∧ w'.cell? ⟨w.heap.size + 1, 0, none⟩ = some (.slice A1 n1 c1)) (by kernel_rfl) ⟨B01.out.cell 0, B11.out.cell 0⟩ (fun hHeld => ?_)
          refine take_d (i := 0) (d := 11) (v := ?z3001) rfl rfl (by kernel_rfl) (by kernel_rfl) (by kernel_rfl) (fun _ _ _ h => h) (Or.inl ⟨by kernel_rfl, ?z3001h⟩) hHeld ?z3001n
          case z3001h => (intro w hSw; (try dsimp only at hSw); go_split_ands; go_simp; (try exact rfl))
          try simp only [Act.put, List.setIfInBounds_toArray, List.set_cons_zero, List.set_cons_succ]
          refine take_d (i := 1) (d := 12) (v := ?z3002) rfl rfl (by kernel_rfl) (by kernel_rfl) (by kernel_rfl) (fun _ _ _ h => h) (Or.inl ⟨by kernel_rfl, ?z3002h⟩) hHeld ?z3002n
          case z3002h => (intro w hSw; (try dsimp only at hSw); go_split_ands; go_simp; (try exact rfl))
          try simp only [Act.put, List.setIfInBounds_toArray, List.set_cons_zero, List.set_cons_succ]
          refine take_d (i := 3) (d := 14) (v := ?z3003) rfl rfl (by kernel_rfl) (by kernel_rfl) (by kernel_rfl) (fun _ _ _ h => h) (Or.inl ⟨by kernel_rfl, ?z3003h⟩) hHeld ?z3003n
          case z3003h => (intro w hSw; (try dsimp only at hSw); go_split_ands; go_simp; (try exact rfl))
          try simp only [Act.put, List.setIfInBounds_toArray, List.set_cons_zero, List.set_cons_succ]
          refine take_d (i := 4) (d := 15) (v := ?z3004) rfl rfl (by kernel_rfl) (by kernel_rfl) (by kernel_rfl) (fun _ _ _ h => h) (Or.inl ⟨by kernel_rfl, ?z3004h⟩) hHeld ?z3004n
          case z3004h => (intro w hSw; (try dsimp only at hSw); go_split_ands; go_simp; (try exact rfl))
          try simp only [Act.put, List.setIfInBounds_toArray, List.set_cons_zero, List.set_cons_succ]
          refine wpAnyH_ready (rs := [2]) (by kernel_rfl) (by simp) ?_
          refine AllReadyH.cons rfl (fun K hK => ?_) AllReadyH.nil
          go_simp
          refine (HX.out _ HB1.out).mono ?_
          rintro e y2 ⟨rfl, hb⟩
          have HB2 := Lib.hid (HB1.out.trans (hb.mono HB1.out.size))
          have B02 := Lib.hid (B01.out.below hb B01.out.lt)
          have B12 := Lib.hid (B11.out.below hb B11.out.lt)
          clear hb
          refine hK.out _ _ ⟨B02.out.cell 0, B12.out.cell 0⟩ (fun hHeld => ?_)
          clear hK K
          try simp only [Act.put, List.setIfInBounds_toArray, List.set_cons_zero, List.set_cons_succ]
          refine wpAnyH_ready (rs := [5]) (by kernel_rfl) (by simp) ?_
          refine AllReadyH.cons rfl (fun K hK => ?_) AllReadyH.nil
          go_simp
          refine (HY.out _ HB2.out).mono ?_
          rintro e y3 ⟨rfl, hb⟩
          have HB3 := Lib.hid (HB2.out.trans (hb.mono HB2.out.size))
          have B03 := Lib.hid (B02.out.below hb B02.out.lt)
          have B13 := Lib.hid (B12.out.below hb B12.out.lt)
          clear hb
          refine hK.out _ _ ⟨B03.out.cell 0, B13.out.cell 0⟩ (fun hHeld => ?_)
          clear hK K
          try simp only [Act.put, List.setIfInBounds_toArray, List.set_cons_zero, List.set_cons_succ]
          refine take_d (i := 6) (d := 17) (v := .bool false) rfl rfl (by kernel_rfl) (by kernel_rfl) (by kernel_rfl) (fun _ _ _ h => h) (Or.inl ⟨by kernel_rfl, ?z3005h⟩) hHeld ?_
          case z3005h => (intro w hSw; (try dsimp only at hSw); go_split_ands; go_simp)
          try simp only [Act.put, List.setIfInBounds_toArray, List.set_cons_zero, List.set_cons_succ]
          refine wpAnyH_done (by kernel_rfl) ?_ _
          refine NoPanic.normal ?_
          go_wp2
          go_roundw
          case rel => exact ⟨k + 1, by omega, by go_num, by rw [FE.out], B03, B13, HB3⟩
          case measure => simp [intOf]; omega

    · obtain rfl : k = 5 := by omega
      go_wp2
      go_ret
      exact ⟨rfl, IB.out⟩

theorem with_row : ∀ g : Fin 32, ∀ k : Fin 5, inG g.val ((k.val : Int) + 1) = false → row (amg (row g.val ++ [(k.val : Int) + 1])) = row (g.val + 2 ^ k.val) := by decide +kernel
theorem without_row : ∀ g : Fin 32, ∀ k : Fin 5, inG g.val ((k.val : Int) + 1) = true → (row g.val).filter (fun x => !(x == (k.val : Int) + 1)) = row (g.val - 2 ^ k.val) := by decide +kernel
set_option maxRecDepth 100000 in
set_option maxHeartbeats 2000000 in
theorem with_any (m : Int) (A : Option Addr) (n c B : Nat) (xs : List Int) (w : World) (h : Is w B A n xs) (hn : n ≤ 30) (hnil : A = none → c = 0) (hB : B ≤ w.heap.size) :
    Calls Tryd.prog 29 #[.agg #[.slice A n c], .int .i64 m] w (Cfd w (row (amg (xs ++ [m])))) := by
  have HB1 : Hid (Below w.heap.size w ((w.alloc (.cells #[.slice A n c] 27)).alloc (.cells #[.slice none 0 0] 27))) := Lib.hid (((Below.refl _ _).alloc (Nat.le_refl _) _).alloc (by simp) _)
  have B1 : Hid (Blk ((w.alloc (.cells #[.slice A n c] 27)).alloc (.cells #[.slice none 0 0] 27)) (w.heap.size + 1) 27 #[.slice none 0 0]) := Lib.hid (Blk.fresh (by simp))
  have HA : Hid (Below w.heap.size w (((w.alloc (.cells #[.slice A n c] 27)).alloc (.cells #[.slice none 0 0] 27)).alloc (.cells #[] 3))) := Lib.hid (HB1.out.alloc (by simp <;> omega) _)
  have B2 : Hid (Blk (((w.alloc (.cells #[.slice A n c] 27)).alloc (.cells #[.slice none 0 0] 27)).alloc (.cells #[] 3)) (w.heap.size + 1) 27 #[.slice none 0 0]) := Lib.hid (B1.out.alloc _)
  have OE : Hid (Ios (((w.alloc (.cells #[.slice A n c] 27)).alloc (.cells #[.slice none 0 0] 27)).alloc (.cells #[] 3)) (w.heap.size + 2) (some ⟨w.heap.size + 2, 0, none⟩) 0 0 []) := Lib.hid (by
    have := World.ownsRow_made (base := w.heap.size + 2) (e := 3) (size := 1) ((w.alloc (.cells #[.slice A n c] 27)).alloc (.cells #[.slice none 0 0] 27)) #[] 0 (by simp) (Nat.zero_le _) rfl
    have hs : ((w.alloc (.cells #[.slice A n c] 27)).alloc (.cells #[.slice none 0 0] 27)).heap.size = w.heap.size + 2 := by simp
    rw [hs] at this
    exact this)
  have HI := Lib.hid (h.below (HA.out.mono hB))
  have NIL := Lib.hid hnil
  clear h hnil
  go_enter Tryd.func29, Tryd.ntmps29
  go_wp2_with (first
    | (at_builtin
       refine append_is rfl (.tmp 5) (.tmp 7) rfl (w.heap.size + 2) (some ⟨w.heap.size + 2, 0, none⟩) 0 0 [] rfl OE.out B A n c xs rfl HI.out NIL.out (by omega) (by simp <;> omega) ?_
       intro A5 c5 w5 ho5 hg5
       rw [Nat.zero_add, List.nil_append] at ho5
       have O5 := Lib.hid ho5
       have B5 : Hid (Blk w5 (w.heap.size + 1) 27 #[.slice none 0 0]) := Lib.hid ((hg5.block (w.heap.size + 1) (by simp <;> omega) (fun e => by simp [Value.ownBlock] at e)).trans B2.out)
       have H5 : Hid (Below w.heap.size w w5) := Lib.hid (HA.out.grown hg5 (by simp <;> omega) (fun k hk => by simp [Value.ownBlock] at hk; omega))
       have S5 : Hid (w.heap.size + 2 ≤ w5.heap.size) := Lib.hid (by have := B5.out.lt; omega)
       have OA : Hid (Ios (w5.alloc (.cells #[.int .i64 m] 3)) (w.heap.size + 2) A5 n c5 xs) := Lib.hid (O5.out.below ((Below.refl _ _).alloc (Nat.le_refl _) _))
       have LT : Hid (Is (w5.alloc (.cells #[.int .i64 m] 3)) (w5.heap.size + 1) (some ⟨w5.heap.size, 0, none⟩) 1 [m]) := Lib.hid (Is.lit rfl rfl)
       have kk : n + 1 ≤ 1000000 := by omega
       clear ho5 hg5 OE)
    | (at_builtin
       refine append_is rfl (.tmp 8) (.tmp 10) rfl (w.heap.size + 2) A5 n c5 xs rfl OA.out (w5.heap.size + 1) (some ⟨w5.heap.size, 0, none⟩) 1 1 [m] rfl LT.out (fun e => by cases e) kk (by have := S5.out; simp; omega) ?_
       intro A6 c6 w6 ho6 hg6
       have O6 := Lib.hid ho6
       have B6 : Hid (Blk w6 (w.heap.size + 1) 27 #[.slice none 0 0]) := Lib.hid ((hg6.block (w.heap.size + 1) (by have := S5.out; simp; omega) (fun e => by have := (OA.out.lt _ e.symm).1; omega)).trans (B5.out.alloc _))
       have H6 : Hid (Below w.heap.size w w6) := Lib.hid ((H5.out.alloc (by have := S5.out; omega) _).grown hg6 (by have := S5.out; simp; omega) (fun k hk => by have := (OA.out.lt _ hk).1; omega))
       have OF := Lib.hid (of_any A6 (n + 1) c6 _ _ w6 O6.out.is_.1 kk (Nat.le_refl _))
       clear ho6 hg6)
    | (go_at_call 39
       refine OF.out.mono ?_
       rintro e w7 ⟨A7, n7, c7, rfl, hm7, hn7, hb7⟩
       have B7 := Lib.hid (B6.out.below hb7 B6.out.lt)
       have H7 := Lib.hid (H6.out.trans (hb7.mono H6.out.size))
       have M7 := Lib.hid hm7
       have N7 := Lib.hid hn7
       have d7 : w7.cell? ⟨w.heap.size + 1, 0, none⟩ = some (.slice none 0 0) := B7.out.cell 0
       have f7 : w7.frozen? ⟨w.heap.size + 1, 0, none⟩ = false := B7.out.frozen 0
       clear hm7 hn7 hb7))
  exact bodyPost_ret (ret27 rfl _ _ (w.heap.size + 1) _ rfl (B7.out.set_ 0 _)) rfl ⟨A7, n7, c7, rfl, (M7.out.setCell (p := ⟨w.heap.size + 1, 0, none⟩) B6.out.lt _).down H6.out.size, N7.out, H7.out.setCell (p := ⟨w.heap.size + 1, 0, none⟩) (by simp) _⟩

theorem wo_take {xs : List Int} {k : Nat} (h : k < xs.length) (m : Int) : (xs.take (k + 1)).filter (fun x => !(x == m)) = (xs.take k).filter (fun x => !(x == m)) ++ if (xs.getD k 0 == m) = true then [] else [xs.getD k 0] := by
  rw [List.take_succ_eq_append_getElem h, List.filter_append]
  have e : xs.getD k 0 = xs[k] := by simp [List.getD, h]
  rw [e]
  by_cases hp : (xs[k] == m) = true
  · rw [if_pos hp, List.filter_cons, hp]
    rfl
  · rw [if_neg hp, List.filter_cons, if_pos (by simpa using hp)]
    rfl

set_option maxRecDepth 100000 in
set_option maxHeartbeats 4000000 in
theorem without_any (m : Int) (A : Option Addr) (n c B : Nat) (xs : List Int) (w : World) (h : Is w B A n xs) (hn : n ≤ 5) (hB : B ≤ w.heap.size) :
    Calls Tryd.prog 28 #[.agg #[.slice A n c], .int .i64 m] w (Cfd w (xs.filter (fun x => !(x == m)))) := by
  obtain ⟨W1, hW1⟩ : ∃ W1, ((w.alloc (.cells #[.slice A n c] 27)).alloc (.cells #[.slice none 0 0] 27)).alloc (.cells #[.slice none 0 0] 27) = W1 := ⟨_, rfl⟩
  have B0 : Blk W1 w.heap.size 27 #[.slice A n c] := by rw [← hW1]; exact ((Blk.new _ _ _).alloc _).alloc _
  have B1 : Hid (Blk W1 (w.heap.size + 1) 27 #[.slice none 0 0]) := Lib.hid (by rw [← hW1]; exact (Blk.fresh (by simp)).alloc _)
  have B2 : Hid (Blk W1 (w.heap.size + 2) 27 #[.slice none 0 0]) := Lib.hid (by rw [← hW1]; exact Blk.fresh (by simp))
  have HB : Hid (Below w.heap.size w W1) := Lib.hid (by rw [← hW1]; exact (((Below.refl _ _).alloc (Nat.le_refl _) _).alloc (by simp) _).alloc (by simp; omega) _)
  have FK0 : Hid ((xs.take 0).filter (fun x => !(x == m)) = []) := Lib.hid rfl
  have FKS := Lib.hid (fun k (hk : k < xs.length) => wo_take hk m)
  have FKE : Hid ((xs.take n).filter (fun x => !(x == m)) = xs.filter (fun x => !(x == m))) := Lib.hid (by rw [List.take_of_length_le (by rw [h.1]; omega)])
  have FL : Hid (∀ k, ((xs.take k).filter (fun x => !(x == m))).length ≤ 5) := Lib.hid (fun k => Nat.le_trans (List.length_filter_le _ _) (by rw [List.length_take, h.1]; omega))
  have HL := Lib.hid h.1
  have H := Lib.hid (fun W (hW : Below w.heap.size w W) => (h.below (hW.mono hB)).2)
  have O0 : Hid (Ios W1 (w.heap.size + 3) none 0 0 ((xs.take 0).filter (fun x => !(x == m)))) := Lib.hid (by rw [FK0.out]; exact World.ownsRow_nil _ _ _ _)
  clear h FK0
  generalize xs.filter (fun x => !(x == m)) = FE at *
  obtain ⟨FK, hFK⟩ : ∃ FK : Nat → List Int, FK = fun k => (xs.take k).filter (fun x => !(x == m)) := ⟨_, rfl⟩
  have FKS' : Hid (∀ k, k < n → FK (k + 1) = FK k ++ if (xs.getD k 0 == m) = true then [] else [xs.getD k 0]) := Lib.hid (fun k hk => by rw [hFK]; exact FKS.out k (by rw [HL.out]; exact hk))
  have FKE' : Hid (FK n = FE) := Lib.hid (by rw [hFK]; exact FKE.out)
  have FL' : Hid (∀ k, (FK k).length ≤ 5) := Lib.hid (by rw [hFK]; exact FL.out)
  have O0' : Hid (Ios W1 (w.heap.size + 3) none 0 0 (FK 0)) := Lib.hid (by rw [hFK]; exact O0.out)
  clear hFK FKS FKE FL O0
  have x0 : W1.cell? ⟨w.heap.size, 0, none⟩ = some (.slice A n c) := B0.cell 0
  clear B0
  subst hW1
  go_enter Tryd.func28, Tryd.ntmps28
  go_upto_region 2 with (fail)
  generalize ((w.alloc (.cells #[.slice A n c] 27)).alloc (.cells #[.slice none 0 0] 27)).alloc (.cells #[.slice none 0 0] 27) = W1 at *
  go_wp2
  go_loopw [11] (fun i wr => ∃ (k j : Nat) (A3 : Option Addr) (c3 : Nat), k ≤ n ∧ i = .int .i64 (k : Int) ∧ j ≤ 5 ∧ Hid (Blk wr (w.heap.size + 1) 27 #[.slice none 0 0]) ∧ Hid (Blk wr (w.heap.size + 2) 27 #[.slice A3 j c3]) ∧ Hid (Ios wr (w.heap.size + 3) A3 j c3 (FK k)) ∧ Hid (Below w.heap.size w wr)) (fun i _ => n - (intOf i).toNat)
  case atStart => exact ⟨0, 0, none, 0, Nat.zero_le _, rfl, Nat.zero_le _, B1, B2, O0', HB⟩
  case round =>
    obtain ⟨k, j, A3, c3, hk, rfl, hj, I1, I2, IO, IB⟩ := hrel
    by_cases hlt : k < n
    · obtain ⟨b, o, rfl, hb, hc⟩ := H.out _ IB.out (by omega)
      have c1 := hc k hlt
      have k0 : (0 : Int) ≤ (k : Int) := by omega
      have SU := FKS'.out k hlt
      clear hc
      generalize xs.getD k 0 = z at *
      by_cases he : z = m
      · have hq : (z != m) = false := by simpa using he
        have SE : Hid (FK (k + 1) = FK k) := Lib.hid (by rw [SU, if_pos (by simpa using he), List.append_nil])
        clear he SU
        go_wp2
        go_roundw
        case rel => exact ⟨k + 1, j, A3, c3, by omega, by go_num, hj, I1, I2, Lib.hid (by rw [SE.out]; exact IO.out), IB⟩
        case measure => simp [intOf]; omega
      · have hq : (z != m) = true := by simpa using he
        have SE : Hid (FK (k + 1) = FK k ++ [z]) := Lib.hid (by rw [SU, if_neg (by simpa using he)])
        clear he SU
        have JL : Hid (j < 5) := Lib.hid (by
          have h1 := IO.out.is_.1.1
          have h2 := FL'.out (k + 1)
          rw [SE.out, List.length_append, h1] at h2
          simp at h2
          omega)
        have jj : j + 1 ≤ 1000000 := by omega
        have WS : Hid (w.heap.size + 3 ≤ wr.heap.size) := Lib.hid (by have := I2.out.lt; omega)
        have x2 : wr.cell? ⟨w.heap.size + 2, 0, none⟩ = some (.slice A3 j c3) := I2.out.cell 0
        have OA : Hid (Ios (wr.alloc (.cells #[.int .i64 z] 3)) (w.heap.size + 3) A3 j c3 (FK k)) := Lib.hid (IO.out.below ((Below.refl _ _).alloc (Nat.le_refl _) _))
        have LT : Hid (Is (wr.alloc (.cells #[.int .i64 z] 3)) (wr.heap.size + 1) (some ⟨wr.heap.size, 0, none⟩) 1 [z]) := Lib.hid (Is.lit rfl rfl)
        go_wp2_with (at_builtin; refine append_is rfl (.tmp 19) (.tmp 21) rfl (w.heap.size + 3) A3 j c3 (FK k) rfl OA.out (wr.heap.size + 1) (some ⟨wr.heap.size, 0, none⟩) 1 1 [z] rfl LT.out (fun e => by cases e) jj (by have := WS.out; simp; omega) ?_; intro A5 c5 w5 ho5 hg5; have O5 := Lib.hid ho5; have G5 := Lib.hid hg5; have B5 : Hid (Blk w5 (w.heap.size + 2) 27 #[.slice A3 j c3]) := Lib.hid ((hg5.block (w.heap.size + 2) (by have := WS.out; simp; omega) (fun e => by have := (OA.out.lt _ e.symm).1; omega)).trans (I2.out.alloc _)); have B6 : Hid (Blk w5 (w.heap.size + 1) 27 #[.slice none 0 0]) := Lib.hid ((hg5.block (w.heap.size + 1) (by have := WS.out; simp; omega) (fun e => by have := (OA.out.lt _ e.symm).1; omega)).trans (I1.out.alloc _)); have d5 : w5.cell? ⟨w.heap.size + 2, 0, none⟩ = some (.slice A3 j c3) := B5.out.cell 0; have f5 : w5.frozen? ⟨w.heap.size + 2, 0, none⟩ = false := B5.out.frozen 0; clear ho5 hg5)
        go_roundw
        case rel =>
          refine ⟨k + 1, j + 1, A5, c5, by omega, by go_num, by have := JL.out; omega, Lib.hid (B6.out.far (by show w.heap.size + 1 ≠ w.heap.size + 2; omega) _), Lib.hid (B5.out.set_ 0 _), Lib.hid ?_, Lib.hid ?_⟩
          · rw [SE.out]
            exact O5.out.setFar (p := ⟨w.heap.size + 2, 0, none⟩) (by show w.heap.size + 2 < w.heap.size + 3; omega) _
          · exact ((IB.out.alloc (by have := WS.out; omega) _).grown G5.out (by have := WS.out; simp; omega) (fun j hj => by have := (OA.out.lt _ hj).1; omega)).setCell (p := ⟨w.heap.size + 2, 0, none⟩) (by show w.heap.size ≤ w.heap.size + 2; omega) _
        case measure => simp [intOf]; omega
    · obtain rfl : k = n := by omega
      have x2 : wr.cell? ⟨w.heap.size + 2, 0, none⟩ = some (.slice A3 j c3) := I2.out.cell 0
      have x1 : wr.cell? ⟨w.heap.size + 1, 0, none⟩ = some (.slice none 0 0) := I1.out.cell 0
      have f1 : wr.frozen? ⟨w.heap.size + 1, 0, none⟩ = false := I1.out.frozen 0
      have IO2 : Hid (Ios wr (w.heap.size + 3) A3 j c3 FE) := Lib.hid (by rw [← FKE'.out]; exact IO.out)
      go_wp2
      exact bodyPost_ret (ret27 rfl _ _ (w.heap.size + 1) _ rfl (I1.out.set_ 0 _)) rfl ⟨A3, j, c3, rfl, ints_mi ((IO2.out.setFar (p := ⟨w.heap.size + 1, 0, none⟩) (by show w.heap.size + 1 < w.heap.size + 3; omega) _).down (by omega)), hj, IB.out.setCell (p := ⟨w.heap.size + 1, 0, none⟩) (by show w.heap.size ≤ w.heap.size + 1; omega) _⟩
end Go.Proofs.YtfclppopelmdgaaDoor
