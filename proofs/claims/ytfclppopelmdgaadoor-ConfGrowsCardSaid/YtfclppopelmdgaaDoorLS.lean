/-
  The law ConfShare: its walk.
-/
import Derived.Test.YtfclppopelmdgaaDoorCA
import Derived.Test.YtfclppopelmdgaaDoorCSh
import Derived.StillTailTactics
namespace Go.Proofs.YtfclppopelmdgaaDoor
open Go.RowKit
attribute [local go_sem ↓] field27

/-- A row of numbers that came in. -/
structure Arg (w : World) (A : Option Addr) (n c : Nat) (xs : List Int) : Prop where
  is_ : Is w w.heap.size A n xs
  nc : n ≤ c
  nil : A = none → c = 0
  cm : c ≤ 9223372036854775807
theorem Arg.few {w W : World} {A : Option Addr} {n c : Nat} {xs : List Int} (h : Arg w A n c xs) (hb : Below w.heap.size w W) : Calls Tryd.prog 12 #[.agg #[.slice A n c]] W (Few W xs) :=
  few_any A n c w.heap.size xs W (h.is_.below hb) h.nc h.nil h.cm hb.size
theorem Arg.part {w W : World} {A : Option Addr} {n c : Nat} {xs : List Int} (h : Arg w A n c xs) (hb : Below w.heap.size w W) : Calls Tryd.prog 11 #[.slice A n c] W (Prt W xs) :=
  part_any A n c w.heap.size xs W (h.is_.below hb) h.nc h.nil h.cm hb.size

set_option maxRecDepth 100000 in
set_option maxHeartbeats 8000000 in
theorem share_walk (A : Option Addr) (n c : Nat) (A1 : Option Addr) (n1 c1 : Nat) (A2 : Option Addr) (n2 c2 : Nat) (A3 : Option Addr) (n3 c3 : Nat) (xs ys zs us : List Int) (w : World)
    (h0 : Arg w A n c xs) (h1 : Arg w A1 n1 c1 ys) (h2 : Arg w A2 n2 c2 zs) (h3 : Arg w A3 n3 c3 us) (hG : Gl w) :
    Calls Tryd.prog 7 #[.agg #[.slice A n c], .agg #[.slice A1 n1 c1], .agg #[.slice A2 n2 c2, .slice A3 n3 c3]] w fun e w' => e = .returned (.bool true) ∧ Below w.heap.size w w' := by
  obtain ⟨g, hg⟩ : ∃ g, w.heap.size = g := ⟨_, rfl⟩
  have F0 := Lib.hid (fun W (hW : Below g w W) => h0.few (by rw [hg]; exact hW))
  have F1 := Lib.hid (fun W (hW : Below g w W) => h1.few (by rw [hg]; exact hW))
  have P2 := Lib.hid (fun W (hW : Below g w W) => h2.part (by rw [hg]; exact hW))
  have P3 := Lib.hid (fun W (hW : Below g w W) => h3.part (by rw [hg]; exact hW))
  have GW := Lib.hid (fun W (hW : Below g w W) => hG.below hW (by have := hG.lt; omega))
  have WK := Lib.hid (fun W (hW : Below g w W) => wakes_any W (GW.out W hW))
  have GS := Lib.hid hg
  have BA : Hid (Blk (((w.alloc (.cells #[.slice A n c] 27)).alloc (.cells #[.slice A1 n1 c1] 27)).alloc (.cells #[.slice A2 n2 c2, .slice A3 n3 c3] 55)) g 27 #[.slice A n c]) := Lib.hid (by rw [← hg]; exact ((Blk.new _ _ _).alloc _).alloc _)
  have BB : Hid (Blk (((w.alloc (.cells #[.slice A n c] 27)).alloc (.cells #[.slice A1 n1 c1] 27)).alloc (.cells #[.slice A2 n2 c2, .slice A3 n3 c3] 55)) (g + 1) 27 #[.slice A1 n1 c1]) := Lib.hid (by rw [← hg]; exact (Blk.fresh (by simp)).alloc _)
  have BC : Hid (Blk (((w.alloc (.cells #[.slice A n c] 27)).alloc (.cells #[.slice A1 n1 c1] 27)).alloc (.cells #[.slice A2 n2 c2, .slice A3 n3 c3] 55)) (g + 2) 55 #[.slice A2 n2 c2, .slice A3 n3 c3]) := Lib.hid (by rw [← hg]; exact Blk.fresh (by simp))
  have HB : Hid (Below g w (((w.alloc (.cells #[.slice A n c] 27)).alloc (.cells #[.slice A1 n1 c1] 27)).alloc (.cells #[.slice A2 n2 c2, .slice A3 n3 c3] 55))) := Lib.hid (by rw [← hg]; exact (((Below.refl _ _).alloc (Nat.le_refl _) _).alloc (by simp) _).alloc (by simp; omega) _)
  have CX : Hid (∀ W v, Blk W g 27 #[v] → W.cell? ⟨g, 0, none⟩ = some v) := Lib.hid (fun W v h => h.cell 0)
  have CY : Hid (∀ W v, Blk W (g + 1) 27 #[v] → W.cell? ⟨g + 1, 0, none⟩ = some v) := Lib.hid (fun W v h => h.cell 0)
  have CZ : Hid (∀ W u v, Blk W (g + 2) 55 #[u, v] → W.cell? ⟨g + 2, 0, none⟩ = some u ∧ W.cell? ⟨g + 2, 1, none⟩ = some v) := Lib.hid (fun W u v h => ⟨h.cell 0, h.cell 1⟩)
  clear h0 h1 h2 h3 hG
  go_enter Tryd.func7, Tryd.ntmps7
  go_upto_region 1 with (fail)
  generalize (((w.alloc (.cells #[.slice A n c] 27)).alloc (.cells #[.slice A1 n1 c1] 27)).alloc (.cells #[.slice A2 n2 c2, .slice A3 n3 c3] 55)) = u0 at *
  clear hg
  go_upto_region 3 with (go_at_call 10; refine (WK.out _ HB.out).mono ?_; rintro e v0 ⟨rfl, hb⟩; have HB0 := Lib.hid (HB.out.trans (hb.mono (by rw [← GS.out]; exact HB.out.size))); have B00 := Lib.hid (BA.out.below hb BA.out.lt); have B10 := Lib.hid (BB.out.below hb BB.out.lt); have B20 := Lib.hid (BC.out.below hb BC.out.lt); clear hb HB BA BB BC)
  obtain ⟨b0, hb0⟩ : ∃ b0, v0.heap.size = b0 := ⟨_, rfl⟩
  have HS0 : Hid (g + 2 < b0) := Lib.hid (by rw [← hb0]; exact B20.out.lt)
  have HV0 : Hid (b0 ≤ v0.heap.size) := Lib.hid (Nat.le_of_eq hb0.symm)
  clear hb0
  go_cut [] from 13 (fun wx => ∃ Px px qx Py py qy, Blk wx g 27 #[.slice Px px qx] ∧ Blk wx (g + 1) 27 #[.slice Py py qy] ∧ Blk wx (g + 2) 55 #[.slice A2 n2 c2, .slice A3 n3 c3] ∧ Ios wx b0 Px px qx (xs.take 30) ∧ Ios wx b0 Py py qy (ys.take 30) ∧ px ≤ 30 ∧ py ≤ 30 ∧ Below g w wx)
  case first =>
    refine wp_region_noPanic ?_
    refine wp_region_held_drew (S := fun w' => True) (by kernel_rfl) trivial (fun hHeld => ?_)
    have B01 : Hid (Blk v0.drew g 27 #[.slice A n c]) := Lib.hid (B00.out.drewN 1)
    have B11 : Hid (Blk v0.drew (g + 1) 27 #[.slice A1 n1 c1]) := Lib.hid (B10.out.drewN 1)
    have B21 : Hid (Blk v0.drew (g + 2) 55 #[.slice A2 n2 c2, .slice A3 n3 c3]) := Lib.hid (B20.out.drewN 1)
    have HB1 := Lib.hid HB0.out.drew
    have HV1 : Hid (b0 ≤ v0.drew.heap.size) := HV0
    generalize v0.drew = w1 at *
    refine wpAnyH_ready (rs := [0, 2]) (by kernel_rfl) (by simp) ?_
    refine AllReadyH.cons rfl (fun K hK => ?_) (AllReadyH.cons rfl (fun K hK => ?_) AllReadyH.nil)
    · skip
      have x0 := CX.out _ _ B01.out
      go_simp
      refine hK.out _ _ trivial (fun hHeld => ?_)
      clear hK K x0
      try simp only [Act.put, List.setIfInBounds_toArray, List.set_cons_zero, List.set_cons_succ]
      have HB2 := HB1
      have HV2 := HV1
      have B02 := B01
      have B12 := B11
      have B22 := B21
      refine wpAnyH_ready (rs := [1, 2]) (by kernel_rfl) (by simp) ?_
      refine AllReadyH.cons rfl (fun K hK => ?_) (AllReadyH.cons rfl (fun K hK => ?_) AllReadyH.nil)
      · skip
        go_simp
        refine (F0.out _ HB2.out).mono ?_
        rintro e w3 ⟨Px, px, qx, rfl, ho, hn, hb⟩
        have HB3 := Lib.hid (HB2.out.trans (hb.mono (by rw [← GS.out]; exact HB2.out.size)))
        have B03 := Lib.hid (B02.out.below hb B02.out.lt)
        have B13 := Lib.hid (B12.out.below hb B12.out.lt)
        have B23 := Lib.hid (B22.out.below hb B22.out.lt)
        have O03 := Lib.hid (ho.down HV2.out)
        have HV3 := Lib.hid (Nat.le_trans HV2.out hb.size)
        have N0 := Lib.hid hn
        clear hb ho hn
        refine hK.out _ _ trivial (fun hHeld => ?_)
        clear hK K
        try simp only [Act.put, List.setIfInBounds_toArray, List.set_cons_zero, List.set_cons_succ]
        refine wpAnyH_ready (rs := [2]) (by kernel_rfl) (by simp) ?_
        refine AllReadyH.cons rfl (fun K hK => ?_) AllReadyH.nil
        have x0 := CY.out _ _ B13.out
        go_simp
        refine hK.out _ _ trivial (fun hHeld => ?_)
        clear hK K x0
        try simp only [Act.put, List.setIfInBounds_toArray, List.set_cons_zero, List.set_cons_succ]
        have HB4 := HB3
        have HV4 := HV3
        have B04 := B03
        have B14 := B13
        have B24 := B23
        have O04 := O03
        refine wpAnyH_ready (rs := [3]) (by kernel_rfl) (by simp) ?_
        refine AllReadyH.cons rfl (fun K hK => ?_) AllReadyH.nil
        go_simp
        refine (F1.out _ HB4.out).mono ?_
        rintro e w5 ⟨Py, py, qy, rfl, ho, hn, hb⟩
        have HB5 := Lib.hid (HB4.out.trans (hb.mono (by rw [← GS.out]; exact HB4.out.size)))
        have B05 := Lib.hid (B04.out.below hb B04.out.lt)
        have B15 := Lib.hid (B14.out.below hb B14.out.lt)
        have B25 := Lib.hid (B24.out.below hb B24.out.lt)
        have O05 := Lib.hid (O04.out.below hb)
        have O15 := Lib.hid (ho.down HV4.out)
        have HV5 := Lib.hid (Nat.le_trans HV4.out hb.size)
        have N1 := Lib.hid hn
        clear hb ho hn
        refine hK.out _ _ trivial (fun hHeld => ?_)
        clear hK K
        try simp only [Act.put, List.setIfInBounds_toArray, List.set_cons_zero, List.set_cons_succ]
        refine wpAnyH_ready (rs := [4]) (by kernel_rfl) (by simp) ?_
        refine AllReadyH.cons rfl (fun K hK => ?_) AllReadyH.nil
        refine wp_store_blk 27 _ _ rfl (g) #[.slice A n c] 27 [.slice Px px qx] rfl rfl B05.out rfl Tryd.i27 (by simp [Value.oneCell']) ?_
        intro w6 hb ho
        have B06 := Lib.hid hb
        have B16 := Lib.hid (ho.keep B15.out (by omega))
        have B26 := Lib.hid (ho.keep B25.out (by omega))
        have HB6 := Lib.hid (HB5.out.trans (ho.below (by omega)))
        have O06 := Lib.hid (O05.out.onlyFar ho (by have := HS0.out; omega))
        have O16 := Lib.hid (O15.out.onlyFar ho (by have := HS0.out; omega))
        have HV6 := Lib.hid (Nat.le_trans HV5.out (Nat.le_of_eq ho.size.symm))
        clear hb ho
        refine hK.out _ _ trivial (fun hHeld => ?_)
        clear hK K
        try dsimp only [Act.put]
        try simp only [Act.put, List.setIfInBounds_toArray, List.set_cons_zero, List.set_cons_succ]
        refine wpAnyH_ready (rs := [5]) (by kernel_rfl) (by simp) ?_
        refine AllReadyH.cons rfl (fun K hK => ?_) AllReadyH.nil
        refine wp_store_blk 27 _ _ rfl (g + 1) #[.slice A1 n1 c1] 27 [.slice Py py qy] rfl rfl B16.out rfl Tryd.i27 (by simp [Value.oneCell']) ?_
        intro w7 hb ho
        have B17 := Lib.hid hb
        have B07 := Lib.hid (ho.keep B06.out (by omega))
        have B27 := Lib.hid (ho.keep B26.out (by omega))
        have HB7 := Lib.hid (HB6.out.trans (ho.below (by omega)))
        have O07 := Lib.hid (O06.out.onlyFar ho (by have := HS0.out; omega))
        have O17 := Lib.hid (O16.out.onlyFar ho (by have := HS0.out; omega))
        have HV7 := Lib.hid (Nat.le_trans HV6.out (Nat.le_of_eq ho.size.symm))
        clear hb ho
        refine hK.out _ _ trivial (fun hHeld => ?_)
        clear hK K
        try dsimp only [Act.put]
        try simp only [Act.put, List.setIfInBounds_toArray, List.set_cons_zero, List.set_cons_succ]
        refine wpAnyH_done (by kernel_rfl) ?_ _
        refine NoPanic.normal ?_
        go_wp2_with fail
        go_meet
        case rel => exact ⟨Px, px, qx, Py, py, qy, B07.out, B17.out, B27.out, O07.out, O17.out, N0.out, N1.out, HB7.out⟩
      · skip
        have x0 := CY.out _ _ B12.out
        go_simp
        refine hK.out _ _ trivial (fun hHeld => ?_)
        clear hK K x0
        try simp only [Act.put, List.setIfInBounds_toArray, List.set_cons_zero, List.set_cons_succ]
        have HB3 := HB2
        have HV3 := HV2
        have B03 := B02
        have B13 := B12
        have B23 := B22
        refine wpAnyH_ready (rs := [1]) (by kernel_rfl) (by simp) ?_
        refine AllReadyH.cons rfl (fun K hK => ?_) AllReadyH.nil
        go_simp
        refine (F0.out _ HB3.out).mono ?_
        rintro e w4 ⟨Px, px, qx, rfl, ho, hn, hb⟩
        have HB4 := Lib.hid (HB3.out.trans (hb.mono (by rw [← GS.out]; exact HB3.out.size)))
        have B04 := Lib.hid (B03.out.below hb B03.out.lt)
        have B14 := Lib.hid (B13.out.below hb B13.out.lt)
        have B24 := Lib.hid (B23.out.below hb B23.out.lt)
        have O04 := Lib.hid (ho.down HV3.out)
        have HV4 := Lib.hid (Nat.le_trans HV3.out hb.size)
        have N0 := Lib.hid hn
        clear hb ho hn
        refine hK.out _ _ trivial (fun hHeld => ?_)
        clear hK K
        try simp only [Act.put, List.setIfInBounds_toArray, List.set_cons_zero, List.set_cons_succ]
        refine wpAnyH_ready (rs := [3]) (by kernel_rfl) (by simp) ?_
        refine AllReadyH.cons rfl (fun K hK => ?_) AllReadyH.nil
        go_simp
        refine (F1.out _ HB4.out).mono ?_
        rintro e w5 ⟨Py, py, qy, rfl, ho, hn, hb⟩
        have HB5 := Lib.hid (HB4.out.trans (hb.mono (by rw [← GS.out]; exact HB4.out.size)))
        have B05 := Lib.hid (B04.out.below hb B04.out.lt)
        have B15 := Lib.hid (B14.out.below hb B14.out.lt)
        have B25 := Lib.hid (B24.out.below hb B24.out.lt)
        have O05 := Lib.hid (O04.out.below hb)
        have O15 := Lib.hid (ho.down HV4.out)
        have HV5 := Lib.hid (Nat.le_trans HV4.out hb.size)
        have N1 := Lib.hid hn
        clear hb ho hn
        refine hK.out _ _ trivial (fun hHeld => ?_)
        clear hK K
        try simp only [Act.put, List.setIfInBounds_toArray, List.set_cons_zero, List.set_cons_succ]
        refine wpAnyH_ready (rs := [4]) (by kernel_rfl) (by simp) ?_
        refine AllReadyH.cons rfl (fun K hK => ?_) AllReadyH.nil
        refine wp_store_blk 27 _ _ rfl (g) #[.slice A n c] 27 [.slice Px px qx] rfl rfl B05.out rfl Tryd.i27 (by simp [Value.oneCell']) ?_
        intro w6 hb ho
        have B06 := Lib.hid hb
        have B16 := Lib.hid (ho.keep B15.out (by omega))
        have B26 := Lib.hid (ho.keep B25.out (by omega))
        have HB6 := Lib.hid (HB5.out.trans (ho.below (by omega)))
        have O06 := Lib.hid (O05.out.onlyFar ho (by have := HS0.out; omega))
        have O16 := Lib.hid (O15.out.onlyFar ho (by have := HS0.out; omega))
        have HV6 := Lib.hid (Nat.le_trans HV5.out (Nat.le_of_eq ho.size.symm))
        clear hb ho
        refine hK.out _ _ trivial (fun hHeld => ?_)
        clear hK K
        try dsimp only [Act.put]
        try simp only [Act.put, List.setIfInBounds_toArray, List.set_cons_zero, List.set_cons_succ]
        refine wpAnyH_ready (rs := [5]) (by kernel_rfl) (by simp) ?_
        refine AllReadyH.cons rfl (fun K hK => ?_) AllReadyH.nil
        refine wp_store_blk 27 _ _ rfl (g + 1) #[.slice A1 n1 c1] 27 [.slice Py py qy] rfl rfl B16.out rfl Tryd.i27 (by simp [Value.oneCell']) ?_
        intro w7 hb ho
        have B17 := Lib.hid hb
        have B07 := Lib.hid (ho.keep B06.out (by omega))
        have B27 := Lib.hid (ho.keep B26.out (by omega))
        have HB7 := Lib.hid (HB6.out.trans (ho.below (by omega)))
        have O07 := Lib.hid (O06.out.onlyFar ho (by have := HS0.out; omega))
        have O17 := Lib.hid (O16.out.onlyFar ho (by have := HS0.out; omega))
        have HV7 := Lib.hid (Nat.le_trans HV6.out (Nat.le_of_eq ho.size.symm))
        clear hb ho
        refine hK.out _ _ trivial (fun hHeld => ?_)
        clear hK K
        try dsimp only [Act.put]
        try simp only [Act.put, List.setIfInBounds_toArray, List.set_cons_zero, List.set_cons_succ]
        refine wpAnyH_done (by kernel_rfl) ?_ _
        refine NoPanic.normal ?_
        go_wp2_with fail
        go_meet
        case rel => exact ⟨Px, px, qx, Py, py, qy, B07.out, B17.out, B27.out, O07.out, O17.out, N0.out, N1.out, HB7.out⟩
    · skip
      have x0 := CY.out _ _ B11.out
      go_simp
      refine hK.out _ _ trivial (fun hHeld => ?_)
      clear hK K x0
      try simp only [Act.put, List.setIfInBounds_toArray, List.set_cons_zero, List.set_cons_succ]
      have HB2 := HB1
      have HV2 := HV1
      have B02 := B01
      have B12 := B11
      have B22 := B21
      refine wpAnyH_ready (rs := [0]) (by kernel_rfl) (by simp) ?_
      refine AllReadyH.cons rfl (fun K hK => ?_) AllReadyH.nil
      have x0 := CX.out _ _ B02.out
      go_simp
      refine hK.out _ _ trivial (fun hHeld => ?_)
      clear hK K x0
      try simp only [Act.put, List.setIfInBounds_toArray, List.set_cons_zero, List.set_cons_succ]
      have HB3 := HB2
      have HV3 := HV2
      have B03 := B02
      have B13 := B12
      have B23 := B22
      refine wpAnyH_ready (rs := [1]) (by kernel_rfl) (by simp) ?_
      refine AllReadyH.cons rfl (fun K hK => ?_) AllReadyH.nil
      go_simp
      refine (F0.out _ HB3.out).mono ?_
      rintro e w4 ⟨Px, px, qx, rfl, ho, hn, hb⟩
      have HB4 := Lib.hid (HB3.out.trans (hb.mono (by rw [← GS.out]; exact HB3.out.size)))
      have B04 := Lib.hid (B03.out.below hb B03.out.lt)
      have B14 := Lib.hid (B13.out.below hb B13.out.lt)
      have B24 := Lib.hid (B23.out.below hb B23.out.lt)
      have O04 := Lib.hid (ho.down HV3.out)
      have HV4 := Lib.hid (Nat.le_trans HV3.out hb.size)
      have N0 := Lib.hid hn
      clear hb ho hn
      refine hK.out _ _ trivial (fun hHeld => ?_)
      clear hK K
      try simp only [Act.put, List.setIfInBounds_toArray, List.set_cons_zero, List.set_cons_succ]
      refine wpAnyH_ready (rs := [3]) (by kernel_rfl) (by simp) ?_
      refine AllReadyH.cons rfl (fun K hK => ?_) AllReadyH.nil
      go_simp
      refine (F1.out _ HB4.out).mono ?_
      rintro e w5 ⟨Py, py, qy, rfl, ho, hn, hb⟩
      have HB5 := Lib.hid (HB4.out.trans (hb.mono (by rw [← GS.out]; exact HB4.out.size)))
      have B05 := Lib.hid (B04.out.below hb B04.out.lt)
      have B15 := Lib.hid (B14.out.below hb B14.out.lt)
      have B25 := Lib.hid (B24.out.below hb B24.out.lt)
      have O05 := Lib.hid (O04.out.below hb)
      have O15 := Lib.hid (ho.down HV4.out)
      have HV5 := Lib.hid (Nat.le_trans HV4.out hb.size)
      have N1 := Lib.hid hn
      clear hb ho hn
      refine hK.out _ _ trivial (fun hHeld => ?_)
      clear hK K
      try simp only [Act.put, List.setIfInBounds_toArray, List.set_cons_zero, List.set_cons_succ]
      refine wpAnyH_ready (rs := [4]) (by kernel_rfl) (by simp) ?_
      refine AllReadyH.cons rfl (fun K hK => ?_) AllReadyH.nil
      refine wp_store_blk 27 _ _ rfl (g) #[.slice A n c] 27 [.slice Px px qx] rfl rfl B05.out rfl Tryd.i27 (by simp [Value.oneCell']) ?_
      intro w6 hb ho
      have B06 := Lib.hid hb
      have B16 := Lib.hid (ho.keep B15.out (by omega))
      have B26 := Lib.hid (ho.keep B25.out (by omega))
      have HB6 := Lib.hid (HB5.out.trans (ho.below (by omega)))
      have O06 := Lib.hid (O05.out.onlyFar ho (by have := HS0.out; omega))
      have O16 := Lib.hid (O15.out.onlyFar ho (by have := HS0.out; omega))
      have HV6 := Lib.hid (Nat.le_trans HV5.out (Nat.le_of_eq ho.size.symm))
      clear hb ho
      refine hK.out _ _ trivial (fun hHeld => ?_)
      clear hK K
      try dsimp only [Act.put]
      try simp only [Act.put, List.setIfInBounds_toArray, List.set_cons_zero, List.set_cons_succ]
      refine wpAnyH_ready (rs := [5]) (by kernel_rfl) (by simp) ?_
      refine AllReadyH.cons rfl (fun K hK => ?_) AllReadyH.nil
      refine wp_store_blk 27 _ _ rfl (g + 1) #[.slice A1 n1 c1] 27 [.slice Py py qy] rfl rfl B16.out rfl Tryd.i27 (by simp [Value.oneCell']) ?_
      intro w7 hb ho
      have B17 := Lib.hid hb
      have B07 := Lib.hid (ho.keep B06.out (by omega))
      have B27 := Lib.hid (ho.keep B26.out (by omega))
      have HB7 := Lib.hid (HB6.out.trans (ho.below (by omega)))
      have O07 := Lib.hid (O06.out.onlyFar ho (by have := HS0.out; omega))
      have O17 := Lib.hid (O16.out.onlyFar ho (by have := HS0.out; omega))
      have HV7 := Lib.hid (Nat.le_trans HV6.out (Nat.le_of_eq ho.size.symm))
      clear hb ho
      refine hK.out _ _ trivial (fun hHeld => ?_)
      clear hK K
      try dsimp only [Act.put]
      try simp only [Act.put, List.setIfInBounds_toArray, List.set_cons_zero, List.set_cons_succ]
      refine wpAnyH_done (by kernel_rfl) ?_ _
      refine NoPanic.normal ?_
      go_wp2_with fail
      go_meet
      case rel => exact ⟨Px, px, qx, Py, py, qy, B07.out, B17.out, B27.out, O07.out, O17.out, N0.out, N1.out, HB7.out⟩
  case rest =>
    obtain ⟨Px, px, qx, Py, py, qy, k0, k1, k2, k3, k4, k5, k6, k7⟩ := hcut
    go_upto_region 4 with (fail)
    generalize xs.take 30 = X at *
    generalize ys.take 30 = Y at *
    have B01 : Hid (Blk wc.drew g 27 #[.slice Px px qx]) := Lib.hid (k0.drewN 1)
    have B11 : Hid (Blk wc.drew (g + 1) 27 #[.slice Py py qy]) := Lib.hid (k1.drewN 1)
    have B21 : Hid (Blk wc.drew (g + 2) 55 #[.slice A2 n2 c2, .slice A3 n3 c3]) := Lib.hid (k2.drewN 1)
    have O01 : Hid (Ios wc.drew b0 Px px qx X) := Lib.hid (k3.below (Below.refl _ _).drew)
    have O11 : Hid (Ios wc.drew b0 Py py qy Y) := Lib.hid (k4.below (Below.refl _ _).drew)
    have HB1 : Hid (Below g w wc.drew) := Lib.hid k7.drew
    have N0 := Lib.hid k5
    have N1 := Lib.hid k6
    clear k0 k1 k2 k3 k4 k5 k6 k7 HB0 B00 B10 B20 HV0 F0 F1 WK
    refine wp_region_noPanic ?_
    refine wp_region_held_drew (S := fun w' => w'.cell? ⟨g + 2, 0, none⟩ = some (.slice A2 n2 c2) ∧ w'.cell? ⟨g + 2, 1, none⟩ = some (.slice A3 n3 c3)) (by kernel_rfl) (CZ.out _ _ _ B21.out) (fun hHeld => ?_)
    generalize wc.drew = w1 at *
    refine take_d (i := 0) (d := 17) (v := ?z1) rfl rfl (by kernel_rfl) (by kernel_rfl) (by kernel_rfl) (fun _ _ _ h => h) (Or.inl ⟨by kernel_rfl, ?z1h⟩) hHeld ?z1n
    case z1h => (intro w hSw; (try dsimp only at hSw); go_split_ands; go_simp; (try exact rfl))
    try simp only [Act.put, List.setIfInBounds_toArray, List.set_cons_zero, List.set_cons_succ]
    refine take_d (i := 1) (d := 18) (v := ?z2) rfl rfl (by kernel_rfl) (by kernel_rfl) (by kernel_rfl) (fun _ _ _ h => h) (Or.inl ⟨by kernel_rfl, ?z2h⟩) hHeld ?z2n
    case z2h => (intro w hSw; (try dsimp only at hSw); go_split_ands; go_simp; (try exact rfl))
    try simp only [Act.put, List.setIfInBounds_toArray, List.set_cons_zero, List.set_cons_succ]
    refine take_d (i := 3) (d := 20) (v := ?z3) rfl rfl (by kernel_rfl) (by kernel_rfl) (by kernel_rfl) (fun _ _ _ h => h) (Or.inl ⟨by kernel_rfl, ?z3h⟩) hHeld ?z3n
    case z3h => (intro w hSw; (try dsimp only at hSw); go_split_ands; go_simp; (try exact rfl))
    try simp only [Act.put, List.setIfInBounds_toArray, List.set_cons_zero, List.set_cons_succ]
    refine take_d (i := 4) (d := 21) (v := ?z4) rfl rfl (by kernel_rfl) (by kernel_rfl) (by kernel_rfl) (fun _ _ _ h => h) (Or.inl ⟨by kernel_rfl, ?z4h⟩) hHeld ?z4n
    case z4h => (intro w hSw; (try dsimp only at hSw); go_split_ands; go_simp; (try exact rfl))
    try simp only [Act.put, List.setIfInBounds_toArray, List.set_cons_zero, List.set_cons_succ]
    refine wpAnyH_ready (rs := [2]) (by kernel_rfl) (by simp) ?_
    refine AllReadyH.cons rfl (fun K hK => ?_) AllReadyH.nil
    go_simp
    refine (P2.out _ HB1.out).mono ?_
    rintro e w2 ⟨Pz, pz, qz, rfl, ho, hn, hb⟩
    have O22 := Lib.hid (ho.down (Nat.le_refl _))
    have HB2 := Lib.hid (HB1.out.trans (hb.mono (by rw [← GS.out]; exact HB1.out.size)))
    have B02 := Lib.hid (B01.out.below hb B01.out.lt)
    have B12 := Lib.hid (B11.out.below hb B11.out.lt)
    have B22 := Lib.hid (B21.out.below hb B21.out.lt)
    have O02 := Lib.hid (O01.out.below hb)
    have O12 := Lib.hid (O11.out.below hb)
    have N2 := Lib.hid hn
    clear hb ho hn
    refine hK.out _ _ (CZ.out _ _ _ B22.out) (fun hHeld => ?_)
    clear hK K
    try simp only [Act.put, List.setIfInBounds_toArray, List.set_cons_zero, List.set_cons_succ]
    refine wpAnyH_ready (rs := [5]) (by kernel_rfl) (by simp) ?_
    refine AllReadyH.cons rfl (fun K hK => ?_) AllReadyH.nil
    go_simp
    refine (P3.out _ HB2.out).mono ?_
    rintro e w3 ⟨Pu, pu, qu, rfl, ho, hn, hb⟩
    have O33 := Lib.hid (ho.down (Nat.le_refl _))
    have HB3 := Lib.hid (HB2.out.trans (hb.mono (by rw [← GS.out]; exact HB2.out.size)))
    have B03 := Lib.hid (B02.out.below hb B02.out.lt)
    have B13 := Lib.hid (B12.out.below hb B12.out.lt)
    have B23 := Lib.hid (B22.out.below hb B22.out.lt)
    have O03 := Lib.hid (O02.out.below hb)
    have O13 := Lib.hid (O12.out.below hb)
    have O23 := Lib.hid (O22.out.below hb)
    have N3 := Lib.hid hn
    clear hb ho hn
    refine hK.out _ _ (CZ.out _ _ _ B23.out) (fun hHeld => ?_)
    clear hK K
    try simp only [Act.put, List.setIfInBounds_toArray, List.set_cons_zero, List.set_cons_succ]
    refine take_d (i := 6) (d := 7) (v := ?z5) rfl rfl (by kernel_rfl) (by kernel_rfl) (by kernel_rfl) (fun _ _ _ h => h) (Or.inl ⟨by kernel_rfl, ?z5h⟩) hHeld ?z5n
    case z5h => (intro w hSw; (try dsimp only at hSw); go_split_ands; go_simp; (try exact rfl))
    try simp only [Act.put, List.setIfInBounds_toArray, List.set_cons_zero, List.set_cons_succ]
    refine take_d (i := 7) (d := 8) (v := ?z6) rfl rfl (by kernel_rfl) (by kernel_rfl) (by kernel_rfl) (fun _ _ _ h => h) (Or.inl ⟨by kernel_rfl, ?z6h⟩) hHeld ?z6n
    case z6h => (intro w hSw; (try dsimp only at hSw); go_split_ands; go_simp; (try exact rfl))
    try simp only [Act.put, List.setIfInBounds_toArray, List.set_cons_zero, List.set_cons_succ]
    refine wpAnyH_done (by kernel_rfl) ?_ _
    refine NoPanic.normal ?_
    generalize zs.take 30 = S at *
    generalize us.take 30 = U at *
    have IX := Lib.hid O03.out.is_.1
    have IY := Lib.hid O13.out.is_.1
    have IS := Lib.hid O23.out.is_.1
    have IU := Lib.hid O33.out.is_.1
    have GD := Lib.hid (fun W (hW : Below w3.heap.size w3 W) => GW.out W (HB3.out.trans (hW.mono (by rw [← GS.out]; exact HB3.out.size))))
    have ST := Lib.hid (fun W (hW : Below w3.heap.size w3 W) => step_any Py py qy w3.heap.size Y Px px qx w3.heap.size X W (IX.out.below hW) (by have := N0.out; omega) hW.size (GD.out W hW) (IY.out.below hW) (by have := N1.out; omega) hW.size)
    have M1 := Lib.hid (fun W (hW : Below w3.heap.size w3 W) => majority_any Pz pz qz w3.heap.size S Px px qx w3.heap.size X W (IX.out.below hW) (by have := N0.out; omega) hW.size (GD.out W hW) (IS.out.below hW) (by have := N2.out; omega) hW.size)
    have M2 := Lib.hid (fun W (hW : Below w3.heap.size w3 W) => majority_any Pu pu qu w3.heap.size U Py py qy w3.heap.size Y W (IY.out.below hW) (by have := N1.out; omega) hW.size (GD.out W hW) (IU.out.below hW) (by have := N3.out; omega) hW.size)
    have CT := Lib.hid (fun m W (hW : Below w3.heap.size w3 W) => contains_any Pu pu qu w3.heap.size U m W (IU.out.below hW) (by have := N3.out; omega))
    have H1 := Lib.hid (fun m W (hW : Below w3.heap.size w3 W) => hasc_any m Px px qx w3.heap.size X W (IX.out.below hW) (by have := N0.out; omega) hW.size (GD.out W hW))
    have H2 := Lib.hid (fun m W (hW : Below w3.heap.size w3 W) => hasc_any m Py py qy w3.heap.size Y W (IY.out.below hW) (by have := N1.out; omega) hW.size (GD.out W hW))
    have SH := Lib.hid (fun h h1 h2 => share_at (X := X) (Y := Y) (S := S) (T := U) h h1 h2)
    have HQ : Hid (∀ m, hitS X Y U m = (U.contains m && (inG (grp X) m || inG (grp Y) m))) := Lib.hid (fun m => rfl)
    have PN := N2.out
    have SL := Lib.hid IS.out.1
    have K0 := Lib.hid (fun W (hW : Below w3.heap.size w3 W) => CX.out W _ (B03.out.below hW B03.out.lt))
    have K1 := Lib.hid (fun W (hW : Below w3.heap.size w3 W) => CY.out W _ (B13.out.below hW B13.out.lt))
    have HBD := Lib.hid HB3.out
    have HSZ : Hid (g ≤ w3.heap.size) := Lib.hid (by rw [← GS.out]; exact HB3.out.size)
    have R0 : Hid (Below w3.heap.size w3 w3) := Lib.hid (Below.refl _ _)
    have x0 := K0.out _ R0.out
    have x1 := K1.out _ R0.out
    clear hHeld
    generalize stepE X Y = es at *
    generalize majB X S = m1 at *
    generalize majB Y U = m2 at *
    clear hHeld
    by_cases hes : es = 0
    · cases m1 with
      | true =>
        cases m2 with
        | true =>
          obtain ⟨kk, hkk, hit⟩ := SH.out hes rfl rfl
          have HIT := Lib.hid hit
          have HKK : Hid (kk < pz) := Lib.hid (by rw [← SL.out]; exact hkk)
          subst hes
          clear hit hkk SH
          go_wp2_with (first | (go_at_call 25; refine (ST.out _ R0.out).mono ?_; rintro e wa ⟨rfl, hb⟩; have QA := Lib.hid (R0.out.trans (hb.mono (Nat.le_refl _))); have xa0 := K0.out _ QA.out; have xa1 := K1.out _ QA.out; clear hb) | (go_at_call 19; refine (M1.out _ QA.out).mono ?_; rintro e wb ⟨rfl, hb⟩; have Q1 := Lib.hid (QA.out.trans (hb.mono QA.out.size)); have xb0 := K0.out _ Q1.out; have xb1 := K1.out _ Q1.out; clear hb M1) | (go_at_call 19; refine (M2.out _ Q1.out).mono ?_; rintro e wd ⟨rfl, hb⟩; have Q2 := Lib.hid (Q1.out.trans (hb.mono Q1.out.size)); have xd0 := K0.out _ Q2.out; have xd1 := K1.out _ Q2.out; clear hb M2))
          go_loopw [41] (fun i wr => ∃ k : Nat, k ≤ pz ∧ i = .int .i64 k ∧ Hid (∀ j, j < k → hitS X Y U (S.getD j 0) = false) ∧ Below w3.heap.size w3 wr) (fun i _ => pz - (intOf i).toNat)
          case atStart => exact ⟨0, Nat.zero_le _, rfl, Lib.hid (fun j hj => by omega), Q2.out⟩
          case round =>
            obtain ⟨k, hk, rfl, hz, hbr⟩ := hrel
            by_cases hlt : k < pz
            · obtain ⟨b, o, rfl, hbb, hcc⟩ := (IS.out.below hbr).2 (by omega)
              have y1 := hcc k hlt
              have k0 : (0 : Int) ≤ (k : Int) := by omega
              have q0 := K0.out _ hbr
              have q1 := K1.out _ hbr
              have QR := Lib.hid hbr
              have hq := HQ.out (S.getD k 0)
              have NXT : Hid (hitS X Y U (S.getD k 0) = false → ∀ j, j < k + 1 → hitS X Y U (S.getD j 0) = false) := Lib.hid (fun h j hj => by
                rcases Nat.lt_or_ge j k with h1 | h1
                · exact hz.out j h1
                · obtain rfl : j = k := by omega
                  exact h)
              clear hcc hz hbr x0 x1
              generalize S.getD k 0 = m at *
              have CM := Lib.hid (CT.out m)
              have HM := Lib.hid (H1.out m)
              have HM2 := Lib.hid (H2.out m)
              generalize inG (grp X) m = bx at *
              generalize inG (grp Y) m = by_ at *
              cases hc : U.contains m with
              | false =>
                rw [hc] at CM hq
                have NX := Lib.hid (NXT.out hq)
                clear hq hc NXT
                go_wp2_with (go_at_call 35; refine (CM.out _ QR.out).mono ?_; rintro e wq ⟨rfl, rfl⟩)
                go_roundw
                case rel => exact ⟨k + 1, by omega, by go_num, NX, QR.out⟩
                case measure => simp [intOf]; omega
              | true =>
                rw [hc] at CM hq
                cases bx with
                | true =>
                  clear hq hc NXT
                  go_wp2_with (first | (go_at_call 35; refine (CM.out _ QR.out).mono ?_; rintro e wq ⟨rfl, rfl⟩) | (go_at_call 15; refine (HM.out _ QR.out).mono ?_; rintro e wp ⟨rfl, hb⟩; have QP := Lib.hid (QR.out.trans (hb.mono QR.out.size)); clear hb))
                  go_ret
                  exact ⟨rfl, by rw [GS.out]; exact HBD.out.trans (QP.out.mono HSZ.out)⟩
                | false =>
                  cases by_ with
                  | true =>
                    clear hq hc NXT
                    go_wp2_with (first | (go_at_call 35; refine (CM.out _ QR.out).mono ?_; rintro e wq ⟨rfl, rfl⟩) | (go_at_call 15; refine (HM.out _ QR.out).mono ?_; rintro e wp ⟨rfl, hb⟩; have QP := Lib.hid (QR.out.trans (hb.mono QR.out.size)); clear hb HM; have z1 := K1.out _ QP.out) | (go_at_call 15; refine (HM2.out _ QP.out).mono ?_; rintro e wo ⟨rfl, hb⟩; have QO := Lib.hid (QP.out.trans (hb.mono QP.out.size)); clear hb))
                    go_ret
                    exact ⟨rfl, by rw [GS.out]; exact HBD.out.trans (QO.out.mono HSZ.out)⟩
                  | false =>
                    have NX := Lib.hid (NXT.out hq)
                    clear hq hc NXT
                    go_wp2_with (first | (go_at_call 35; refine (CM.out _ QR.out).mono ?_; rintro e wq ⟨rfl, rfl⟩) | (go_at_call 15; refine (HM.out _ QR.out).mono ?_; rintro e wp ⟨rfl, hb⟩; have QP := Lib.hid (QR.out.trans (hb.mono QR.out.size)); clear hb HM; have z1 := K1.out _ QP.out) | (go_at_call 15; refine (HM2.out _ QP.out).mono ?_; rintro e wo ⟨rfl, hb⟩; have QO := Lib.hid (QP.out.trans (hb.mono QP.out.size)); clear hb))
                    go_roundw
                    case rel => exact ⟨k + 1, by omega, by go_num, NX, QO.out⟩
                    case measure => simp [intOf]; omega
            · obtain rfl : k = pz := by omega
              have := hz.out kk HKK.out
              rw [HIT.out] at this
              cases this
        | false =>
          subst hes
          clear SH
          go_wp2_with (first | (go_at_call 25; refine (ST.out _ R0.out).mono ?_; rintro e wa ⟨rfl, hb⟩; have QA := Lib.hid (R0.out.trans (hb.mono (Nat.le_refl _))); have xa0 := K0.out _ QA.out; have xa1 := K1.out _ QA.out; clear hb) | (go_at_call 19; refine (M1.out _ QA.out).mono ?_; rintro e wb ⟨rfl, hb⟩; have Q1 := Lib.hid (QA.out.trans (hb.mono QA.out.size)); have xb0 := K0.out _ Q1.out; have xb1 := K1.out _ Q1.out; clear hb M1) | (go_at_call 19; refine (M2.out _ Q1.out).mono ?_; rintro e wd ⟨rfl, hb⟩; have Q2 := Lib.hid (Q1.out.trans (hb.mono Q1.out.size)); have xd0 := K0.out _ Q2.out; have xd1 := K1.out _ Q2.out; clear hb M2))
          go_ret
          exact ⟨rfl, by rw [GS.out]; exact HBD.out.trans (Q2.out.mono HSZ.out)⟩
      | false =>
        subst hes
        clear SH
        go_wp2_with (first | (go_at_call 25; refine (ST.out _ R0.out).mono ?_; rintro e wa ⟨rfl, hb⟩; have QA := Lib.hid (R0.out.trans (hb.mono (Nat.le_refl _))); have xa0 := K0.out _ QA.out; have xa1 := K1.out _ QA.out; clear hb) | (go_at_call 19; refine (M1.out _ QA.out).mono ?_; rintro e wb ⟨rfl, hb⟩; have Q1 := Lib.hid (QA.out.trans (hb.mono QA.out.size)); have xb0 := K0.out _ Q1.out; have xb1 := K1.out _ Q1.out; clear hb M1))
        go_ret
        exact ⟨rfl, by rw [GS.out]; exact HBD.out.trans (Q1.out.mono HSZ.out)⟩
    · have hes2 : (es != 0) = true := by simpa using hes
      clear SH hes
      go_wp2_with (go_at_call 25; refine (ST.out _ R0.out).mono ?_; rintro e wa ⟨rfl, hb⟩; have QA := Lib.hid (R0.out.trans (hb.mono (Nat.le_refl _))); have xa0 := K0.out _ QA.out; have xa1 := K1.out _ QA.out; clear hb)
      go_ret
      exact ⟨rfl, by rw [GS.out]; exact HBD.out.trans (QA.out.mono HSZ.out)⟩
end Go.Proofs.YtfclppopelmdgaaDoor
