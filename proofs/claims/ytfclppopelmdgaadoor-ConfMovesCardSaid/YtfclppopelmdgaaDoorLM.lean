/-
  The law ConfMoves: its walk.
-/
import Derived.Test.YtfclppopelmdgaaDoorCM
import Derived.Test.YtfclppopelmdgaaDoorLS
import Derived.Deep.CutBlock
namespace Go.Proofs.YtfclppopelmdgaaDoor
open Go.RowKit
attribute [local go_sem ↓] field27

theorem step_wrong {X Y : List Int} (h : rightC X = false ∨ rightC Y = false) : stepE X Y = 180 := by
  unfold rightC at h
  unfold stepE
  rw [if_pos (by simpa using h)]
theorem step_far {X Y : List Int} (hx : rightC X = true) (hy : rightC Y = true) : stepE X Y = if 1 < farK X Y 5 then 181 else 0 := by
  unfold rightC at hx hy
  have h1 : grp X ≠ 0 := by simpa using hx
  have h2 : grp Y ≠ 0 := by simpa using hy
  unfold stepE
  rw [if_neg (by omega), far_right h1 h2]
theorem Bc.drew {w : World} {q : Nat} {A : Option Addr} {n c : Nat} {xs : List Int} (h : Bc w q A n c xs) : Bc w.drew q A n c xs := ⟨h.blk.drewN 1, h.is_.below (Below.refl _ _).drew, h.le⟩

set_option maxRecDepth 100000 in
set_option maxHeartbeats 16000000 in
theorem moves_walk (A : Option Addr) (n c : Nat) (A1 : Option Addr) (n1 c1 : Nat) (A2 : Option Addr) (n2 c2 : Nat) (xs ys zs : List Int) (w : World)
    (h0 : Arg w A n c xs) (h1 : Arg w A1 n1 c1 ys) (h2 : Arg w A2 n2 c2 zs) (hG : Gl w) :
    Calls Tryd.prog 5 #[.agg #[.slice A n c], .agg #[.slice A1 n1 c1], .slice A2 n2 c2] w fun e w' => e = .returned (.bool true) ∧ Below w.heap.size w w' := by
  obtain ⟨g, hg⟩ : ∃ g, w.heap.size = g := ⟨_, rfl⟩
  have F0 := Lib.hid (fun W (hW : Below g w W) => h0.few (by rw [hg]; exact hW))
  have F1 := Lib.hid (fun W (hW : Below g w W) => h1.few (by rw [hg]; exact hW))
  have MI := Lib.hid (fun W (hW : Below g w W) => show Is W g A2 n2 zs by rw [← hg]; exact h2.is_.below (by rw [hg]; exact hW))
  have GW := Lib.hid (fun W (hW : Below g w W) => hG.below hW (by have := hG.lt; omega))
  have WK := Lib.hid (fun W (hW : Below g w W) => wakes_any W (GW.out W hW))
  have GS := Lib.hid hg
  have hm63 : (n2 : Int) ≤ 9223372036854775807 := by have := h2.nc; have := h2.cm; omega
  have BA : Hid (Blk ((w.alloc (.cells #[.slice A n c] 27)).alloc (.cells #[.slice A1 n1 c1] 27)) g 27 #[.slice A n c]) := Lib.hid (by rw [← hg]; exact (Blk.new _ _ _).alloc _)
  have BB : Hid (Blk ((w.alloc (.cells #[.slice A n c] 27)).alloc (.cells #[.slice A1 n1 c1] 27)) (g + 1) 27 #[.slice A1 n1 c1]) := Lib.hid (by rw [← hg]; exact Blk.fresh (by simp))
  have HB : Hid (Below g w ((w.alloc (.cells #[.slice A n c] 27)).alloc (.cells #[.slice A1 n1 c1] 27))) := Lib.hid (by rw [← hg]; exact ((Below.refl _ _).alloc (Nat.le_refl _) _).alloc (by simp) _)
  have CX : Hid (∀ W v, Blk W g 27 #[v] → W.cell? ⟨g, 0, none⟩ = some v) := Lib.hid (fun W v h => h.cell 0)
  have CY : Hid (∀ W v, Blk W (g + 1) 27 #[v] → W.cell? ⟨g + 1, 0, none⟩ = some v) := Lib.hid (fun W v h => h.cell 0)
  clear h0 h1 h2 hG
  go_enter Tryd.func5, Tryd.ntmps5
  go_upto_region 1 with (fail)
  generalize ((w.alloc (.cells #[.slice A n c] 27)).alloc (.cells #[.slice A1 n1 c1] 27)) = u0 at *
  clear hg
  go_upto_region 3 with (go_at_call 10; refine (WK.out _ HB.out).mono ?_; rintro e v0 ⟨rfl, hb⟩; have HB0 := Lib.hid (HB.out.trans (hb.mono (by rw [← GS.out]; exact HB.out.size))); have B00 := Lib.hid (BA.out.below hb BA.out.lt); have B10 := Lib.hid (BB.out.below hb BB.out.lt); clear hb HB BA BB)
  obtain ⟨b0, hb0⟩ : ∃ b0, v0.heap.size = b0 := ⟨_, rfl⟩
  have HS0 : Hid (g + 1 < b0) := Lib.hid (by rw [← hb0]; exact B10.out.lt)
  have HV0 : Hid (b0 ≤ v0.heap.size) := Lib.hid (Nat.le_of_eq hb0.symm)
  clear hb0
  go_cut [] from 26 (fun wx => ∃ Px px qx Py py qy, Blk wx g 27 #[.slice Px px qx] ∧ Blk wx (g + 1) 27 #[.slice Py py qy] ∧ Ios wx b0 Px px qx (xs.take 30) ∧ Ios wx b0 Py py qy (ys.take 30) ∧ px ≤ 30 ∧ py ≤ 30 ∧ Below g w wx)
  case first =>
    refine wp_region_noPanic ?_
    refine wp_region_held_drew (S := fun w' => True) (by kernel_rfl) trivial (fun hHeld => ?_)
    have B01 : Hid (Blk v0.drew g 27 #[.slice A n c]) := Lib.hid (B00.out.drewN 1)
    have B11 : Hid (Blk v0.drew (g + 1) 27 #[.slice A1 n1 c1]) := Lib.hid (B10.out.drewN 1)
    have HB1 := Lib.hid HB0.out.drew
    have HV1 : Hid (b0 ≤ v0.drew.heap.size) := HV0
    generalize v0.drew = w1 at *
    refine wpAnyH_ready (rs := [0, 2]) (by kernel_rfl) (by simp) ?_
    refine AllReadyH.cons rfl (fun K hK => ?_) (AllReadyH.cons rfl (fun K hK => ?_) AllReadyH.nil)
    · skip
      have x0 := CX.out _ _ B01.out
      go_simp
      refine hK.out _ _ trivial (fun hHeld => ?_)
      clear hK K x0
      try simp only [Act.put, List.setIfInBounds_toArray, List.set_cons_zero, List.set_cons_succ]
      have HB2 := HB1
      have HV2 := HV1
      have B02 := B01
      have B12 := B11
      refine wpAnyH_ready (rs := [1, 2]) (by kernel_rfl) (by simp) ?_
      refine AllReadyH.cons rfl (fun K hK => ?_) (AllReadyH.cons rfl (fun K hK => ?_) AllReadyH.nil)
      · skip
        go_simp
        refine (F0.out _ HB2.out).mono ?_
        rintro e w3 ⟨Px, px, qx, rfl, ho, hn, hb⟩
        have HB3 := Lib.hid (HB2.out.trans (hb.mono (by rw [← GS.out]; exact HB2.out.size)))
        have B03 := Lib.hid (B02.out.below hb B02.out.lt)
        have B13 := Lib.hid (B12.out.below hb B12.out.lt)
        have O03 := Lib.hid (ho.down HV2.out)
        have HV3 := Lib.hid (Nat.le_trans HV2.out hb.size)
        have N0 := Lib.hid hn
        clear hb ho hn
        refine hK.out _ _ trivial (fun hHeld => ?_)
        clear hK K
        try simp only [Act.put, List.setIfInBounds_toArray, List.set_cons_zero, List.set_cons_succ]
        refine wpAnyH_ready (rs := [2]) (by kernel_rfl) (by simp) ?_
        refine AllReadyH.cons rfl (fun K hK => ?_) AllReadyH.nil
        have x0 := CY.out _ _ B13.out
        go_simp
        refine hK.out _ _ trivial (fun hHeld => ?_)
        clear hK K x0
        try simp only [Act.put, List.setIfInBounds_toArray, List.set_cons_zero, List.set_cons_succ]
        have HB4 := HB3
        have HV4 := HV3
        have B04 := B03
        have B14 := B13
        have O04 := O03
        refine wpAnyH_ready (rs := [3]) (by kernel_rfl) (by simp) ?_
        refine AllReadyH.cons rfl (fun K hK => ?_) AllReadyH.nil
        go_simp
        refine (F1.out _ HB4.out).mono ?_
        rintro e w5 ⟨Py, py, qy, rfl, ho, hn, hb⟩
        have HB5 := Lib.hid (HB4.out.trans (hb.mono (by rw [← GS.out]; exact HB4.out.size)))
        have B05 := Lib.hid (B04.out.below hb B04.out.lt)
        have B15 := Lib.hid (B14.out.below hb B14.out.lt)
        have O05 := Lib.hid (O04.out.below hb)
        have O15 := Lib.hid (ho.down HV4.out)
        have HV5 := Lib.hid (Nat.le_trans HV4.out hb.size)
        have N1 := Lib.hid hn
        clear hb ho hn
        refine hK.out _ _ trivial (fun hHeld => ?_)
        clear hK K
        try simp only [Act.put, List.setIfInBounds_toArray, List.set_cons_zero, List.set_cons_succ]
        refine wpAnyH_ready (rs := [4]) (by kernel_rfl) (by simp) ?_
        refine AllReadyH.cons rfl (fun K hK => ?_) AllReadyH.nil
        refine wp_store_blk 27 _ _ rfl (g) #[.slice A n c] 27 [.slice Px px qx] rfl rfl B05.out rfl Tryd.i27 (by simp [Value.oneCell']) ?_
        intro w6 hb ho
        have B06 := Lib.hid hb
        have B16 := Lib.hid (ho.keep B15.out (by omega))
        have HB6 := Lib.hid (HB5.out.trans (ho.below (by omega)))
        have O06 := Lib.hid (O05.out.onlyFar ho (by have := HS0.out; omega))
        have O16 := Lib.hid (O15.out.onlyFar ho (by have := HS0.out; omega))
        have HV6 := Lib.hid (Nat.le_trans HV5.out (Nat.le_of_eq ho.size.symm))
        clear hb ho
        refine hK.out _ _ trivial (fun hHeld => ?_)
        clear hK K
        try dsimp only [Act.put]
        try simp only [Act.put, List.setIfInBounds_toArray, List.set_cons_zero, List.set_cons_succ]
        refine wpAnyH_ready (rs := [5]) (by kernel_rfl) (by simp) ?_
        refine AllReadyH.cons rfl (fun K hK => ?_) AllReadyH.nil
        refine wp_store_blk 27 _ _ rfl (g + 1) #[.slice A1 n1 c1] 27 [.slice Py py qy] rfl rfl B16.out rfl Tryd.i27 (by simp [Value.oneCell']) ?_
        intro w7 hb ho
        have B17 := Lib.hid hb
        have B07 := Lib.hid (ho.keep B06.out (by omega))
        have HB7 := Lib.hid (HB6.out.trans (ho.below (by omega)))
        have O07 := Lib.hid (O06.out.onlyFar ho (by have := HS0.out; omega))
        have O17 := Lib.hid (O16.out.onlyFar ho (by have := HS0.out; omega))
        have HV7 := Lib.hid (Nat.le_trans HV6.out (Nat.le_of_eq ho.size.symm))
        clear hb ho
        refine hK.out _ _ trivial (fun hHeld => ?_)
        clear hK K
        try dsimp only [Act.put]
        try simp only [Act.put, List.setIfInBounds_toArray, List.set_cons_zero, List.set_cons_succ]
        refine wpAnyH_done (by kernel_rfl) ?_ _
        refine NoPanic.normal ?_
        go_wp2_with fail
        go_meet
        case rel => exact ⟨Px, px, qx, Py, py, qy, B07.out, B17.out, O07.out, O17.out, N0.out, N1.out, HB7.out⟩
      · skip
        have x0 := CY.out _ _ B12.out
        go_simp
        refine hK.out _ _ trivial (fun hHeld => ?_)
        clear hK K x0
        try simp only [Act.put, List.setIfInBounds_toArray, List.set_cons_zero, List.set_cons_succ]
        have HB3 := HB2
        have HV3 := HV2
        have B03 := B02
        have B13 := B12
        refine wpAnyH_ready (rs := [1]) (by kernel_rfl) (by simp) ?_
        refine AllReadyH.cons rfl (fun K hK => ?_) AllReadyH.nil
        go_simp
        refine (F0.out _ HB3.out).mono ?_
        rintro e w4 ⟨Px, px, qx, rfl, ho, hn, hb⟩
        have HB4 := Lib.hid (HB3.out.trans (hb.mono (by rw [← GS.out]; exact HB3.out.size)))
        have B04 := Lib.hid (B03.out.below hb B03.out.lt)
        have B14 := Lib.hid (B13.out.below hb B13.out.lt)
        have O04 := Lib.hid (ho.down HV3.out)
        have HV4 := Lib.hid (Nat.le_trans HV3.out hb.size)
        have N0 := Lib.hid hn
        clear hb ho hn
        refine hK.out _ _ trivial (fun hHeld => ?_)
        clear hK K
        try simp only [Act.put, List.setIfInBounds_toArray, List.set_cons_zero, List.set_cons_succ]
        refine wpAnyH_ready (rs := [3]) (by kernel_rfl) (by simp) ?_
        refine AllReadyH.cons rfl (fun K hK => ?_) AllReadyH.nil
        go_simp
        refine (F1.out _ HB4.out).mono ?_
        rintro e w5 ⟨Py, py, qy, rfl, ho, hn, hb⟩
        have HB5 := Lib.hid (HB4.out.trans (hb.mono (by rw [← GS.out]; exact HB4.out.size)))
        have B05 := Lib.hid (B04.out.below hb B04.out.lt)
        have B15 := Lib.hid (B14.out.below hb B14.out.lt)
        have O05 := Lib.hid (O04.out.below hb)
        have O15 := Lib.hid (ho.down HV4.out)
        have HV5 := Lib.hid (Nat.le_trans HV4.out hb.size)
        have N1 := Lib.hid hn
        clear hb ho hn
        refine hK.out _ _ trivial (fun hHeld => ?_)
        clear hK K
        try simp only [Act.put, List.setIfInBounds_toArray, List.set_cons_zero, List.set_cons_succ]
        refine wpAnyH_ready (rs := [4]) (by kernel_rfl) (by simp) ?_
        refine AllReadyH.cons rfl (fun K hK => ?_) AllReadyH.nil
        refine wp_store_blk 27 _ _ rfl (g) #[.slice A n c] 27 [.slice Px px qx] rfl rfl B05.out rfl Tryd.i27 (by simp [Value.oneCell']) ?_
        intro w6 hb ho
        have B06 := Lib.hid hb
        have B16 := Lib.hid (ho.keep B15.out (by omega))
        have HB6 := Lib.hid (HB5.out.trans (ho.below (by omega)))
        have O06 := Lib.hid (O05.out.onlyFar ho (by have := HS0.out; omega))
        have O16 := Lib.hid (O15.out.onlyFar ho (by have := HS0.out; omega))
        have HV6 := Lib.hid (Nat.le_trans HV5.out (Nat.le_of_eq ho.size.symm))
        clear hb ho
        refine hK.out _ _ trivial (fun hHeld => ?_)
        clear hK K
        try dsimp only [Act.put]
        try simp only [Act.put, List.setIfInBounds_toArray, List.set_cons_zero, List.set_cons_succ]
        refine wpAnyH_ready (rs := [5]) (by kernel_rfl) (by simp) ?_
        refine AllReadyH.cons rfl (fun K hK => ?_) AllReadyH.nil
        refine wp_store_blk 27 _ _ rfl (g + 1) #[.slice A1 n1 c1] 27 [.slice Py py qy] rfl rfl B16.out rfl Tryd.i27 (by simp [Value.oneCell']) ?_
        intro w7 hb ho
        have B17 := Lib.hid hb
        have B07 := Lib.hid (ho.keep B06.out (by omega))
        have HB7 := Lib.hid (HB6.out.trans (ho.below (by omega)))
        have O07 := Lib.hid (O06.out.onlyFar ho (by have := HS0.out; omega))
        have O17 := Lib.hid (O16.out.onlyFar ho (by have := HS0.out; omega))
        have HV7 := Lib.hid (Nat.le_trans HV6.out (Nat.le_of_eq ho.size.symm))
        clear hb ho
        refine hK.out _ _ trivial (fun hHeld => ?_)
        clear hK K
        try dsimp only [Act.put]
        try simp only [Act.put, List.setIfInBounds_toArray, List.set_cons_zero, List.set_cons_succ]
        refine wpAnyH_done (by kernel_rfl) ?_ _
        refine NoPanic.normal ?_
        go_wp2_with fail
        go_meet
        case rel => exact ⟨Px, px, qx, Py, py, qy, B07.out, B17.out, O07.out, O17.out, N0.out, N1.out, HB7.out⟩
    · skip
      have x0 := CY.out _ _ B11.out
      go_simp
      refine hK.out _ _ trivial (fun hHeld => ?_)
      clear hK K x0
      try simp only [Act.put, List.setIfInBounds_toArray, List.set_cons_zero, List.set_cons_succ]
      have HB2 := HB1
      have HV2 := HV1
      have B02 := B01
      have B12 := B11
      refine wpAnyH_ready (rs := [0]) (by kernel_rfl) (by simp) ?_
      refine AllReadyH.cons rfl (fun K hK => ?_) AllReadyH.nil
      have x0 := CX.out _ _ B02.out
      go_simp
      refine hK.out _ _ trivial (fun hHeld => ?_)
      clear hK K x0
      try simp only [Act.put, List.setIfInBounds_toArray, List.set_cons_zero, List.set_cons_succ]
      have HB3 := HB2
      have HV3 := HV2
      have B03 := B02
      have B13 := B12
      refine wpAnyH_ready (rs := [1]) (by kernel_rfl) (by simp) ?_
      refine AllReadyH.cons rfl (fun K hK => ?_) AllReadyH.nil
      go_simp
      refine (F0.out _ HB3.out).mono ?_
      rintro e w4 ⟨Px, px, qx, rfl, ho, hn, hb⟩
      have HB4 := Lib.hid (HB3.out.trans (hb.mono (by rw [← GS.out]; exact HB3.out.size)))
      have B04 := Lib.hid (B03.out.below hb B03.out.lt)
      have B14 := Lib.hid (B13.out.below hb B13.out.lt)
      have O04 := Lib.hid (ho.down HV3.out)
      have HV4 := Lib.hid (Nat.le_trans HV3.out hb.size)
      have N0 := Lib.hid hn
      clear hb ho hn
      refine hK.out _ _ trivial (fun hHeld => ?_)
      clear hK K
      try simp only [Act.put, List.setIfInBounds_toArray, List.set_cons_zero, List.set_cons_succ]
      refine wpAnyH_ready (rs := [3]) (by kernel_rfl) (by simp) ?_
      refine AllReadyH.cons rfl (fun K hK => ?_) AllReadyH.nil
      go_simp
      refine (F1.out _ HB4.out).mono ?_
      rintro e w5 ⟨Py, py, qy, rfl, ho, hn, hb⟩
      have HB5 := Lib.hid (HB4.out.trans (hb.mono (by rw [← GS.out]; exact HB4.out.size)))
      have B05 := Lib.hid (B04.out.below hb B04.out.lt)
      have B15 := Lib.hid (B14.out.below hb B14.out.lt)
      have O05 := Lib.hid (O04.out.below hb)
      have O15 := Lib.hid (ho.down HV4.out)
      have HV5 := Lib.hid (Nat.le_trans HV4.out hb.size)
      have N1 := Lib.hid hn
      clear hb ho hn
      refine hK.out _ _ trivial (fun hHeld => ?_)
      clear hK K
      try simp only [Act.put, List.setIfInBounds_toArray, List.set_cons_zero, List.set_cons_succ]
      refine wpAnyH_ready (rs := [4]) (by kernel_rfl) (by simp) ?_
      refine AllReadyH.cons rfl (fun K hK => ?_) AllReadyH.nil
      refine wp_store_blk 27 _ _ rfl (g) #[.slice A n c] 27 [.slice Px px qx] rfl rfl B05.out rfl Tryd.i27 (by simp [Value.oneCell']) ?_
      intro w6 hb ho
      have B06 := Lib.hid hb
      have B16 := Lib.hid (ho.keep B15.out (by omega))
      have HB6 := Lib.hid (HB5.out.trans (ho.below (by omega)))
      have O06 := Lib.hid (O05.out.onlyFar ho (by have := HS0.out; omega))
      have O16 := Lib.hid (O15.out.onlyFar ho (by have := HS0.out; omega))
      have HV6 := Lib.hid (Nat.le_trans HV5.out (Nat.le_of_eq ho.size.symm))
      clear hb ho
      refine hK.out _ _ trivial (fun hHeld => ?_)
      clear hK K
      try dsimp only [Act.put]
      try simp only [Act.put, List.setIfInBounds_toArray, List.set_cons_zero, List.set_cons_succ]
      refine wpAnyH_ready (rs := [5]) (by kernel_rfl) (by simp) ?_
      refine AllReadyH.cons rfl (fun K hK => ?_) AllReadyH.nil
      refine wp_store_blk 27 _ _ rfl (g + 1) #[.slice A1 n1 c1] 27 [.slice Py py qy] rfl rfl B16.out rfl Tryd.i27 (by simp [Value.oneCell']) ?_
      intro w7 hb ho
      have B17 := Lib.hid hb
      have B07 := Lib.hid (ho.keep B06.out (by omega))
      have HB7 := Lib.hid (HB6.out.trans (ho.below (by omega)))
      have O07 := Lib.hid (O06.out.onlyFar ho (by have := HS0.out; omega))
      have O17 := Lib.hid (O16.out.onlyFar ho (by have := HS0.out; omega))
      have HV7 := Lib.hid (Nat.le_trans HV6.out (Nat.le_of_eq ho.size.symm))
      clear hb ho
      refine hK.out _ _ trivial (fun hHeld => ?_)
      clear hK K
      try dsimp only [Act.put]
      try simp only [Act.put, List.setIfInBounds_toArray, List.set_cons_zero, List.set_cons_succ]
      refine wpAnyH_done (by kernel_rfl) ?_ _
      refine NoPanic.normal ?_
      go_wp2_with fail
      go_meet
      case rel => exact ⟨Px, px, qx, Py, py, qy, B07.out, B17.out, O07.out, O17.out, N0.out, N1.out, HB7.out⟩
  case rest =>
    obtain ⟨Px, px, qx, Py, py, qy, k0, k1, k3, k4, k5, k6, k7⟩ := hcut
    have X30 : Hid ((xs.take 30).take 30 = xs.take 30) := Lib.hid (by rw [List.take_take, Nat.min_self])
    have HPQ := Lib.hid k3.is_.2.1
    have HPN := Lib.hid k3.is_.2.2
    have HPM := Lib.hid (ios_cm2 k3)
    have HPL := Lib.hid k3.is_.1.1
    have Cc0 : Hid (Bc wc g Px px qx (xs.take 30)) := Lib.hid ⟨k0, k3.is_.1, by omega⟩
    have Cd0 : Hid (Bc wc (g + 1) Py py qy (ys.take 30)) := Lib.hid ⟨k1, k4.is_.1, by omega⟩
    have H0 := Lib.hid k7
    have NX := Lib.hid k5
    clear k0 k1 k3 k4 k5 k6 k7 HB0 B00 B10 HV0 HS0 F0 F1 WK CX CY
    generalize xs.take 30 = X at *
    generalize ys.take 30 = Y at *
    go_upto_region 4 with (fail)
    have Cc1 := Lib.hid Cc0.out.drew
    have Cd1 := Lib.hid Cd0.out.drew
    have H1 := Lib.hid H0.out.drew
    clear Cc0 Cd0 H0
    refine wp_region_noPanic ?_
    refine wp_region_held_drew (S := fun w' => w'.cell? ⟨g, 0, none⟩ = some (.slice Px px qx) ∧ w'.cell? ⟨g + 1, 0, none⟩ = some (.slice Py py qy)) (by kernel_rfl) ⟨Cc1.out.cell, Cd1.out.cell⟩ (fun hHeld => ?_)
    refine take_d (i := 0) (d := 30) (v := ?z3001) rfl rfl (by kernel_rfl) (by kernel_rfl) (by kernel_rfl) (fun _ _ _ h => h) (Or.inl ⟨by kernel_rfl, ?z3001h⟩) hHeld ?z3001n
    case z3001h => (intro w hSw; (try dsimp only at hSw); go_split_ands; go_simp; (try exact rfl))
    try simp only [Act.put, List.setIfInBounds_toArray, List.set_cons_zero, List.set_cons_succ]
    refine take_d (i := 2) (d := 32) (v := ?z3002) rfl rfl (by kernel_rfl) (by kernel_rfl) (by kernel_rfl) (fun _ _ _ h => h) (Or.inl ⟨by kernel_rfl, ?z3002h⟩) hHeld ?z3002n
    case z3002h => (intro w hSw; (try dsimp only at hSw); go_split_ands; go_simp; (try exact rfl))
    try simp only [Act.put, List.setIfInBounds_toArray, List.set_cons_zero, List.set_cons_succ]
    refine wpAnyH_ready (rs := [1]) (by kernel_rfl) (by simp) ?_
    refine AllReadyH.cons rfl (fun K hK => ?_) AllReadyH.nil
    go_simp
    refine (right_any Px px qx _ _ _ Cc1.out.is_ Cc1.out.le (Nat.le_refl _)).mono ?_
    rintro e y2 ⟨rfl, hb⟩
    have Cc2 := Lib.hid (Cc1.out.on hb)
    have Cd2 := Lib.hid (Cd1.out.on hb)
    have H2 := Lib.hid (H1.out.trans (hb.mono (by rw [← GS.out]; exact H1.out.size)))
    clear hb
    refine hK.out _ _ ⟨Cc2.out.cell, Cd2.out.cell⟩ (fun hHeld => ?_)
    clear hK K
    try simp only [Act.put, List.setIfInBounds_toArray, List.set_cons_zero, List.set_cons_succ]
    refine wpAnyH_ready (rs := [3]) (by kernel_rfl) (by simp) ?_
    refine AllReadyH.cons rfl (fun K hK => ?_) AllReadyH.nil
    go_simp
    refine (right_any Py py qy _ _ _ Cd2.out.is_ Cd2.out.le (Nat.le_refl _)).mono ?_
    rintro e y3 ⟨rfl, hb⟩
    have Cc3 := Lib.hid (Cc2.out.on hb)
    have Cd3 := Lib.hid (Cd2.out.on hb)
    have H3 := Lib.hid (H2.out.trans (hb.mono (by rw [← GS.out]; exact H2.out.size)))
    clear hb
    refine hK.out _ _ ⟨Cc3.out.cell, Cd3.out.cell⟩ (fun hHeld => ?_)
    clear hK K
    try simp only [Act.put, List.setIfInBounds_toArray, List.set_cons_zero, List.set_cons_succ]
    refine take_d (i := 4) (d := 7) (v := ?z3003) rfl rfl (by kernel_rfl) (by kernel_rfl) (by kernel_rfl) (fun _ _ _ h => h) (Or.inl ⟨by kernel_rfl, ?z3003h⟩) hHeld ?z3003n
    case z3003h => (intro w hSw; (try dsimp only at hSw); go_split_ands; go_simp; (try exact rfl))
    try simp only [Act.put, List.setIfInBounds_toArray, List.set_cons_zero, List.set_cons_succ]
    refine take_d (i := 5) (d := 8) (v := ?z3004) rfl rfl (by kernel_rfl) (by kernel_rfl) (by kernel_rfl) (fun _ _ _ h => h) (Or.inl ⟨by kernel_rfl, ?z3004h⟩) hHeld ?z3004n
    case z3004h => (intro w hSw; (try dsimp only at hSw); go_split_ands; go_simp; (try exact rfl))
    try simp only [Act.put, List.setIfInBounds_toArray, List.set_cons_zero, List.set_cons_succ]
    refine wpAnyH_done (by kernel_rfl) ?_ _
    refine NoPanic.normal ?_
    have SW := @step_wrong X Y
    have SF := @step_far X Y
    have G3 := Lib.hid (GW.out _ H3.out)
    have FA := Lib.hid (far_any Px px qx _ X Py py qy _ Y y3 Cc3.out.is_ Cc3.out.le (Nat.le_refl _) Cd3.out.is_ Cd3.out.le (Nat.le_refl _))
    have x3 := Cc3.out.cell
    have z3 := Cd3.out.cell
    have FLE := farK_le X Y 5
    generalize farK X Y 5 = FF at *
    obtain ⟨SE, hSE⟩ : ∃ SE, stepE X Y = SE := ⟨_, rfl⟩
    rw [hSE] at SW SF
    have HSE := Lib.hid hSE
    clear hSE
    have SW' := Lib.hid SW
    have SF' := Lib.hid SF
    clear SW SF
    obtain ⟨rx, hrx⟩ : ∃ rx, rightC X = rx := ⟨_, rfl⟩
    obtain ⟨ry, hry⟩ : ∃ ry, rightC Y = ry := ⟨_, rfl⟩
    rw [hrx, hry] at SF' SW'
    rw [hrx, hry]
    have HRX := Lib.hid hrx
    have HRX := Lib.hid hrx
    clear hrx hry
    go_upto_block 0 with fail
    go_cut [9] from 34 (fun v9 wx => v9 = .int .i64 SE ∧ Bc wx g Px px qx X ∧ Bc wx (g + 1) Py py qy Y ∧ Below g w wx)
    case first =>
      cases rx with
      | false =>
        have e1 := SW'.out (.inl rfl)
        subst e1
        clear SW' SF'
        go_wp2
        go_meet
        case rel => exact ⟨rfl, Cc3.out, Cd3.out, H3.out⟩
      | true =>
        cases ry with
        | false =>
          have e1 := SW'.out (.inr rfl)
          subst e1
          clear SW' SF'
          go_wp2
          go_meet
          case rel => exact ⟨rfl, Cc3.out, Cd3.out, H3.out⟩
        | true =>
          have e1 := SF'.out rfl rfl
          clear SW' SF'
          by_cases hf : 1 < FF
          · rw [if_pos hf] at e1
            subst e1
            have hf' : (1 : Int) < (FF : Int) := by omega
            go_wp2_with (go_at_call 24; refine FA.out.mono ?_; rintro e yf ⟨rfl, hb⟩; have Cf := Lib.hid (Cc3.out.on hb); have Cg := Lib.hid (Cd3.out.on hb); have Hf := Lib.hid (H3.out.trans (hb.mono (by rw [← GS.out]; exact H3.out.size))); clear hb)
            go_meet
            case rel => exact ⟨rfl, Cf.out, Cg.out, Hf.out⟩
          · rw [if_neg hf] at e1
            subst e1
            have hf' : ¬ (1 : Int) < (FF : Int) := by omega
            have hf2 : decide ((1 : Int) < (FF : Int)) = false := decide_eq_false hf'
            go_wp2_with (go_at_call 24; refine FA.out.mono ?_; rintro e yf ⟨rfl, hb⟩; have Cf := Lib.hid (Cc3.out.on hb); have Cg := Lib.hid (Cd3.out.on hb); have Hf := Lib.hid (H3.out.trans (hb.mono (by rw [← GS.out]; exact H3.out.size))); clear hb)
            go_meet
            case rel => exact ⟨rfl, Cf.out, Cg.out, Hf.out⟩
    case rest =>
      obtain ⟨rfl, j1, j2, j3⟩ := hcut
      have Ck := Lib.hid j1
      have Hk := Lib.hid j3
      have ST := Lib.hid (j1.step j2 (GW.out _ j3))
      rw [HSE.out] at ST
      have hEE : (SE != SE) = false := by simp
      have xk := j1.cell
      have zk := j2.cell
      clear j1 j2 j3 G3 FA HSE SW' SF'
      go_wp2_with (go_at_call 25; refine ST.out.mono ?_; rintro e ya ⟨rfl, hb⟩; have Ca := Lib.hid (Ck.out.on hb); have Ha := Lib.hid (Hk.out.trans (hb.mono (by rw [← GS.out]; exact Hk.out.size))); clear hb)
      go_loopw [53] (fun i wr => ∃ k : Nat, k ≤ n2 ∧ k ≤ 12 ∧ i = .int .i64 (k : Int) ∧ Hid (Bc wr g Px px qx X) ∧ Hid (Below g w wr)) (fun i _ => n2 - (intOf i).toNat)
      case atStart => exact ⟨0, Nat.zero_le _, by omega, rfl, Ca, Ha⟩
      case round =>
        obtain ⟨k, hk, hk12, rfl, IC, IB⟩ := hrel
        have k0 : (0 : Int) ≤ (k : Int) := by omega
        by_cases hlt : k < n2
        · obtain ⟨b, o, rfl, hbb, hcc⟩ := (MI.out _ IB.out).2 (by omega)
          have q1 := hcc k hlt
          clear hcc
          generalize zs.getD k 0 = m at *
          have xr := IC.out.cell
          by_cases h12 : k = 12
          · have hq12 : ((k : Int) == 12) = true := by rw [h12]; rfl
            have hI12 : (k : Int) < (n2 : Int) := by omega
            clear h12
            go_wp2
            go_ret
            exact ⟨rfl, by rw [GS.out]; exact IB.out⟩
          have h12' : ((k : Int) == 12) = false := by simp; omega
          have GR : Hid (g ≤ wr.heap.size) := Lib.hid (by rw [← GS.out]; exact IB.out.size)
          have FE := few_any Px px qx _ X wr IC.out.is_ HPQ.out HPN.out HPM.out (Nat.le_refl _)
          unfold Few at FE
          rw [X30.out] at FE
          have FE' := Lib.hid FE
          clear FE
          go_upto_block 3 with (first
            | (go_at_call 12; refine FE'.out.mono ?_; rintro e v1 ⟨Pw, pw, qw, rfl, ho, hn, hb⟩; have ha : Below v1.heap.size v1 (v1.alloc (.cells #[.slice Pw pw qw] 27)) := (Below.refl _ _).alloc (Nat.le_refl _) _; have C1 := Lib.hid ((IC.out.on hb).on ha); have W1 := Lib.hid (Bc.new_ (c := qw) ho.is_.1 (by omega : pw ≤ 1000000)); have L1 := Lib.hid (IB.out.trans ((hb.trans (ha.mono hb.size)).mono GR.out)); have GL1 : Hid (g < v1.heap.size) := Lib.hid ((IC.out.on hb).blk.lt); have AD := Lib.hid (C1.out.add (GW.out _ L1.out) m); have x1 := C1.out.cell; clear ho hn hb ha FE')
            | (go_at_call 26; refine AD.out.mono ?_; rintro e v2 ⟨A3, n3, c3, rfl, hm3, hn3, hb⟩; have ha : Below v2.heap.size v2 (v2.alloc (.cells #[.slice A3 n3 c3] 27)) := (Below.refl _ _).alloc (Nat.le_refl _) _; have hs1 : (v1.alloc (.cells #[.slice Pw pw qw] 27)).heap.size = v1.heap.size + 1 := World.size_alloc _ _; have E12 : Hid (v1.heap.size + 1 ≤ v2.heap.size) := Lib.hid (by rw [← hs1]; exact hb.size); have K2 := Lib.hid ((C1.out.is_.below hb).below (ha.mono (by rw [hs1]; exact E12.out))); have V2 := Lib.hid ((W1.out.is_.below hb).below (ha.mono (by rw [hs1]; exact E12.out))); have C2 := Lib.hid ((C1.out.on hb).on ha); have W2 := Lib.hid ((W1.out.on hb).on ha); have L2 := Lib.hid (L1.out.trans ((hb.trans (ha.mono hb.size)).mono (by have := GL1.out; rw [hs1]; omega))); have M2 := Lib.hid (hm3.mj.below ha); have N3 := Lib.hid hn3; have B3 : Hid (Blk (v2.alloc (.cells #[.slice A3 n3 c3] 27)) v2.heap.size 27 #[.slice A3 n3 c3]) := Lib.hid (Blk.new _ _ _); rw [hs1] at K2 V2 M2; have DR := Lib.hid (C2.out.drop (GW.out _ L2.out) m); have x2 := C2.out.cell; clear hm3 hn3 hb ha hs1 AD)
            | (go_at_call 27; refine DR.out.mono ?_; rintro e v3 ⟨A4, n4, c4, rfl, hm4, hn4, hb⟩; have ha : Below v3.heap.size v3 (((v3.alloc (.cells #[.slice A4 n4 c4] 27)).alloc (.cells #[.slice none 0 0] 27)).alloc (.cells #[.slice none 0 0] 27)) := (((Below.refl _ _).alloc (Nat.le_refl _) _).alloc (by simp) _).alloc (by simp <;> omega) _; have hs2 : (v2.alloc (.cells #[.slice A3 n3 c3] 27)).heap.size = v2.heap.size + 1 := World.size_alloc _ _; have E23 : Hid (v2.heap.size + 1 ≤ v3.heap.size) := Lib.hid (by rw [← hs2]; exact hb.size); have hc : Below (v2.heap.size + 1) (v2.alloc (.cells #[.slice A3 n3 c3] 27)) (((v3.alloc (.cells #[.slice A4 n4 c4] 27)).alloc (.cells #[.slice none 0 0] 27)).alloc (.cells #[.slice none 0 0] 27)) := (by rw [← hs2]; exact hb.trans (ha.mono hb.size)); have K3 := Lib.hid (K2.out.below (hc.mono (by have := E12.out; omega))); have V3 := Lib.hid (V2.out.below (hc.mono (by have := E12.out; omega))); have C3 := Lib.hid (C2.out.on (by rw [hs2]; exact hc)); have W3 := Lib.hid (W2.out.on (by rw [hs2]; exact hc)); have L3 := Lib.hid (L2.out.trans (hc.mono (by have := GL1.out; have := E12.out; omega))); have M3 := Lib.hid (M2.out.below (hc.mono (by omega))); have B33 := Lib.hid (B3.out.below hc (by omega)); have M4 := Lib.hid (hm4.mj.below ha); have N4 := Lib.hid hn4; have B4 : Hid (Blk (((v3.alloc (.cells #[.slice A4 n4 c4] 27)).alloc (.cells #[.slice none 0 0] 27)).alloc (.cells #[.slice none 0 0] 27)) v3.heap.size 27 #[.slice A4 n4 c4]) := Lib.hid (((Blk.new _ _ _).alloc _).alloc _); have B5 : Hid (Blk (((v3.alloc (.cells #[.slice A4 n4 c4] 27)).alloc (.cells #[.slice none 0 0] 27)).alloc (.cells #[.slice none 0 0] 27)) (v3.heap.size + 1) 27 #[.slice none 0 0]) := Lib.hid ((Blk.fresh (by simp)).alloc _); have B6 : Hid (Blk (((v3.alloc (.cells #[.slice A4 n4 c4] 27)).alloc (.cells #[.slice none 0 0] 27)).alloc (.cells #[.slice none 0 0] 27)) (v3.heap.size + 2) 27 #[.slice none 0 0]) := Lib.hid (Blk.fresh (by simp)); rw [hs2] at M4; have RH := Lib.hid (refhas_any m Px px qx _ X _ C3.out.is_ C3.out.le (Nat.le_refl _)); have x3 := C3.out.cell; clear hm4 hn4 hb ha hs2 hc DR)
            | (go_at_call 16; refine RH.out.mono ?_; rintro e v5 ⟨rfl, hb⟩; have SZ : Hid (v3.heap.size + 3 ≤ v5.heap.size) := Lib.hid (by have h1 := hb.size; have h2 := B6.out.lt; omega); have hd : Below (v3.heap.size + 3) (((v3.alloc (.cells #[.slice A4 n4 c4] 27)).alloc (.cells #[.slice none 0 0] 27)).alloc (.cells #[.slice none 0 0] 27)) v5 := hb.mono (by have := B6.out.lt; omega); have K5 := Lib.hid (K3.out.below (hd.mono (by have := E12.out; have := E23.out; omega))); have V5 := Lib.hid (V3.out.below (hd.mono (by have := E12.out; have := E23.out; omega))); have C5 := Lib.hid (C3.out.on hb); have W5 := Lib.hid (W3.out.on hb); have L5 := Lib.hid (L3.out.trans (hd.mono (by have := GL1.out; have := E12.out; have := E23.out; omega))); have M5 := Lib.hid (M3.out.below (hd.mono (by have := E23.out; omega))); have Q5 := Lib.hid (M4.out.below (hd.mono (by omega))); have D3 := Lib.hid (B33.out.below hd (by have := E23.out; omega)); have D4 := Lib.hid (B4.out.below hd (by omega)); have D5 := Lib.hid (B5.out.below hd (by omega)); have D6 := Lib.hid (B6.out.below hd (by omega)); clear hb hd RH))
          clear C1 W1 L1 K2 V2 C2 W2 L2 M2 B3 K3 V3 C3 W3 L3 M3 B33 M4 B4 B5 B6 x1 x2 x3 xr
          generalize v1.heap.size = s1 at *
          generalize v2.heap.size = s2 at *
          generalize v3.heap.size = s3 at *
          obtain ⟨cn, hcn⟩ : ∃ cn, X.contains m = cn := ⟨_, rfl⟩
          have HCN := Lib.hid hcn
          have hcn2 : decide (m ∈ X) = cn := by rw [← hcn]; simp
          first | rw [hcn] | rw [hcn2] | skip
          clear hcn hcn2
          have x5 := C5.out.cell
          have y5 : v5.cell? ⟨s3 + 1, 0, none⟩ = some (.slice none 0 0) := D5.out.cell 0
          have z5 : v5.frozen? ⟨s3 + 1, 0, none⟩ = false := D5.out.frozen 0
          have y6 : v5.cell? ⟨s3 + 1 + 1, 0, none⟩ = some (.slice none 0 0) := D6.out.cell 0
          have z6 : v5.frozen? ⟨s3 + 1 + 1, 0, none⟩ = false := D6.out.frozen 0
          have MW := Lib.hid (fun h => @mv_wrong X h m)
          have MT := Lib.hid (fun h hi => @mv_there X h m hi)
          have MO := Lib.hid (fun h hi hr => @mv_out X h m hi hr)
          have MN := Lib.hid (fun h hi h1 h5 => @mv_new X h m hi h1 h5)
          have RL := Lib.hid (fun h => @right_len X h)
          rw [HRX.out] at MW MT MO MN RL
          rw [HCN.out] at MT MO MN
          go_cut [19, 20, 53] from 53 to 145 (fun v19 v20 v53 wx => v53 = .int .i64 (k : Int) ∧ v19 = .int .i64 (addE X m) ∧ v20 = .int .i64 (dropE X m) ∧ ∃ A5 n5 c5 A6 n6 c6, Blk wx (s3 + 1) 27 #[.slice A5 n5 c5] ∧ Is wx wx.heap.size A5 n5 (addL X m) ∧ n5 ≤ 5 ∧ Blk wx (s3 + 2) 27 #[.slice A6 n6 c6] ∧ Is wx wx.heap.size A6 n6 (dropL X m) ∧ n6 ≤ 5 ∧ Below (s3 + 1) v5 wx)
          case first =>
            cases rx with
            | false =>
              have e := MW.out rfl
              have e1 := Lib.hid e.1
              have e2 := Lib.hid e.2.1
              have e3 := Lib.hid e.2.2.1
              have e4 := Lib.hid e.2.2.2
              clear e MW MT MO MN
              go_wp2
              go_meet
              case rel => exact ⟨rfl, by rw [e1.out], by rw [e2.out], none, 0, 0, none, 0, 0, D5.out, by rw [e3.out]; exact Is.none_, by omega, D6.out, by rw [e4.out]; exact Is.none_, by omega, Below.refl _ _⟩
            | true =>
              have PX5 : px ≤ 5 := by have h1 := RL.out rfl; have h2 := HPL.out; omega
              cases cn with
              | true =>
                obtain ⟨t1, t2, t3, t4⟩ := MT.out rfl rfl
                have e1 := Lib.hid t1
                have e3 := Lib.hid t2
                rw [HPL.out] at t3 t4
                clear t1 t2 MW MT MO MN
                by_cases hl : 1 < px
                · obtain ⟨u1, u2⟩ := t3 hl
                  have e2 := Lib.hid u1
                  have e4 := Lib.hid u2
                  have hl' : (1 : Int) < (px : Int) := by omega
                  clear u1 u2 t3 t4
                  have WO := Lib.hid (without_any m Px px qx _ X v5 C5.out.is_ PX5 (Nat.le_refl _))
                  go_wp2_with (go_at_call 28; refine WO.out.mono ?_; rintro e v6 ⟨A7, n7, c7, rfl, hm7, hn7, hb⟩; have N7 := Lib.hid hn7; have M7 := Lib.hid hm7; have R5 := Lib.hid (D5.out.below hb D5.out.lt); have R6 := Lib.hid (D6.out.below hb D6.out.lt); have RB := Lib.hid (hb.mono (show s3 + 1 ≤ v5.heap.size by have := SZ.out; omega)); have y7 : v6.cell? ⟨s3 + 1 + 1, 0, none⟩ = some (.slice none 0 0) := R6.out.cell 0; have z7 : v6.frozen? ⟨s3 + 1 + 1, 0, none⟩ = false := R6.out.frozen 0; clear hm7 hn7 hb)
                  go_meet
                  case rel => exact ⟨rfl, by rw [e1.out], by rw [e2.out], none, 0, 0, A7, n7, c7, R5.out.far (by show s3 + 1 ≠ s3 + 2; omega) _, by rw [e3.out]; exact Is.none_, by omega, R6.out.set_ 0 _, by rw [e4.out]; exact (M7.out.setCell (p := ⟨s3 + 2, 0, none⟩) (by have := SZ.out; show s3 + 2 < v5.heap.size; omega) _).is_, N7.out, RB.out.setCell (p := ⟨s3 + 2, 0, none⟩) (by show s3 + 1 ≤ s3 + 2; omega) _⟩
                · obtain ⟨u1, u2⟩ := t4 hl
                  have e2 := Lib.hid u1
                  have e4 := Lib.hid u2
                  have hl' : ¬ (1 : Int) < (px : Int) := by omega
                  have hl2 : decide ((1 : Int) < (px : Int)) = false := decide_eq_false hl'
                  clear u1 u2 t3 t4
                  go_wp2
                  go_meet
                  case rel => exact ⟨rfl, by rw [e1.out], by rw [e2.out], none, 0, 0, none, 0, 0, D5.out, by rw [e3.out]; exact Is.none_, by omega, D6.out, by rw [e4.out]; exact Is.none_, by omega, Below.refl _ _⟩
              | false =>
                by_cases hr : m < 1 ∨ 5 < m
                · have e := MO.out rfl rfl hr
                  have e1 := Lib.hid e.1
                  have e2 := Lib.hid e.2.1
                  have e3 := Lib.hid e.2.2.1
                  have e4 := Lib.hid e.2.2.2
                  clear e MW MT MO MN
                  by_cases h1 : m < 1
                  · clear hr
                    go_wp2
                    go_meet
                    case rel => exact ⟨rfl, by rw [e1.out], by rw [e2.out], none, 0, 0, none, 0, 0, D5.out, by rw [e3.out]; exact Is.none_, by omega, D6.out, by rw [e4.out]; exact Is.none_, by omega, Below.refl _ _⟩
                  · have h5 : 5 < m := by omega
                    clear hr
                    go_wp2
                    go_meet
                    case rel => exact ⟨rfl, by rw [e1.out], by rw [e2.out], none, 0, 0, none, 0, 0, D5.out, by rw [e3.out]; exact Is.none_, by omega, D6.out, by rw [e4.out]; exact Is.none_, by omega, Below.refl _ _⟩
                · have e := MN.out rfl rfl (by omega) (by omega)
                  have e1 := Lib.hid e.1
                  have e2 := Lib.hid e.2.1
                  have e3 := Lib.hid e.2.2.1
                  have e4 := Lib.hid e.2.2.2
                  clear e MW MT MO MN
                  have h1 : ¬ m < 1 := by omega
                  have h5 : ¬ 5 < m := by omega
                  have h1' : decide (m < 1) = false := decide_eq_false h1
                  have h5' : decide (5 < m) = false := decide_eq_false h5
                  clear hr
                  have WI := Lib.hid (with_any m Px px qx _ X v5 C5.out.is_ (by omega) HPN.out (Nat.le_refl _))
                  go_wp2_with (go_at_call 29; refine WI.out.mono ?_; rintro e v6 ⟨A7, n7, c7, rfl, hm7, hn7, hb⟩; have N7 := Lib.hid hn7; have M7 := Lib.hid hm7; have R5 := Lib.hid (D5.out.below hb D5.out.lt); have R6 := Lib.hid (D6.out.below hb D6.out.lt); have RB := Lib.hid (hb.mono (show s3 + 1 ≤ v5.heap.size by have := SZ.out; omega)); have y7 : v6.cell? ⟨s3 + 1, 0, none⟩ = some (.slice none 0 0) := R5.out.cell 0; have z7 : v6.frozen? ⟨s3 + 1, 0, none⟩ = false := R5.out.frozen 0; clear hm7 hn7 hb)
                  go_meet
                  case rel => exact ⟨rfl, by rw [e1.out], by rw [e2.out], A7, n7, c7, none, 0, 0, R5.out.set_ 0 _, by rw [e3.out]; exact (M7.out.setCell (p := ⟨s3 + 1, 0, none⟩) (by have := SZ.out; show s3 + 1 < v5.heap.size; omega) _).is_, N7.out, R6.out.far (by show s3 + 2 ≠ s3 + 1; omega) _, by rw [e4.out]; exact Is.none_, by omega, RB.out.setCell (p := ⟨s3 + 1, 0, none⟩) (Nat.le_refl _) _⟩
          case rest =>
            obtain ⟨rfl, rfl, rfl, A5, n5, c5, A6, n6, c6, g5, gi5, gn5, g6, gi6, gn6, gb⟩ := hcut
            clear MW MT MO MN RL x5 y5 z5 y6 z6
            have S12 := E12.out
            have S23 := E23.out
            have SZC := Lib.hid (show s3 + 2 < _ from g6.lt)
            have K6 := Lib.hid (K5.out.below (gb.mono (by omega)))
            have V6 := Lib.hid (V5.out.below (gb.mono (by omega)))
            have M6 := Lib.hid (M5.out.below (gb.mono (by omega)))
            have Q6 := Lib.hid (Q5.out.below (gb.mono (by omega)))
            have T3 := Lib.hid (D3.out.below gb (by omega))
            have T4 := Lib.hid (D4.out.below gb (by omega))
            have TC := Lib.hid (C5.out.blk.below gb (by have := GL1.out; omega))
            have TW := Lib.hid (W5.out.blk.below gb (by omega))
            have L6 := Lib.hid (L5.out.trans (gb.mono (by have := GL1.out; omega)))
            have WL : pw ≤ 1000000 := W5.out.le
            have CL : px ≤ 1000000 := C5.out.le
            have FLA : Hid True := Lib.hid trivial
            have S1 := Lib.hid (refsame_any A3 A5 n3 c3 n5 c5 s2 _ _ _ _ M6.out.is_ gi5 (by have := N3.out; omega) (by omega) (by have := SZC.out; omega) (Nat.le_refl _))
            have X5 := Lib.hid g5
            have X6 := Lib.hid g6
            have GI6 := Lib.hid gi6
            have a3 := T3.out.cell 0
            have a5 := g5.cell 0
            clear gi5 g5 g6 gi6 gb K5 V5 C5 W5 L5 M5 Q5 D3 D4 D5 D6
            generalize addE X m = ea at *
            generalize dropE X m = eb at *
            generalize addL X m = la at *
            generalize dropL X m = lb at *
            have hea : (ea != ea) = false := by simp
            have heb : (eb != eb) = false := by simp
            have z30 : wc.heap.size = wc.heap.size := rfl
            clear z30
            have HZ0 : Hid (s3 + 2 < wc.heap.size) := SZC
            go_wp2_with (first
              | (have fl := FLA; clear FLA; go_at_call 18; refine S1.out.mono ?_; rintro e z1 ⟨rfl, hb⟩; rw [show (la == la) = true by simp]; have HZ1 := Lib.hid hb; have S2 := Lib.hid (refsame_any A4 A6 n4 c4 n6 c6 s3 _ _ _ z1 (Q6.out.is_.below (hb.mono (by have := HZ0.out; omega))) (GI6.out.below hb) (by have := N4.out; omega) (by omega) (by have := HZ0.out; have := hb.size; omega) hb.size); have a4 := (T4.out.below hb T4.out.lt).cell 0; have a6 := (X6.out.below hb X6.out.lt).cell 0; clear hb)
              | (go_at_call 18; refine S2.out.mono ?_; rintro e z2 ⟨rfl, hb⟩; rw [show (lb == lb) = true by simp]; have HZ2 := Lib.hid (HZ1.out.trans (hb.mono HZ1.out.size)); have a7 := (T3.out.below HZ2.out T3.out.lt).cell 0; clear hb))
            have K8 := Lib.hid (K6.out.below (HZ2.out.mono (by have := HZ0.out; omega)))
            have V8 := Lib.hid (V6.out.below (HZ2.out.mono (by have := HZ0.out; omega)))
            have M8 := Lib.hid (M6.out.below (HZ2.out.mono (by have := HZ0.out; omega)))
            have Q8 := Lib.hid (Q6.out.below (HZ2.out.mono (by have := HZ0.out; omega)))
            have T38 := Lib.hid (T3.out.below HZ2.out T3.out.lt)
            have T48 := Lib.hid (T4.out.below HZ2.out T4.out.lt)
            have TC8 := Lib.hid (TC.out.below HZ2.out TC.out.lt)
            have TW8 := Lib.hid (TW.out.below HZ2.out TW.out.lt)
            have L8 := Lib.hid (L6.out.trans (HZ2.out.mono (by have := HZ0.out; have := GL1.out; omega)))
            have GLL := GL1.out
            have hs2 : s2 + 1 < z2.heap.size := by have := T48.out.lt; omega
            have HS3 := Lib.hid T48.out.lt
            go_loopw [122] (fun i wq => ∃ j : Nat, j ≤ n3 ∧ i = .int .i64 (j : Int) ∧ Hid (Zr (s1 + 1) s2 z2 wq) ∧ Hid (Wr wq (s1 + 1) s2 A3 n3)) (fun i _ => n3 - (intOf i).toNat)
            case atStart => exact ⟨0, Nat.zero_le _, rfl, Lib.hid (Zr.refl _ _ _), Lib.hid M8.out.wr⟩
            case round =>
              obtain ⟨j, hj, rfl, ZZ, WW⟩ := hrel
              have j0 : (0 : Int) ≤ (j : Int) := by omega
              have a8 := (ZZ.out.blk T38.out (.inr (Nat.le_refl _))).cell 0
              by_cases hjl : j < n3
              · obtain ⟨gg, t, cur, rfl, l1, l2, hbl, hcs⟩ := WW.out (by omega)
                obtain ⟨vv, d1⟩ : ∃ v, wr.cell? ⟨gg, j, none⟩ = some v := by rw [hbl.cell]; exact ⟨_, Array.getElem?_eq_getElem (by omega)⟩
                have e1 := hbl.frozen j
                have jn : (j : Int) < (n3 : Int) := by omega
                have n35 : n3 ≤ 5 := N3.out
                have HJ := Lib.hid hjl
                have HBL := Lib.hid hbl
                have HCS := Lib.hid hcs
                clear hbl hcs
                go_wp2
                go_roundw
                case rel => exact ⟨j + 1, by have := HJ.out; omega, by go_num, Lib.hid (ZZ.out.set_ l1 l2 _), Lib.hid (fun _ => ⟨gg, t, _, rfl, l1, l2, HBL.out.set_ j _, by simp; exact HCS.out⟩)⟩
                case measure => have := HJ.out; simp [intOf]; omega
              · obtain rfl : j = n3 := by omega
                have K9 := Lib.hid (K8.out.below (ZZ.out.below (Nat.le_refl _)))
                have V9 := Lib.hid (V8.out.below (ZZ.out.below (Nat.le_refl _)))
                have Q9 := Lib.hid (Q8.out.zr ZZ.out (by omega))
                have T49 := Lib.hid (ZZ.out.blk T48.out (.inr (by omega)))
                have TC9 := Lib.hid (ZZ.out.blk TC8.out (.inl (by omega)))
                have TW9 := Lib.hid (ZZ.out.blk TW8.out (.inl (by omega)))
                have L9 := Lib.hid (L8.out.trans (ZZ.out.below (by omega)))
                have a9 := T49.out.cell 0
                go_wp2
                go_loopw [133] (fun i wq => ∃ h : Nat, h ≤ n4 ∧ i = .int .i64 (h : Int) ∧ Hid (Zr (s2 + 1) s3 wr wq) ∧ Hid (Wr wq (s2 + 1) s3 A4 n4)) (fun i _ => n4 - (intOf i).toNat)
                case atStart => exact ⟨0, Nat.zero_le _, rfl, Lib.hid (Zr.refl _ _ _), Lib.hid Q9.out.wr⟩
                case round =>
                  obtain ⟨h, hh, rfl, YY, UU⟩ := hrel
                  have h0 : (0 : Int) ≤ (h : Int) := by omega
                  have b8 := (YY.out.blk T49.out (.inr (Nat.le_refl _))).cell 0
                  by_cases hhl : h < n4
                  · obtain ⟨gg, t, cur, rfl, l1, l2, hbl, hcs⟩ := UU.out (by omega)
                    obtain ⟨vv, d1⟩ : ∃ v, wr.cell? ⟨gg, h, none⟩ = some v := by rw [hbl.cell]; exact ⟨_, Array.getElem?_eq_getElem (by omega)⟩
                    have e1 := hbl.frozen h
                    have jn : (h : Int) < (n4 : Int) := by omega
                    have n45 : n4 ≤ 5 := N4.out
                    have HJ := Lib.hid hhl
                    have HBL := Lib.hid hbl
                    have HCS := Lib.hid hcs
                    clear hbl hcs
                    go_wp2
                    go_roundw
                    case rel => exact ⟨h + 1, by have := HJ.out; omega, by go_num, Lib.hid (YY.out.set_ l1 l2 _), Lib.hid (fun _ => ⟨gg, t, _, rfl, l1, l2, HBL.out.set_ h _, by simp; exact HCS.out⟩)⟩
                    case measure => have := HJ.out; simp [intOf]; omega
                  · obtain rfl : h = n4 := by omega
                    have KA := Lib.hid (K9.out.below (YY.out.below (by omega)))
                    have VA := Lib.hid (V9.out.below (YY.out.below (by omega)))
                    have TCA := Lib.hid (YY.out.blk TC9.out (.inl (by omega)))
                    have TWA := Lib.hid (YY.out.blk TW9.out (.inl (by omega)))
                    have LA' := Lib.hid (L9.out.trans (YY.out.below (by omega)))
                    have SL : Hid (s1 + 1 ≤ wr.heap.size) := Lib.hid (by have := TWA.out.lt; omega)
                    have S3 := Lib.hid (refsame_any Px Pw px qx pw qw (s1 + 1) (s1 + 1) X X wr KA.out VA.out CL WL SL.out SL.out)
                    have aa := TCA.out.cell 0
                    have ab := TWA.out.cell 0
                    have GRA : Hid (g ≤ wr.heap.size) := Lib.hid (by have := TCA.out.lt; omega)
                    go_wp2_with (go_at_call 18; refine S3.out.mono ?_; rintro e zz ⟨rfl, hb⟩; rw [show (X == X) = true by simp]; have CF := Lib.hid (show Bc zz g Px px qx X from ⟨TCA.out.below hb TCA.out.lt, (KA.out.below (hb.mono SL.out)).more (Nat.le_trans SL.out hb.size), CL⟩); have LF := Lib.hid (LA'.out.trans (hb.mono GRA.out)); clear hb)
                    go_roundw
                    case rel => exact ⟨k + 1, by omega, by omega, by go_num, CF, LF⟩
                    case measure => simp [intOf]; omega
        · obtain rfl : k = n2 := by omega
          go_wp2
          go_ret
          exact ⟨rfl, by rw [GS.out]; exact IB.out⟩
end Go.Proofs.YtfclppopelmdgaaDoor
