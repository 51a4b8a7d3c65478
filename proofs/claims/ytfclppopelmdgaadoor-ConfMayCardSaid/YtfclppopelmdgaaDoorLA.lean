/-
  The law ConfMay: its walk.
-/
import Derived.Test.YtfclppopelmdgaaDoorOpC
import Derived.Test.YtfclppopelmdgaaDoorD1
import Derived.Deep.CutBlock
import Derived.Shelf.RegionOpen
namespace Go.Proofs.YtfclppopelmdgaaDoor
open Go.RowKit
attribute [local go_sem ↓] field27

theorem ios_cm {w : World} {base n c : Nat} {A : Option Addr} {zs : List Int} (h : Ios w base A n c zs) : c ≤ 9223372036854775807 := by
  rcases h.2 with ⟨hv, _⟩ | ⟨g, cap, cur, hv, hb, hh, hnc, hm, _⟩
  · injection hv with _ _ h3
    omega
  · injection hv with _ _ h3
    unfold maxLen at hm
    omega
theorem take30 {xs : List Int} {n m : Nat} (h : xs.length = n) (hm : (xs.take 30).length = m) : xs.take m = xs.take 30 := by
  rw [List.length_take] at hm
  by_cases h30 : n ≤ 30
  · rw [List.take_of_length_le (by omega), List.take_of_length_le (by omega)]
  · rw [show m = 30 by omega]
theorem bne_self (b : Bool) : (b != b) = false := by cases b <;> rfl
theorem chk_right {xs : List Int} : (rightC xs = true → chkE xs = 0) ∧ (rightC xs = false → chkE xs = 180) := by
  unfold rightC chkE
  constructor
  · intro h; rw [if_neg (by simpa using h)]
  · intro h; rw [if_pos (by simpa using h)]
theorem has_right {xs : List Int} (m : Int) : (rightC xs = true → xs.contains m = inG (grp xs) m) ∧ (rightC xs = false → inG (grp xs) m = false) := by
  unfold rightC
  constructor
  · intro h
    have hg : grp xs ≠ 0 := by simpa using h
    have hx := of_grp hg
    rw [Bool.eq_iff_iff, List.contains_iff_mem, ← mem_row, ← hx]
  · intro h
    have hg : grp xs = 0 := by simpa using h
    rw [hg]
    unfold inG
    simp
theorem maj_right {xs set : List Int} : (rightC xs = true → rMaj xs set = majB xs set) ∧ (rightC xs = false → majB xs set = false) := by
  unfold rightC
  constructor
  · intro h
    exact rMaj_right (by simpa using h)
  · intro h
    have hg : grp xs = 0 := by simpa using h
    unfold majB mostB
    rw [hg, show cntB 0 (inG (amg set)) = 0 by unfold cntB; rw [row_zero]; rfl, show pop 0 = 0 by decide]
    rfl
/-- A box that no one turns. -/
structure Bd (w : World) (q : Nat) (v : Value) : Prop where
  blk : Blk w q 27 #[v]

set_option maxRecDepth 100000 in
set_option maxHeartbeats 16000000 in
theorem may_walk (A : Option Addr) (n c : Nat) (A1 : Option Addr) (n1 c1 : Nat) (A2 : Option Addr) (n2 c2 : Nat) (_u : Unit) (ys zs : List Int) (w : World)
    (h0 : Cfs w w.heap.size A n ∧ n ≤ 9223372036854775807) (h1 : Arg w A1 n1 c1 ys) (h2 : Arg w A2 n2 c2 zs) (hG : Gl w) :
    Calls Tryd.prog 3 #[.slice A n c, .slice A1 n1 c1, .slice A2 n2 c2] w fun e w' => e = .returned (.bool true) ∧ Below w.heap.size w w' := by
  have WK := Lib.hid (wakes_any w hG)
  have P2 := Lib.hid (fun W (hW : Below w.heap.size w W) => h2.part hW)
  have GW := Lib.hid (fun W (hW : Below w.heap.size w W) => hG.low hW)
  have CF := Lib.hid (fun W (hW : Below w.heap.size w W) => h0.1.below hW)
  have MI := Lib.hid (fun W (hW : Below w.heap.size w W) => h1.is_.below hW)
  have hn63 : (n : Int) ≤ 9223372036854775807 := by have := h0.2; omega
  have hm63 : (n1 : Int) ≤ 9223372036854775807 := by have := h1.nc; have := h1.cm; omega
  clear h0 h1 h2 hG
  go_enter Tryd.func3, Tryd.ntmps3
  go_wp2_with (first
    | (go_at_call 10
       refine WK.out.mono ?_
       rintro e v0 ⟨rfl, hb0⟩
       have HB0 := Lib.hid hb0
       clear hb0)
    | (go_at_call 11
       refine (P2.out _ HB0.out).mono ?_
       rintro e v1 ⟨Ps, ps, qs, rfl, ho, hn, hb⟩
       have HB1 := Lib.hid (HB0.out.trans (hb.mono HB0.out.size))
       have S1 := Lib.hid ho.is_.1
       have SN := Lib.hid hn
       clear hb ho hn))
  generalize zs.take 30 = S at *
  go_loopw [21] (fun i wr => ∃ k : Nat, k ≤ n ∧ k ≤ 12 ∧ i = .int .i64 (k : Int) ∧ Hid (Below w.heap.size w wr) ∧ Hid (Is wr wr.heap.size Ps ps S)) (fun i _ => n - (intOf i).toNat)
  case atStart => exact ⟨0, Nat.zero_le _, by omega, rfl, HB1, S1⟩
  case round =>
    obtain ⟨k, hk, hk12, rfl, IB, IS⟩ := hrel
    by_cases hlt : k < n
    · obtain ⟨b, o, rfl, hb, hc⟩ := CF.out _ IB.out (by omega)
      obtain ⟨Ax, nx, cx, xs, c1', hx1, hx2, hx3, hx4⟩ := hc k hlt
      obtain ⟨Ay, ny, cy, us, c2', hy1, hy2, hy3, hy4⟩ := hc 0 (by omega)
      have k0 : (0 : Int) ≤ (k : Int) := by omega
      have hp0 : (0 : Int) < (n : Int) := by omega
      have hpn : 0 < n := by omega
      by_cases h12 : k = 12
      · subst h12
        go_wp2
        go_ret
        exact ⟨rfl, IB.out.alloc (by have := IB.out.size; omega) _⟩
      have h12' : ((k : Int) == 12) = false := by simp; omega
      have FX := Lib.hid (fun W (hW : Below wr.heap.size wr W) => few_any Ax nx cx wr.heap.size xs W ((hx1.more IB.out.size).below hW) hx2 hx3 hx4 hW.size)
      have FY := Lib.hid (fun W (hW : Below wr.heap.size wr W) => few_any Ay ny cy wr.heap.size us W ((hy1.more IB.out.size).below hW) hy2 hy3 hy4 hW.size)
      have HX1 := Lib.hid hx1
      have HX2 := Lib.hid hx2
      have hcx : (cx : Int) ≤ 9223372036854775807 := by omega
      have BLT : Hid (b < wr.heap.size) := Lib.hid (by have := IB.out.size; omega)
      have C2 := Lib.hid c2'
      clear hc hx1 hx2 hx3 hx4 hy1 hy2 hy3 hy4 c2'
      go_upto_region 8 with fail
      have B80 : Hid (Blk (wr.alloc (.cells #[.slice Ax nx cx] 27)) wr.heap.size 27 #[.slice Ax nx cx]) := Lib.hid (Blk.new _ _ _)
      have HB0' : Hid (Below wr.heap.size wr (wr.alloc (.cells #[.slice Ax nx cx] 27))) := Lib.hid ((Below.refl _ _).alloc (Nat.le_refl _) _)
      generalize wr.alloc (.cells #[.slice Ax nx cx] 27) = u0 at *
      have CX : Hid (∀ W, Below wr.heap.size wr W → Blk W wr.heap.size 27 #[.slice Ax nx cx] → W.cell? ⟨wr.heap.size, 0, none⟩ = some (.slice Ax nx cx) ∧ W.cell? ⟨b, o, none⟩ = some (.slice Ay ny cy)) := Lib.hid (fun W hW h => ⟨h.cell 0, (hW.cell (p := ⟨b, o, none⟩) BLT.out).trans (by have := C2.out; simpa using this)⟩)
      go_cut [9, 10, 21] from 21 to 108 (fun v9 v10 v21 wx => v21 = .int .i64 (k : Int) ∧ ∃ p9 p0 Px px qx Py py qy, v9 = .pointer (some ⟨p9, 0, none⟩) ∧ v10 = .pointer (some ⟨p0, 0, none⟩) ∧ Blk wx p9 27 #[.slice Px px qx] ∧ Blk wx p0 27 #[.slice Py py qy] ∧ Blk wx wr.heap.size 27 #[.slice Ax nx cx] ∧ Is wx wx.heap.size Px px (xs.take 30) ∧ Is wx wx.heap.size Py py (us.take 30) ∧ px ≤ qx ∧ px ≤ 30 ∧ py ≤ 30 ∧ (Px = none → qx = 0) ∧ qx ≤ 9223372036854775807 ∧ Below wr.heap.size wr wx)
      case first =>
        have B81 : Hid (Blk u0.drew wr.heap.size 27 #[.slice Ax nx cx]) := Lib.hid (B80.out.drewN 1)
        have HB1' : Hid (Below wr.heap.size wr u0.drew) := Lib.hid HB0'.out.drew
        refine wp_region_noPanic ?_
        refine wp_region_held_drew (S := fun w' => w'.cell? ⟨wr.heap.size, 0, none⟩ = some (.slice Ax nx cx) ∧ w'.cell? ⟨b, o, none⟩ = some (.slice Ay ny cy)) (by kernel_rfl) (CX.out _ HB1'.out B81.out) (fun hHeld => ?_)
        generalize u0.drew = w1 at *
        have HB1 := HB1'
        refine take_d (i := 0) (d := 28) (v := ?z1) rfl rfl (by kernel_rfl) (by kernel_rfl) (by kernel_rfl) (fun _ _ _ h => h) (Or.inl ⟨by kernel_rfl, ?z1h⟩) hHeld ?z1n
        case z1h => (intro w hSw; (try dsimp only at hSw); go_split_ands; go_simp; (try exact rfl))
        try simp only [Act.put, List.setIfInBounds_toArray, List.set_cons_zero, List.set_cons_succ]
        refine take_d (i := 2) (d := 30) (v := ?z2) rfl rfl (by kernel_rfl) (by kernel_rfl) (by kernel_rfl) (fun _ _ _ h => h) (Or.inl ⟨by kernel_rfl, ?z2h⟩) hHeld ?z2n
        case z2h => (intro w hSw; (try dsimp only at hSw); go_split_ands; go_simp; (try exact rfl))
        try simp only [Act.put, List.setIfInBounds_toArray, List.set_cons_zero, List.set_cons_succ]
        refine take_d (i := 3) (d := 31) (v := ?z3) rfl rfl (by kernel_rfl) (by kernel_rfl) (by kernel_rfl) (fun _ _ _ h => h) (Or.inl ⟨by kernel_rfl, ?z3h⟩) hHeld ?z3n
        case z3h => (intro w hSw; (try dsimp only at hSw); go_split_ands; go_simp; (try exact rfl))
        try simp only [Act.put, List.setIfInBounds_toArray, List.set_cons_zero, List.set_cons_succ]
        refine take_d (i := 4) (d := 32) (v := ?z4) rfl rfl (by kernel_rfl) (by kernel_rfl) (by kernel_rfl) (fun _ _ _ h => h) (Or.inl ⟨by kernel_rfl, ?z4h⟩) hHeld ?z4n
        case z4h => (intro w hSw; (try dsimp only at hSw); go_split_ands; go_simp; (try exact rfl))
        try simp only [Act.put, List.setIfInBounds_toArray, List.set_cons_zero, List.set_cons_succ]
        refine wpAnyH_ready (rs := [1, 6, 7]) (by kernel_rfl) (by simp) ?_
        refine AllReadyH.cons rfl (fun K hK => ?_) (AllReadyH.cons rfl (fun K hK => ?_) (AllReadyH.cons rfl (fun K hK => ?_) AllReadyH.nil))
        · skip
          go_simp
          refine (FX.out _ HB1.out).mono ?_
          rintro e w2 ⟨Px, px, qx, rfl, ho, hn, hb⟩
          have B82 := Lib.hid (B81.out.below hb B81.out.lt)
          have HB2 := Lib.hid (HB1.out.trans (hb.mono HB1.out.size))
          have O12 := Lib.hid ho
          have Nx := Lib.hid hn
          have SZx := Lib.hid HB1.out.size
          clear hb ho hn
          refine hK.out _ _ (CX.out _ HB2.out B82.out) (fun hHeld => ?_)
          clear hK K
          try simp only [Act.put, List.setIfInBounds_toArray, List.set_cons_zero, List.set_cons_succ]
          refine wpAnyH_ready (rs := [5, 6, 7]) (by kernel_rfl) (by simp) ?_
          refine AllReadyH.cons rfl (fun K hK => ?_) (AllReadyH.cons rfl (fun K hK => ?_) (AllReadyH.cons rfl (fun K hK => ?_) AllReadyH.nil))
          · skip
            go_simp
            refine (FY.out _ HB2.out).mono ?_
            rintro e w3 ⟨Py, py, qy, rfl, ho, hn, hb⟩
            have B83 := Lib.hid (B82.out.below hb B82.out.lt)
            have HB3 := Lib.hid (HB2.out.trans (hb.mono HB2.out.size))
            have O13 := Lib.hid (O12.out.below hb)
            have O23 := Lib.hid ho
            have Ny := Lib.hid hn
            have SZy := Lib.hid HB2.out.size
            clear hb ho hn
            refine hK.out _ _ (CX.out _ HB3.out B83.out) (fun hHeld => ?_)
            clear hK K
            try simp only [Act.put, List.setIfInBounds_toArray, List.set_cons_zero, List.set_cons_succ]
            refine wpAnyH_ready (rs := [6, 7]) (by kernel_rfl) (by simp) ?_
            refine AllReadyH.cons rfl (fun K hK => ?_) (AllReadyH.cons rfl (fun K hK => ?_) AllReadyH.nil)
            · skip
              go_simp
              have hb : Below w3.heap.size w3 (w3.alloc (.cells #[.slice none 0 0] 27)) := (Below.refl _ _).alloc (Nat.le_refl _) _
              have B84 := Lib.hid (B83.out.below hb B83.out.lt)
              have HB4 := Lib.hid (HB3.out.trans (hb.mono HB3.out.size))
              have O14 := Lib.hid (O13.out.below hb)
              have O24 := Lib.hid (O23.out.below hb)
              have B94 : Hid (Blk (w3.alloc (.cells #[.slice none 0 0] 27)) w3.heap.size 27 #[.slice none 0 0]) := Lib.hid (Blk.new _ _ _)
              obtain ⟨p9, hp9⟩ : ∃ p, w3.heap.size = p := ⟨_, rfl⟩
              have P9 : Hid (wr.heap.size < p9) := Lib.hid (by rw [← hp9]; exact B83.out.lt)
              have NO9x : Hid (∀ j, (Value.slice Px px qx).ownBlock = some j → j ≠ p9) := Lib.hid (fun j hj e => by have := (O13.out.lt j hj).2; omega)
              have NO9y : Hid (∀ j, (Value.slice Py py qy).ownBlock = some j → j ≠ p9) := Lib.hid (fun j hj e => by have := (O23.out.lt j hj).2; omega)
              rw [hp9] at B94
              rw [hp9]
              generalize w3.alloc (.cells #[.slice none 0 0] 27) = w4 at *
              clear hb
              refine hK.out _ _ (CX.out _ HB4.out B84.out) (fun hHeld => ?_)
              clear hK K
              try simp only [Act.put, List.setIfInBounds_toArray, List.set_cons_zero, List.set_cons_succ]
              refine wpAnyH_ready (rs := [7]) (by kernel_rfl) (by simp) ?_
              refine AllReadyH.cons rfl (fun K hK => ?_) AllReadyH.nil
              go_simp
              have hb : Below w4.heap.size w4 (w4.alloc (.cells #[.slice none 0 0] 27)) := (Below.refl _ _).alloc (Nat.le_refl _) _
              have B85 := Lib.hid (B84.out.below hb B84.out.lt)
              have HB5 := Lib.hid (HB4.out.trans (hb.mono HB4.out.size))
              have B95 := Lib.hid (B94.out.below hb B94.out.lt)
              have O15 := Lib.hid (O14.out.below hb)
              have O25 := Lib.hid (O24.out.below hb)
              have B05 : Hid (Blk (w4.alloc (.cells #[.slice none 0 0] 27)) w4.heap.size 27 #[.slice none 0 0]) := Lib.hid (Blk.new _ _ _)
              obtain ⟨p0, hp0⟩ : ∃ p, w4.heap.size = p := ⟨_, rfl⟩
              have P0 : Hid (wr.heap.size < p0) := Lib.hid (by rw [← hp0]; exact B84.out.lt)
              have NE : Hid (p9 < p0) := Lib.hid (by rw [← hp0]; exact B94.out.lt)
              have NO0x : Hid (∀ j, (Value.slice Px px qx).ownBlock = some j → j ≠ p0) := Lib.hid (fun j hj e => by have := (O14.out.lt j hj).2; omega)
              have NO0y : Hid (∀ j, (Value.slice Py py qy).ownBlock = some j → j ≠ p0) := Lib.hid (fun j hj e => by have := (O24.out.lt j hj).2; omega)
              rw [hp0] at B05
              rw [hp0]
              generalize w4.alloc (.cells #[.slice none 0 0] 27) = w5 at *
              clear hb
              refine hK.out _ _ (CX.out _ HB5.out B85.out) (fun hHeld => ?_)
              clear hK K
              try simp only [Act.put, List.setIfInBounds_toArray, List.set_cons_zero, List.set_cons_succ]
              refine wpAnyH_ready (rs := [8]) (by kernel_rfl) (by simp) ?_
              refine AllReadyH.cons rfl (fun K hK => ?_) AllReadyH.nil
              refine wp_store_blk 27 _ _ rfl p9 #[.slice none 0 0] 27 [.slice Px px qx] rfl rfl B95.out rfl Tryd.i27 (by simp [Value.oneCell']) ?_
              intro w6 hb ho
              have B96 := Lib.hid hb
              have B06 := Lib.hid (ho.keep B05.out (by have := NE.out; omega))
              have B86 := Lib.hid (ho.keep B85.out (by have := P9.out; omega))
              have HB6 := Lib.hid (HB5.out.trans (ho.below (by have := P9.out; omega)))
              have O16 := Lib.hid (O15.out.onlyNe ho (fun j hj => O15.out.apart B95.out (by decide) j hj))
              have O26 := Lib.hid (O25.out.onlyNe ho (fun j hj => O25.out.apart B95.out (by decide) j hj))
              clear hb ho
              refine hK.out _ _ (CX.out _ HB6.out B86.out) (fun hHeld => ?_)
              clear hK K
              try dsimp only [Act.put]
              try simp only [Act.put, List.setIfInBounds_toArray, List.set_cons_zero, List.set_cons_succ]
              refine wpAnyH_ready (rs := [9]) (by kernel_rfl) (by simp) ?_
              refine AllReadyH.cons rfl (fun K hK => ?_) AllReadyH.nil
              refine wp_store_blk 27 _ _ rfl p0 #[.slice none 0 0] 27 [.slice Py py qy] rfl rfl B06.out rfl Tryd.i27 (by simp [Value.oneCell']) ?_
              intro w7 hb ho
              have B07 := Lib.hid hb
              have B97 := Lib.hid (ho.keep B96.out (by have := NE.out; omega))
              have B87 := Lib.hid (ho.keep B86.out (by have := P0.out; omega))
              have HB7 := Lib.hid (HB6.out.trans (ho.below (by have := P0.out; omega)))
              have O17 := Lib.hid (O16.out.onlyNe ho (fun j hj => O16.out.apart B06.out (by decide) j hj))
              have O27 := Lib.hid (O26.out.onlyNe ho (fun j hj => O26.out.apart B06.out (by decide) j hj))
              clear hb ho
              refine hK.out _ _ (CX.out _ HB7.out B87.out) (fun hHeld => ?_)
              clear hK K
              try dsimp only [Act.put]
              try simp only [Act.put, List.setIfInBounds_toArray, List.set_cons_zero, List.set_cons_succ]
              refine wpAnyH_done (by kernel_rfl) ?_ _
              refine NoPanic.normal ?_
              go_wp2_with fail
              go_meet
              case rel => exact ⟨rfl, p9, p0, Px, px, qx, Py, py, qy, rfl, rfl, B97.out, B07.out, B87.out, O17.out.is_.1, O27.out.is_.1, O17.out.is_.2.1, Nx.out, Ny.out, O17.out.is_.2.2, ios_cm O17.out, HB7.out⟩
            · skip
              go_simp
              have hb : Below w3.heap.size w3 (w3.alloc (.cells #[.slice none 0 0] 27)) := (Below.refl _ _).alloc (Nat.le_refl _) _
              have B84 := Lib.hid (B83.out.below hb B83.out.lt)
              have HB4 := Lib.hid (HB3.out.trans (hb.mono HB3.out.size))
              have O14 := Lib.hid (O13.out.below hb)
              have O24 := Lib.hid (O23.out.below hb)
              have B04 : Hid (Blk (w3.alloc (.cells #[.slice none 0 0] 27)) w3.heap.size 27 #[.slice none 0 0]) := Lib.hid (Blk.new _ _ _)
              obtain ⟨p0, hp0⟩ : ∃ p, w3.heap.size = p := ⟨_, rfl⟩
              have P0 : Hid (wr.heap.size < p0) := Lib.hid (by rw [← hp0]; exact B83.out.lt)
              have NO0x : Hid (∀ j, (Value.slice Px px qx).ownBlock = some j → j ≠ p0) := Lib.hid (fun j hj e => by have := (O13.out.lt j hj).2; omega)
              have NO0y : Hid (∀ j, (Value.slice Py py qy).ownBlock = some j → j ≠ p0) := Lib.hid (fun j hj e => by have := (O23.out.lt j hj).2; omega)
              rw [hp0] at B04
              rw [hp0]
              generalize w3.alloc (.cells #[.slice none 0 0] 27) = w4 at *
              clear hb
              refine hK.out _ _ (CX.out _ HB4.out B84.out) (fun hHeld => ?_)
              clear hK K
              try simp only [Act.put, List.setIfInBounds_toArray, List.set_cons_zero, List.set_cons_succ]
              refine wpAnyH_ready (rs := [6]) (by kernel_rfl) (by simp) ?_
              refine AllReadyH.cons rfl (fun K hK => ?_) AllReadyH.nil
              go_simp
              have hb : Below w4.heap.size w4 (w4.alloc (.cells #[.slice none 0 0] 27)) := (Below.refl _ _).alloc (Nat.le_refl _) _
              have B85 := Lib.hid (B84.out.below hb B84.out.lt)
              have HB5 := Lib.hid (HB4.out.trans (hb.mono HB4.out.size))
              have B05 := Lib.hid (B04.out.below hb B04.out.lt)
              have O15 := Lib.hid (O14.out.below hb)
              have O25 := Lib.hid (O24.out.below hb)
              have B95 : Hid (Blk (w4.alloc (.cells #[.slice none 0 0] 27)) w4.heap.size 27 #[.slice none 0 0]) := Lib.hid (Blk.new _ _ _)
              obtain ⟨p9, hp9⟩ : ∃ p, w4.heap.size = p := ⟨_, rfl⟩
              have P9 : Hid (wr.heap.size < p9) := Lib.hid (by rw [← hp9]; exact B84.out.lt)
              have NE : Hid (p0 < p9) := Lib.hid (by rw [← hp9]; exact B04.out.lt)
              have NO9x : Hid (∀ j, (Value.slice Px px qx).ownBlock = some j → j ≠ p9) := Lib.hid (fun j hj e => by have := (O14.out.lt j hj).2; omega)
              have NO9y : Hid (∀ j, (Value.slice Py py qy).ownBlock = some j → j ≠ p9) := Lib.hid (fun j hj e => by have := (O24.out.lt j hj).2; omega)
              rw [hp9] at B95
              rw [hp9]
              generalize w4.alloc (.cells #[.slice none 0 0] 27) = w5 at *
              clear hb
              refine hK.out _ _ (CX.out _ HB5.out B85.out) (fun hHeld => ?_)
              clear hK K
              try simp only [Act.put, List.setIfInBounds_toArray, List.set_cons_zero, List.set_cons_succ]
              refine wpAnyH_ready (rs := [8]) (by kernel_rfl) (by simp) ?_
              refine AllReadyH.cons rfl (fun K hK => ?_) AllReadyH.nil
              refine wp_store_blk 27 _ _ rfl p9 #[.slice none 0 0] 27 [.slice Px px qx] rfl rfl B95.out rfl Tryd.i27 (by simp [Value.oneCell']) ?_
              intro w6 hb ho
              have B96 := Lib.hid hb
              have B06 := Lib.hid (ho.keep B05.out (by have := NE.out; omega))
              have B86 := Lib.hid (ho.keep B85.out (by have := P9.out; omega))
              have HB6 := Lib.hid (HB5.out.trans (ho.below (by have := P9.out; omega)))
              have O16 := Lib.hid (O15.out.onlyNe ho (fun j hj => O15.out.apart B95.out (by decide) j hj))
              have O26 := Lib.hid (O25.out.onlyNe ho (fun j hj => O25.out.apart B95.out (by decide) j hj))
              clear hb ho
              refine hK.out _ _ (CX.out _ HB6.out B86.out) (fun hHeld => ?_)
              clear hK K
              try dsimp only [Act.put]
              try simp only [Act.put, List.setIfInBounds_toArray, List.set_cons_zero, List.set_cons_succ]
              refine wpAnyH_ready (rs := [9]) (by kernel_rfl) (by simp) ?_
              refine AllReadyH.cons rfl (fun K hK => ?_) AllReadyH.nil
              refine wp_store_blk 27 _ _ rfl p0 #[.slice none 0 0] 27 [.slice Py py qy] rfl rfl B06.out rfl Tryd.i27 (by simp [Value.oneCell']) ?_
              intro w7 hb ho
              have B07 := Lib.hid hb
              have B97 := Lib.hid (ho.keep B96.out (by have := NE.out; omega))
              have B87 := Lib.hid (ho.keep B86.out (by have := P0.out; omega))
              have HB7 := Lib.hid (HB6.out.trans (ho.below (by have := P0.out; omega)))
              have O17 := Lib.hid (O16.out.onlyNe ho (fun j hj => O16.out.apart B06.out (by decide) j hj))
              have O27 := Lib.hid (O26.out.onlyNe ho (fun j hj => O26.out.apart B06.out (by decide) j hj))
              clear hb ho
              refine hK.out _ _ (CX.out _ HB7.out B87.out) (fun hHeld => ?_)
              clear hK K
              try dsimp only [Act.put]
              try simp only [Act.put, List.setIfInBounds_toArray, List.set_cons_zero, List.set_cons_succ]
              refine wpAnyH_done (by kernel_rfl) ?_ _
              refine NoPanic.normal ?_
              go_wp2_with fail
              go_meet
              case rel => exact ⟨rfl, p9, p0, Px, px, qx, Py, py, qy, rfl, rfl, B97.out, B07.out, B87.out, O17.out.is_.1, O27.out.is_.1, O17.out.is_.2.1, Nx.out, Ny.out, O17.out.is_.2.2, ios_cm O17.out, HB7.out⟩
          · skip
            go_simp
            have hb : Below w2.heap.size w2 (w2.alloc (.cells #[.slice none 0 0] 27)) := (Below.refl _ _).alloc (Nat.le_refl _) _
            have B83 := Lib.hid (B82.out.below hb B82.out.lt)
            have HB3 := Lib.hid (HB2.out.trans (hb.mono HB2.out.size))
            have O13 := Lib.hid (O12.out.below hb)
            have B93 : Hid (Blk (w2.alloc (.cells #[.slice none 0 0] 27)) w2.heap.size 27 #[.slice none 0 0]) := Lib.hid (Blk.new _ _ _)
            obtain ⟨p9, hp9⟩ : ∃ p, w2.heap.size = p := ⟨_, rfl⟩
            have P9 : Hid (wr.heap.size < p9) := Lib.hid (by rw [← hp9]; exact B82.out.lt)
            have NO9x : Hid (∀ j, (Value.slice Px px qx).ownBlock = some j → j ≠ p9) := Lib.hid (fun j hj e => by have := (O12.out.lt j hj).2; omega)
            rw [hp9] at B93
            rw [hp9]
            generalize w2.alloc (.cells #[.slice none 0 0] 27) = w3 at *
            clear hb
            refine hK.out _ _ (CX.out _ HB3.out B83.out) (fun hHeld => ?_)
            clear hK K
            try simp only [Act.put, List.setIfInBounds_toArray, List.set_cons_zero, List.set_cons_succ]
            refine wpAnyH_ready (rs := [5, 7]) (by kernel_rfl) (by simp) ?_
            refine AllReadyH.cons rfl (fun K hK => ?_) (AllReadyH.cons rfl (fun K hK => ?_) AllReadyH.nil)
            · skip
              go_simp
              refine (FY.out _ HB3.out).mono ?_
              rintro e w4 ⟨Py, py, qy, rfl, ho, hn, hb⟩
              have B84 := Lib.hid (B83.out.below hb B83.out.lt)
              have HB4 := Lib.hid (HB3.out.trans (hb.mono HB3.out.size))
              have B94 := Lib.hid (B93.out.below hb B93.out.lt)
              have O14 := Lib.hid (O13.out.below hb)
              have O24 := Lib.hid ho
              have Ny := Lib.hid hn
              have SZy := Lib.hid HB3.out.size
              clear hb ho hn
              refine hK.out _ _ (CX.out _ HB4.out B84.out) (fun hHeld => ?_)
              clear hK K
              try simp only [Act.put, List.setIfInBounds_toArray, List.set_cons_zero, List.set_cons_succ]
              refine wpAnyH_ready (rs := [7]) (by kernel_rfl) (by simp) ?_
              refine AllReadyH.cons rfl (fun K hK => ?_) AllReadyH.nil
              go_simp
              have hb : Below w4.heap.size w4 (w4.alloc (.cells #[.slice none 0 0] 27)) := (Below.refl _ _).alloc (Nat.le_refl _) _
              have B85 := Lib.hid (B84.out.below hb B84.out.lt)
              have HB5 := Lib.hid (HB4.out.trans (hb.mono HB4.out.size))
              have B95 := Lib.hid (B94.out.below hb B94.out.lt)
              have O15 := Lib.hid (O14.out.below hb)
              have O25 := Lib.hid (O24.out.below hb)
              have B05 : Hid (Blk (w4.alloc (.cells #[.slice none 0 0] 27)) w4.heap.size 27 #[.slice none 0 0]) := Lib.hid (Blk.new _ _ _)
              obtain ⟨p0, hp0⟩ : ∃ p, w4.heap.size = p := ⟨_, rfl⟩
              have P0 : Hid (wr.heap.size < p0) := Lib.hid (by rw [← hp0]; exact B84.out.lt)
              have NE : Hid (p9 < p0) := Lib.hid (by rw [← hp0]; exact B94.out.lt)
              have NO0x : Hid (∀ j, (Value.slice Px px qx).ownBlock = some j → j ≠ p0) := Lib.hid (fun j hj e => by have := (O14.out.lt j hj).2; omega)
              have NO0y : Hid (∀ j, (Value.slice Py py qy).ownBlock = some j → j ≠ p0) := Lib.hid (fun j hj e => by have := (O24.out.lt j hj).2; omega)
              rw [hp0] at B05
              rw [hp0]
              generalize w4.alloc (.cells #[.slice none 0 0] 27) = w5 at *
              clear hb
              refine hK.out _ _ (CX.out _ HB5.out B85.out) (fun hHeld => ?_)
              clear hK K
              try simp only [Act.put, List.setIfInBounds_toArray, List.set_cons_zero, List.set_cons_succ]
              refine wpAnyH_ready (rs := [8]) (by kernel_rfl) (by simp) ?_
              refine AllReadyH.cons rfl (fun K hK => ?_) AllReadyH.nil
              refine wp_store_blk 27 _ _ rfl p9 #[.slice none 0 0] 27 [.slice Px px qx] rfl rfl B95.out rfl Tryd.i27 (by simp [Value.oneCell']) ?_
              intro w6 hb ho
              have B96 := Lib.hid hb
              have B06 := Lib.hid (ho.keep B05.out (by have := NE.out; omega))
              have B86 := Lib.hid (ho.keep B85.out (by have := P9.out; omega))
              have HB6 := Lib.hid (HB5.out.trans (ho.below (by have := P9.out; omega)))
              have O16 := Lib.hid (O15.out.onlyNe ho (fun j hj => O15.out.apart B95.out (by decide) j hj))
              have O26 := Lib.hid (O25.out.onlyNe ho (fun j hj => O25.out.apart B95.out (by decide) j hj))
              clear hb ho
              refine hK.out _ _ (CX.out _ HB6.out B86.out) (fun hHeld => ?_)
              clear hK K
              try dsimp only [Act.put]
              try simp only [Act.put, List.setIfInBounds_toArray, List.set_cons_zero, List.set_cons_succ]
              refine wpAnyH_ready (rs := [9]) (by kernel_rfl) (by simp) ?_
              refine AllReadyH.cons rfl (fun K hK => ?_) AllReadyH.nil
              refine wp_store_blk 27 _ _ rfl p0 #[.slice none 0 0] 27 [.slice Py py qy] rfl rfl B06.out rfl Tryd.i27 (by simp [Value.oneCell']) ?_
              intro w7 hb ho
              have B07 := Lib.hid hb
              have B97 := Lib.hid (ho.keep B96.out (by have := NE.out; omega))
              have B87 := Lib.hid (ho.keep B86.out (by have := P0.out; omega))
              have HB7 := Lib.hid (HB6.out.trans (ho.below (by have := P0.out; omega)))
              have O17 := Lib.hid (O16.out.onlyNe ho (fun j hj => O16.out.apart B06.out (by decide) j hj))
              have O27 := Lib.hid (O26.out.onlyNe ho (fun j hj => O26.out.apart B06.out (by decide) j hj))
              clear hb ho
              refine hK.out _ _ (CX.out _ HB7.out B87.out) (fun hHeld => ?_)
              clear hK K
              try dsimp only [Act.put]
              try simp only [Act.put, List.setIfInBounds_toArray, List.set_cons_zero, List.set_cons_succ]
              refine wpAnyH_done (by kernel_rfl) ?_ _
              refine NoPanic.normal ?_
              go_wp2_with fail
              go_meet
              case rel => exact ⟨rfl, p9, p0, Px, px, qx, Py, py, qy, rfl, rfl, B97.out, B07.out, B87.out, O17.out.is_.1, O27.out.is_.1, O17.out.is_.2.1, Nx.out, Ny.out, O17.out.is_.2.2, ios_cm O17.out, HB7.out⟩
            · skip
              go_simp
              have hb : Below w3.heap.size w3 (w3.alloc (.cells #[.slice none 0 0] 27)) := (Below.refl _ _).alloc (Nat.le_refl _) _
              have B84 := Lib.hid (B83.out.below hb B83.out.lt)
              have HB4 := Lib.hid (HB3.out.trans (hb.mono HB3.out.size))
              have B94 := Lib.hid (B93.out.below hb B93.out.lt)
              have O14 := Lib.hid (O13.out.below hb)
              have B04 : Hid (Blk (w3.alloc (.cells #[.slice none 0 0] 27)) w3.heap.size 27 #[.slice none 0 0]) := Lib.hid (Blk.new _ _ _)
              obtain ⟨p0, hp0⟩ : ∃ p, w3.heap.size = p := ⟨_, rfl⟩
              have P0 : Hid (wr.heap.size < p0) := Lib.hid (by rw [← hp0]; exact B83.out.lt)
              have NE : Hid (p9 < p0) := Lib.hid (by rw [← hp0]; exact B93.out.lt)
              have NO0x : Hid (∀ j, (Value.slice Px px qx).ownBlock = some j → j ≠ p0) := Lib.hid (fun j hj e => by have := (O13.out.lt j hj).2; omega)
              rw [hp0] at B04
              rw [hp0]
              generalize w3.alloc (.cells #[.slice none 0 0] 27) = w4 at *
              clear hb
              refine hK.out _ _ (CX.out _ HB4.out B84.out) (fun hHeld => ?_)
              clear hK K
              try simp only [Act.put, List.setIfInBounds_toArray, List.set_cons_zero, List.set_cons_succ]
              refine wpAnyH_ready (rs := [5]) (by kernel_rfl) (by simp) ?_
              refine AllReadyH.cons rfl (fun K hK => ?_) AllReadyH.nil
              go_simp
              refine (FY.out _ HB4.out).mono ?_
              rintro e w5 ⟨Py, py, qy, rfl, ho, hn, hb⟩
              have B85 := Lib.hid (B84.out.below hb B84.out.lt)
              have HB5 := Lib.hid (HB4.out.trans (hb.mono HB4.out.size))
              have B95 := Lib.hid (B94.out.below hb B94.out.lt)
              have B05 := Lib.hid (B04.out.below hb B04.out.lt)
              have O15 := Lib.hid (O14.out.below hb)
              have O25 := Lib.hid ho
              have Ny := Lib.hid hn
              have SZy := Lib.hid HB4.out.size
              clear hb ho hn
              refine hK.out _ _ (CX.out _ HB5.out B85.out) (fun hHeld => ?_)
              clear hK K
              try simp only [Act.put, List.setIfInBounds_toArray, List.set_cons_zero, List.set_cons_succ]
              refine wpAnyH_ready (rs := [8]) (by kernel_rfl) (by simp) ?_
              refine AllReadyH.cons rfl (fun K hK => ?_) AllReadyH.nil
              refine wp_store_blk 27 _ _ rfl p9 #[.slice none 0 0] 27 [.slice Px px qx] rfl rfl B95.out rfl Tryd.i27 (by simp [Value.oneCell']) ?_
              intro w6 hb ho
              have B96 := Lib.hid hb
              have B06 := Lib.hid (ho.keep B05.out (by have := NE.out; omega))
              have B86 := Lib.hid (ho.keep B85.out (by have := P9.out; omega))
              have HB6 := Lib.hid (HB5.out.trans (ho.below (by have := P9.out; omega)))
              have O16 := Lib.hid (O15.out.onlyNe ho (fun j hj => O15.out.apart B95.out (by decide) j hj))
              have O26 := Lib.hid (O25.out.onlyNe ho (fun j hj => O25.out.apart B95.out (by decide) j hj))
              clear hb ho
              refine hK.out _ _ (CX.out _ HB6.out B86.out) (fun hHeld => ?_)
              clear hK K
              try dsimp only [Act.put]
              try simp only [Act.put, List.setIfInBounds_toArray, List.set_cons_zero, List.set_cons_succ]
              refine wpAnyH_ready (rs := [9]) (by kernel_rfl) (by simp) ?_
              refine AllReadyH.cons rfl (fun K hK => ?_) AllReadyH.nil
              refine wp_store_blk 27 _ _ rfl p0 #[.slice none 0 0] 27 [.slice Py py qy] rfl rfl B06.out rfl Tryd.i27 (by simp [Value.oneCell']) ?_
              intro w7 hb ho
              have B07 := Lib.hid hb
              have B97 := Lib.hid (ho.keep B96.out (by have := NE.out; omega))
              have B87 := Lib.hid (ho.keep B86.out (by have := P0.out; omega))
              have HB7 := Lib.hid (HB6.out.trans (ho.below (by have := P0.out; omega)))
              have O17 := Lib.hid (O16.out.onlyNe ho (fun j hj => O16.out.apart B06.out (by decide) j hj))
              have O27 := Lib.hid (O26.out.onlyNe ho (fun j hj => O26.out.apart B06.out (by decide) j hj))
              clear hb ho
              refine hK.out _ _ (CX.out _ HB7.out B87.out) (fun hHeld => ?_)
              clear hK K
              try dsimp only [Act.put]
              try simp only [Act.put, List.setIfInBounds_toArray, List.set_cons_zero, List.set_cons_succ]
              refine wpAnyH_done (by kernel_rfl) ?_ _
              refine NoPanic.normal ?_
              go_wp2_with fail
              go_meet
              case rel => exact ⟨rfl, p9, p0, Px, px, qx, Py, py, qy, rfl, rfl, B97.out, B07.out, B87.out, O17.out.is_.1, O27.out.is_.1, O17.out.is_.2.1, Nx.out, Ny.out, O17.out.is_.2.2, ios_cm O17.out, HB7.out⟩
          · skip
            go_simp
            have hb : Below w2.heap.size w2 (w2.alloc (.cells #[.slice none 0 0] 27)) := (Below.refl _ _).alloc (Nat.le_refl _) _
            have B83 := Lib.hid (B82.out.below hb B82.out.lt)
            have HB3 := Lib.hid (HB2.out.trans (hb.mono HB2.out.size))
            have O13 := Lib.hid (O12.out.below hb)
            have B03 : Hid (Blk (w2.alloc (.cells #[.slice none 0 0] 27)) w2.heap.size 27 #[.slice none 0 0]) := Lib.hid (Blk.new _ _ _)
            obtain ⟨p0, hp0⟩ : ∃ p, w2.heap.size = p := ⟨_, rfl⟩
            have P0 : Hid (wr.heap.size < p0) := Lib.hid (by rw [← hp0]; exact B82.out.lt)
            have NO0x : Hid (∀ j, (Value.slice Px px qx).ownBlock = some j → j ≠ p0) := Lib.hid (fun j hj e => by have := (O12.out.lt j hj).2; omega)
            rw [hp0] at B03
            rw [hp0]
            generalize w2.alloc (.cells #[.slice none 0 0] 27) = w3 at *
            clear hb
            refine hK.out _ _ (CX.out _ HB3.out B83.out) (fun hHeld => ?_)
            clear hK K
            try simp only [Act.put, List.setIfInBounds_toArray, List.set_cons_zero, List.set_cons_succ]
            refine wpAnyH_ready (rs := [5, 6]) (by kernel_rfl) (by simp) ?_
            refine AllReadyH.cons rfl (fun K hK => ?_) (AllReadyH.cons rfl (fun K hK => ?_) AllReadyH.nil)
            · skip
              go_simp
              refine (FY.out _ HB3.out).mono ?_
              rintro e w4 ⟨Py, py, qy, rfl, ho, hn, hb⟩
              have B84 := Lib.hid (B83.out.below hb B83.out.lt)
              have HB4 := Lib.hid (HB3.out.trans (hb.mono HB3.out.size))
              have B04 := Lib.hid (B03.out.below hb B03.out.lt)
              have O14 := Lib.hid (O13.out.below hb)
              have O24 := Lib.hid ho
              have Ny := Lib.hid hn
              have SZy := Lib.hid HB3.out.size
              clear hb ho hn
              refine hK.out _ _ (CX.out _ HB4.out B84.out) (fun hHeld => ?_)
              clear hK K
              try simp only [Act.put, List.setIfInBounds_toArray, List.set_cons_zero, List.set_cons_succ]
              refine wpAnyH_ready (rs := [6]) (by kernel_rfl) (by simp) ?_
              refine AllReadyH.cons rfl (fun K hK => ?_) AllReadyH.nil
              go_simp
              have hb : Below w4.heap.size w4 (w4.alloc (.cells #[.slice none 0 0] 27)) := (Below.refl _ _).alloc (Nat.le_refl _) _
              have B85 := Lib.hid (B84.out.below hb B84.out.lt)
              have HB5 := Lib.hid (HB4.out.trans (hb.mono HB4.out.size))
              have B05 := Lib.hid (B04.out.below hb B04.out.lt)
              have O15 := Lib.hid (O14.out.below hb)
              have O25 := Lib.hid (O24.out.below hb)
              have B95 : Hid (Blk (w4.alloc (.cells #[.slice none 0 0] 27)) w4.heap.size 27 #[.slice none 0 0]) := Lib.hid (Blk.new _ _ _)
              obtain ⟨p9, hp9⟩ : ∃ p, w4.heap.size = p := ⟨_, rfl⟩
              have P9 : Hid (wr.heap.size < p9) := Lib.hid (by rw [← hp9]; exact B84.out.lt)
              have NE : Hid (p0 < p9) := Lib.hid (by rw [← hp9]; exact B04.out.lt)
              have NO9x : Hid (∀ j, (Value.slice Px px qx).ownBlock = some j → j ≠ p9) := Lib.hid (fun j hj e => by have := (O14.out.lt j hj).2; omega)
              have NO9y : Hid (∀ j, (Value.slice Py py qy).ownBlock = some j → j ≠ p9) := Lib.hid (fun j hj e => by have := (O24.out.lt j hj).2; omega)
              rw [hp9] at B95
              rw [hp9]
              generalize w4.alloc (.cells #[.slice none 0 0] 27) = w5 at *
              clear hb
              refine hK.out _ _ (CX.out _ HB5.out B85.out) (fun hHeld => ?_)
              clear hK K
              try simp only [Act.put, List.setIfInBounds_toArray, List.set_cons_zero, List.set_cons_succ]
              refine wpAnyH_ready (rs := [8]) (by kernel_rfl) (by simp) ?_
              refine AllReadyH.cons rfl (fun K hK => ?_) AllReadyH.nil
              refine wp_store_blk 27 _ _ rfl p9 #[.slice none 0 0] 27 [.slice Px px qx] rfl rfl B95.out rfl Tryd.i27 (by simp [Value.oneCell']) ?_
              intro w6 hb ho
              have B96 := Lib.hid hb
              have B06 := Lib.hid (ho.keep B05.out (by have := NE.out; omega))
              have B86 := Lib.hid (ho.keep B85.out (by have := P9.out; omega))
              have HB6 := Lib.hid (HB5.out.trans (ho.below (by have := P9.out; omega)))
              have O16 := Lib.hid (O15.out.onlyNe ho (fun j hj => O15.out.apart B95.out (by decide) j hj))
              have O26 := Lib.hid (O25.out.onlyNe ho (fun j hj => O25.out.apart B95.out (by decide) j hj))
              clear hb ho
              refine hK.out _ _ (CX.out _ HB6.out B86.out) (fun hHeld => ?_)
              clear hK K
              try dsimp only [Act.put]
              try simp only [Act.put, List.setIfInBounds_toArray, List.set_cons_zero, List.set_cons_succ]
              refine wpAnyH_ready (rs := [9]) (by kernel_rfl) (by simp) ?_
              refine AllReadyH.cons rfl (fun K hK => ?_) AllReadyH.nil
              refine wp_store_blk 27 _ _ rfl p0 #[.slice none 0 0] 27 [.slice Py py qy] rfl rfl B06.out rfl Tryd.i27 (by simp [Value.oneCell']) ?_
              intro w7 hb ho
              have B07 := Lib.hid hb
              have B97 := Lib.hid (ho.keep B96.out (by have := NE.out; omega))
              have B87 := Lib.hid (ho.keep B86.out (by have := P0.out; omega))
              have HB7 := Lib.hid (HB6.out.trans (ho.below (by have := P0.out; omega)))
              have O17 := Lib.hid (O16.out.onlyNe ho (fun j hj => O16.out.apart B06.out (by decide) j hj))
              have O27 := Lib.hid (O26.out.onlyNe ho (fun j hj => O26.out.apart B06.out (by decide) j hj))
              clear hb ho
              refine hK.out _ _ (CX.out _ HB7.out B87.out) (fun hHeld => ?_)
              clear hK K
              try dsimp only [Act.put]
              try simp only [Act.put, List.setIfInBounds_toArray, List.set_cons_zero, List.set_cons_succ]
              refine wpAnyH_done (by kernel_rfl) ?_ _
              refine NoPanic.normal ?_
              go_wp2_with fail
              go_meet
              case rel => exact ⟨rfl, p9, p0, Px, px, qx, Py, py, qy, rfl, rfl, B97.out, B07.out, B87.out, O17.out.is_.1, O27.out.is_.1, O17.out.is_.2.1, Nx.out, Ny.out, O17.out.is_.2.2, ios_cm O17.out, HB7.out⟩
            · skip
              go_simp
              have hb : Below w3.heap.size w3 (w3.alloc (.cells #[.slice none 0 0] 27)) := (Below.refl _ _).alloc (Nat.le_refl _) _
              have B84 := Lib.hid (B83.out.below hb B83.out.lt)
              have HB4 := Lib.hid (HB3.out.trans (hb.mono HB3.out.size))
              have B04 := Lib.hid (B03.out.below hb B03.out.lt)
              have O14 := Lib.hid (O13.out.below hb)
              have B94 : Hid (Blk (w3.alloc (.cells #[.slice none 0 0] 27)) w3.heap.size 27 #[.slice none 0 0]) := Lib.hid (Blk.new _ _ _)
              obtain ⟨p9, hp9⟩ : ∃ p, w3.heap.size = p := ⟨_, rfl⟩
              have P9 : Hid (wr.heap.size < p9) := Lib.hid (by rw [← hp9]; exact B83.out.lt)
              have NE : Hid (p0 < p9) := Lib.hid (by rw [← hp9]; exact B03.out.lt)
              have NO9x : Hid (∀ j, (Value.slice Px px qx).ownBlock = some j → j ≠ p9) := Lib.hid (fun j hj e => by have := (O13.out.lt j hj).2; omega)
              rw [hp9] at B94
              rw [hp9]
              generalize w3.alloc (.cells #[.slice none 0 0] 27) = w4 at *
              clear hb
              refine hK.out _ _ (CX.out _ HB4.out B84.out) (fun hHeld => ?_)
              clear hK K
              try simp only [Act.put, List.setIfInBounds_toArray, List.set_cons_zero, List.set_cons_succ]
              refine wpAnyH_ready (rs := [5]) (by kernel_rfl) (by simp) ?_
              refine AllReadyH.cons rfl (fun K hK => ?_) AllReadyH.nil
              go_simp
              refine (FY.out _ HB4.out).mono ?_
              rintro e w5 ⟨Py, py, qy, rfl, ho, hn, hb⟩
              have B85 := Lib.hid (B84.out.below hb B84.out.lt)
              have HB5 := Lib.hid (HB4.out.trans (hb.mono HB4.out.size))
              have B95 := Lib.hid (B94.out.below hb B94.out.lt)
              have B05 := Lib.hid (B04.out.below hb B04.out.lt)
              have O15 := Lib.hid (O14.out.below hb)
              have O25 := Lib.hid ho
              have Ny := Lib.hid hn
              have SZy := Lib.hid HB4.out.size
              clear hb ho hn
              refine hK.out _ _ (CX.out _ HB5.out B85.out) (fun hHeld => ?_)
              clear hK K
              try simp only [Act.put, List.setIfInBounds_toArray, List.set_cons_zero, List.set_cons_succ]
              refine wpAnyH_ready (rs := [8]) (by kernel_rfl) (by simp) ?_
              refine AllReadyH.cons rfl (fun K hK => ?_) AllReadyH.nil
              refine wp_store_blk 27 _ _ rfl p9 #[.slice none 0 0] 27 [.slice Px px qx] rfl rfl B95.out rfl Tryd.i27 (by simp [Value.oneCell']) ?_
              intro w6 hb ho
              have B96 := Lib.hid hb
              have B06 := Lib.hid (ho.keep B05.out (by have := NE.out; omega))
              have B86 := Lib.hid (ho.keep B85.out (by have := P9.out; omega))
              have HB6 := Lib.hid (HB5.out.trans (ho.below (by have := P9.out; omega)))
              have O16 := Lib.hid (O15.out.onlyNe ho (fun j hj => O15.out.apart B95.out (by decide) j hj))
              have O26 := Lib.hid (O25.out.onlyNe ho (fun j hj => O25.out.apart B95.out (by decide) j hj))
              clear hb ho
              refine hK.out _ _ (CX.out _ HB6.out B86.out) (fun hHeld => ?_)
              clear hK K
              try dsimp only [Act.put]
              try simp only [Act.put, List.setIfInBounds_toArray, List.set_cons_zero, List.set_cons_succ]
              refine wpAnyH_ready (rs := [9]) (by kernel_rfl) (by simp) ?_
              refine AllReadyH.cons rfl (fun K hK => ?_) AllReadyH.nil
              refine wp_store_blk 27 _ _ rfl p0 #[.slice none 0 0] 27 [.slice Py py qy] rfl rfl B06.out rfl Tryd.i27 (by simp [Value.oneCell']) ?_
              intro w7 hb ho
              have B07 := Lib.hid hb
              have B97 := Lib.hid (ho.keep B96.out (by have := NE.out; omega))
              have B87 := Lib.hid (ho.keep B86.out (by have := P0.out; omega))
              have HB7 := Lib.hid (HB6.out.trans (ho.below (by have := P0.out; omega)))
              have O17 := Lib.hid (O16.out.onlyNe ho (fun j hj => O16.out.apart B06.out (by decide) j hj))
              have O27 := Lib.hid (O26.out.onlyNe ho (fun j hj => O26.out.apart B06.out (by decide) j hj))
              clear hb ho
              refine hK.out _ _ (CX.out _ HB7.out B87.out) (fun hHeld => ?_)
              clear hK K
              try dsimp only [Act.put]
              try simp only [Act.put, List.setIfInBounds_toArray, List.set_cons_zero, List.set_cons_succ]
              refine wpAnyH_done (by kernel_rfl) ?_ _
              refine NoPanic.normal ?_
              go_wp2_with fail
              go_meet
              case rel => exact ⟨rfl, p9, p0, Px, px, qx, Py, py, qy, rfl, rfl, B97.out, B07.out, B87.out, O17.out.is_.1, O27.out.is_.1, O17.out.is_.2.1, Nx.out, Ny.out, O17.out.is_.2.2, ios_cm O17.out, HB7.out⟩
        · skip
          go_simp
          have hb : Below w1.heap.size w1 (w1.alloc (.cells #[.slice none 0 0] 27)) := (Below.refl _ _).alloc (Nat.le_refl _) _
          have B82 := Lib.hid (B81.out.below hb B81.out.lt)
          have HB2 := Lib.hid (HB1.out.trans (hb.mono HB1.out.size))
          have B92 : Hid (Blk (w1.alloc (.cells #[.slice none 0 0] 27)) w1.heap.size 27 #[.slice none 0 0]) := Lib.hid (Blk.new _ _ _)
          obtain ⟨p9, hp9⟩ : ∃ p, w1.heap.size = p := ⟨_, rfl⟩
          have P9 : Hid (wr.heap.size < p9) := Lib.hid (by rw [← hp9]; exact B81.out.lt)
          rw [hp9] at B92
          rw [hp9]
          generalize w1.alloc (.cells #[.slice none 0 0] 27) = w2 at *
          clear hb
          refine hK.out _ _ (CX.out _ HB2.out B82.out) (fun hHeld => ?_)
          clear hK K
          try simp only [Act.put, List.setIfInBounds_toArray, List.set_cons_zero, List.set_cons_succ]
          refine wpAnyH_ready (rs := [1, 7]) (by kernel_rfl) (by simp) ?_
          refine AllReadyH.cons rfl (fun K hK => ?_) (AllReadyH.cons rfl (fun K hK => ?_) AllReadyH.nil)
          · skip
            go_simp
            refine (FX.out _ HB2.out).mono ?_
            rintro e w3 ⟨Px, px, qx, rfl, ho, hn, hb⟩
            have B83 := Lib.hid (B82.out.below hb B82.out.lt)
            have HB3 := Lib.hid (HB2.out.trans (hb.mono HB2.out.size))
            have B93 := Lib.hid (B92.out.below hb B92.out.lt)
            have O13 := Lib.hid ho
            have Nx := Lib.hid hn
            have SZx := Lib.hid HB2.out.size
            clear hb ho hn
            refine hK.out _ _ (CX.out _ HB3.out B83.out) (fun hHeld => ?_)
            clear hK K
            try simp only [Act.put, List.setIfInBounds_toArray, List.set_cons_zero, List.set_cons_succ]
            refine wpAnyH_ready (rs := [5, 7]) (by kernel_rfl) (by simp) ?_
            refine AllReadyH.cons rfl (fun K hK => ?_) (AllReadyH.cons rfl (fun K hK => ?_) AllReadyH.nil)
            · skip
              go_simp
              refine (FY.out _ HB3.out).mono ?_
              rintro e w4 ⟨Py, py, qy, rfl, ho, hn, hb⟩
              have B84 := Lib.hid (B83.out.below hb B83.out.lt)
              have HB4 := Lib.hid (HB3.out.trans (hb.mono HB3.out.size))
              have B94 := Lib.hid (B93.out.below hb B93.out.lt)
              have O14 := Lib.hid (O13.out.below hb)
              have O24 := Lib.hid ho
              have Ny := Lib.hid hn
              have SZy := Lib.hid HB3.out.size
              clear hb ho hn
              refine hK.out _ _ (CX.out _ HB4.out B84.out) (fun hHeld => ?_)
              clear hK K
              try simp only [Act.put, List.setIfInBounds_toArray, List.set_cons_zero, List.set_cons_succ]
              refine wpAnyH_ready (rs := [7]) (by kernel_rfl) (by simp) ?_
              refine AllReadyH.cons rfl (fun K hK => ?_) AllReadyH.nil
              go_simp
              have hb : Below w4.heap.size w4 (w4.alloc (.cells #[.slice none 0 0] 27)) := (Below.refl _ _).alloc (Nat.le_refl _) _
              have B85 := Lib.hid (B84.out.below hb B84.out.lt)
              have HB5 := Lib.hid (HB4.out.trans (hb.mono HB4.out.size))
              have B95 := Lib.hid (B94.out.below hb B94.out.lt)
              have O15 := Lib.hid (O14.out.below hb)
              have O25 := Lib.hid (O24.out.below hb)
              have B05 : Hid (Blk (w4.alloc (.cells #[.slice none 0 0] 27)) w4.heap.size 27 #[.slice none 0 0]) := Lib.hid (Blk.new _ _ _)
              obtain ⟨p0, hp0⟩ : ∃ p, w4.heap.size = p := ⟨_, rfl⟩
              have P0 : Hid (wr.heap.size < p0) := Lib.hid (by rw [← hp0]; exact B84.out.lt)
              have NE : Hid (p9 < p0) := Lib.hid (by rw [← hp0]; exact B94.out.lt)
              have NO0x : Hid (∀ j, (Value.slice Px px qx).ownBlock = some j → j ≠ p0) := Lib.hid (fun j hj e => by have := (O14.out.lt j hj).2; omega)
              have NO0y : Hid (∀ j, (Value.slice Py py qy).ownBlock = some j → j ≠ p0) := Lib.hid (fun j hj e => by have := (O24.out.lt j hj).2; omega)
              rw [hp0] at B05
              rw [hp0]
              generalize w4.alloc (.cells #[.slice none 0 0] 27) = w5 at *
              clear hb
              refine hK.out _ _ (CX.out _ HB5.out B85.out) (fun hHeld => ?_)
              clear hK K
              try simp only [Act.put, List.setIfInBounds_toArray, List.set_cons_zero, List.set_cons_succ]
              refine wpAnyH_ready (rs := [8]) (by kernel_rfl) (by simp) ?_
              refine AllReadyH.cons rfl (fun K hK => ?_) AllReadyH.nil
              refine wp_store_blk 27 _ _ rfl p9 #[.slice none 0 0] 27 [.slice Px px qx] rfl rfl B95.out rfl Tryd.i27 (by simp [Value.oneCell']) ?_
              intro w6 hb ho
              have B96 := Lib.hid hb
              have B06 := Lib.hid (ho.keep B05.out (by have := NE.out; omega))
              have B86 := Lib.hid (ho.keep B85.out (by have := P9.out; omega))
              have HB6 := Lib.hid (HB5.out.trans (ho.below (by have := P9.out; omega)))
              have O16 := Lib.hid (O15.out.onlyNe ho (fun j hj => O15.out.apart B95.out (by decide) j hj))
              have O26 := Lib.hid (O25.out.onlyNe ho (fun j hj => O25.out.apart B95.out (by decide) j hj))
              clear hb ho
              refine hK.out _ _ (CX.out _ HB6.out B86.out) (fun hHeld => ?_)
              clear hK K
              try dsimp only [Act.put]
              try simp only [Act.put, List.setIfInBounds_toArray, List.set_cons_zero, List.set_cons_succ]
              refine wpAnyH_ready (rs := [9]) (by kernel_rfl) (by simp) ?_
              refine AllReadyH.cons rfl (fun K hK => ?_) AllReadyH.nil
              refine wp_store_blk 27 _ _ rfl p0 #[.slice none 0 0] 27 [.slice Py py qy] rfl rfl B06.out rfl Tryd.i27 (by simp [Value.oneCell']) ?_
              intro w7 hb ho
              have B07 := Lib.hid hb
              have B97 := Lib.hid (ho.keep B96.out (by have := NE.out; omega))
              have B87 := Lib.hid (ho.keep B86.out (by have := P0.out; omega))
              have HB7 := Lib.hid (HB6.out.trans (ho.below (by have := P0.out; omega)))
              have O17 := Lib.hid (O16.out.onlyNe ho (fun j hj => O16.out.apart B06.out (by decide) j hj))
              have O27 := Lib.hid (O26.out.onlyNe ho (fun j hj => O26.out.apart B06.out (by decide) j hj))
              clear hb ho
              refine hK.out _ _ (CX.out _ HB7.out B87.out) (fun hHeld => ?_)
              clear hK K
              try dsimp only [Act.put]
              try simp only [Act.put, List.setIfInBounds_toArray, List.set_cons_zero, List.set_cons_succ]
              refine wpAnyH_done (by kernel_rfl) ?_ _
              refine NoPanic.normal ?_
              go_wp2_with fail
              go_meet
              case rel => exact ⟨rfl, p9, p0, Px, px, qx, Py, py, qy, rfl, rfl, B97.out, B07.out, B87.out, O17.out.is_.1, O27.out.is_.1, O17.out.is_.2.1, Nx.out, Ny.out, O17.out.is_.2.2, ios_cm O17.out, HB7.out⟩
            · skip
              go_simp
              have hb : Below w3.heap.size w3 (w3.alloc (.cells #[.slice none 0 0] 27)) := (Below.refl _ _).alloc (Nat.le_refl _) _
              have B84 := Lib.hid (B83.out.below hb B83.out.lt)
              have HB4 := Lib.hid (HB3.out.trans (hb.mono HB3.out.size))
              have B94 := Lib.hid (B93.out.below hb B93.out.lt)
              have O14 := Lib.hid (O13.out.below hb)
              have B04 : Hid (Blk (w3.alloc (.cells #[.slice none 0 0] 27)) w3.heap.size 27 #[.slice none 0 0]) := Lib.hid (Blk.new _ _ _)
              obtain ⟨p0, hp0⟩ : ∃ p, w3.heap.size = p := ⟨_, rfl⟩
              have P0 : Hid (wr.heap.size < p0) := Lib.hid (by rw [← hp0]; exact B83.out.lt)
              have NE : Hid (p9 < p0) := Lib.hid (by rw [← hp0]; exact B93.out.lt)
              have NO0x : Hid (∀ j, (Value.slice Px px qx).ownBlock = some j → j ≠ p0) := Lib.hid (fun j hj e => by have := (O13.out.lt j hj).2; omega)
              rw [hp0] at B04
              rw [hp0]
              generalize w3.alloc (.cells #[.slice none 0 0] 27) = w4 at *
              clear hb
              refine hK.out _ _ (CX.out _ HB4.out B84.out) (fun hHeld => ?_)
              clear hK K
              try simp only [Act.put, List.setIfInBounds_toArray, List.set_cons_zero, List.set_cons_succ]
              refine wpAnyH_ready (rs := [5]) (by kernel_rfl) (by simp) ?_
              refine AllReadyH.cons rfl (fun K hK => ?_) AllReadyH.nil
              go_simp
              refine (FY.out _ HB4.out).mono ?_
              rintro e w5 ⟨Py, py, qy, rfl, ho, hn, hb⟩
              have B85 := Lib.hid (B84.out.below hb B84.out.lt)
              have HB5 := Lib.hid (HB4.out.trans (hb.mono HB4.out.size))
              have B95 := Lib.hid (B94.out.below hb B94.out.lt)
              have B05 := Lib.hid (B04.out.below hb B04.out.lt)
              have O15 := Lib.hid (O14.out.below hb)
              have O25 := Lib.hid ho
              have Ny := Lib.hid hn
              have SZy := Lib.hid HB4.out.size
              clear hb ho hn
              refine hK.out _ _ (CX.out _ HB5.out B85.out) (fun hHeld => ?_)
              clear hK K
              try simp only [Act.put, List.setIfInBounds_toArray, List.set_cons_zero, List.set_cons_succ]
              refine wpAnyH_ready (rs := [8]) (by kernel_rfl) (by simp) ?_
              refine AllReadyH.cons rfl (fun K hK => ?_) AllReadyH.nil
              refine wp_store_blk 27 _ _ rfl p9 #[.slice none 0 0] 27 [.slice Px px qx] rfl rfl B95.out rfl Tryd.i27 (by simp [Value.oneCell']) ?_
              intro w6 hb ho
              have B96 := Lib.hid hb
              have B06 := Lib.hid (ho.keep B05.out (by have := NE.out; omega))
              have B86 := Lib.hid (ho.keep B85.out (by have := P9.out; omega))
              have HB6 := Lib.hid (HB5.out.trans (ho.below (by have := P9.out; omega)))
              have O16 := Lib.hid (O15.out.onlyNe ho (fun j hj => O15.out.apart B95.out (by decide) j hj))
              have O26 := Lib.hid (O25.out.onlyNe ho (fun j hj => O25.out.apart B95.out (by decide) j hj))
              clear hb ho
              refine hK.out _ _ (CX.out _ HB6.out B86.out) (fun hHeld => ?_)
              clear hK K
              try dsimp only [Act.put]
              try simp only [Act.put, List.setIfInBounds_toArray, List.set_cons_zero, List.set_cons_succ]
              refine wpAnyH_ready (rs := [9]) (by kernel_rfl) (by simp) ?_
              refine AllReadyH.cons rfl (fun K hK => ?_) AllReadyH.nil
              refine wp_store_blk 27 _ _ rfl p0 #[.slice none 0 0] 27 [.slice Py py qy] rfl rfl B06.out rfl Tryd.i27 (by simp [Value.oneCell']) ?_
              intro w7 hb ho
              have B07 := Lib.hid hb
              have B97 := Lib.hid (ho.keep B96.out (by have := NE.out; omega))
              have B87 := Lib.hid (ho.keep B86.out (by have := P0.out; omega))
              have HB7 := Lib.hid (HB6.out.trans (ho.below (by have := P0.out; omega)))
              have O17 := Lib.hid (O16.out.onlyNe ho (fun j hj => O16.out.apart B06.out (by decide) j hj))
              have O27 := Lib.hid (O26.out.onlyNe ho (fun j hj => O26.out.apart B06.out (by decide) j hj))
              clear hb ho
              refine hK.out _ _ (CX.out _ HB7.out B87.out) (fun hHeld => ?_)
              clear hK K
              try dsimp only [Act.put]
              try simp only [Act.put, List.setIfInBounds_toArray, List.set_cons_zero, List.set_cons_succ]
              refine wpAnyH_done (by kernel_rfl) ?_ _
              refine NoPanic.normal ?_
              go_wp2_with fail
              go_meet
              case rel => exact ⟨rfl, p9, p0, Px, px, qx, Py, py, qy, rfl, rfl, B97.out, B07.out, B87.out, O17.out.is_.1, O27.out.is_.1, O17.out.is_.2.1, Nx.out, Ny.out, O17.out.is_.2.2, ios_cm O17.out, HB7.out⟩
          · skip
            go_simp
            have hb : Below w2.heap.size w2 (w2.alloc (.cells #[.slice none 0 0] 27)) := (Below.refl _ _).alloc (Nat.le_refl _) _
            have B83 := Lib.hid (B82.out.below hb B82.out.lt)
            have HB3 := Lib.hid (HB2.out.trans (hb.mono HB2.out.size))
            have B93 := Lib.hid (B92.out.below hb B92.out.lt)
            have B03 : Hid (Blk (w2.alloc (.cells #[.slice none 0 0] 27)) w2.heap.size 27 #[.slice none 0 0]) := Lib.hid (Blk.new _ _ _)
            obtain ⟨p0, hp0⟩ : ∃ p, w2.heap.size = p := ⟨_, rfl⟩
            have P0 : Hid (wr.heap.size < p0) := Lib.hid (by rw [← hp0]; exact B82.out.lt)
            have NE : Hid (p9 < p0) := Lib.hid (by rw [← hp0]; exact B92.out.lt)
            rw [hp0] at B03
            rw [hp0]
            generalize w2.alloc (.cells #[.slice none 0 0] 27) = w3 at *
            clear hb
            refine hK.out _ _ (CX.out _ HB3.out B83.out) (fun hHeld => ?_)
            clear hK K
            try simp only [Act.put, List.setIfInBounds_toArray, List.set_cons_zero, List.set_cons_succ]
            refine wpAnyH_ready (rs := [1]) (by kernel_rfl) (by simp) ?_
            refine AllReadyH.cons rfl (fun K hK => ?_) AllReadyH.nil
            go_simp
            refine (FX.out _ HB3.out).mono ?_
            rintro e w4 ⟨Px, px, qx, rfl, ho, hn, hb⟩
            have B84 := Lib.hid (B83.out.below hb B83.out.lt)
            have HB4 := Lib.hid (HB3.out.trans (hb.mono HB3.out.size))
            have B94 := Lib.hid (B93.out.below hb B93.out.lt)
            have B04 := Lib.hid (B03.out.below hb B03.out.lt)
            have O14 := Lib.hid ho
            have Nx := Lib.hid hn
            have SZx := Lib.hid HB3.out.size
            clear hb ho hn
            refine hK.out _ _ (CX.out _ HB4.out B84.out) (fun hHeld => ?_)
            clear hK K
            try simp only [Act.put, List.setIfInBounds_toArray, List.set_cons_zero, List.set_cons_succ]
            refine wpAnyH_ready (rs := [5]) (by kernel_rfl) (by simp) ?_
            refine AllReadyH.cons rfl (fun K hK => ?_) AllReadyH.nil
            go_simp
            refine (FY.out _ HB4.out).mono ?_
            rintro e w5 ⟨Py, py, qy, rfl, ho, hn, hb⟩
            have B85 := Lib.hid (B84.out.below hb B84.out.lt)
            have HB5 := Lib.hid (HB4.out.trans (hb.mono HB4.out.size))
            have B95 := Lib.hid (B94.out.below hb B94.out.lt)
            have B05 := Lib.hid (B04.out.below hb B04.out.lt)
            have O15 := Lib.hid (O14.out.below hb)
            have O25 := Lib.hid ho
            have Ny := Lib.hid hn
            have SZy := Lib.hid HB4.out.size
            clear hb ho hn
            refine hK.out _ _ (CX.out _ HB5.out B85.out) (fun hHeld => ?_)
            clear hK K
            try simp only [Act.put, List.setIfInBounds_toArray, List.set_cons_zero, List.set_cons_succ]
            refine wpAnyH_ready (rs := [8]) (by kernel_rfl) (by simp) ?_
            refine AllReadyH.cons rfl (fun K hK => ?_) AllReadyH.nil
            refine wp_store_blk 27 _ _ rfl p9 #[.slice none 0 0] 27 [.slice Px px qx] rfl rfl B95.out rfl Tryd.i27 (by simp [Value.oneCell']) ?_
            intro w6 hb ho
            have B96 := Lib.hid hb
            have B06 := Lib.hid (ho.keep B05.out (by have := NE.out; omega))
            have B86 := Lib.hid (ho.keep B85.out (by have := P9.out; omega))
            have HB6 := Lib.hid (HB5.out.trans (ho.below (by have := P9.out; omega)))
            have O16 := Lib.hid (O15.out.onlyNe ho (fun j hj => O15.out.apart B95.out (by decide) j hj))
            have O26 := Lib.hid (O25.out.onlyNe ho (fun j hj => O25.out.apart B95.out (by decide) j hj))
            clear hb ho
            refine hK.out _ _ (CX.out _ HB6.out B86.out) (fun hHeld => ?_)
            clear hK K
            try dsimp only [Act.put]
            try simp only [Act.put, List.setIfInBounds_toArray, List.set_cons_zero, List.set_cons_succ]
            refine wpAnyH_ready (rs := [9]) (by kernel_rfl) (by simp) ?_
            refine AllReadyH.cons rfl (fun K hK => ?_) AllReadyH.nil
            refine wp_store_blk 27 _ _ rfl p0 #[.slice none 0 0] 27 [.slice Py py qy] rfl rfl B06.out rfl Tryd.i27 (by simp [Value.oneCell']) ?_
            intro w7 hb ho
            have B07 := Lib.hid hb
            have B97 := Lib.hid (ho.keep B96.out (by have := NE.out; omega))
            have B87 := Lib.hid (ho.keep B86.out (by have := P0.out; omega))
            have HB7 := Lib.hid (HB6.out.trans (ho.below (by have := P0.out; omega)))
            have O17 := Lib.hid (O16.out.onlyNe ho (fun j hj => O16.out.apart B06.out (by decide) j hj))
            have O27 := Lib.hid (O26.out.onlyNe ho (fun j hj => O26.out.apart B06.out (by decide) j hj))
            clear hb ho
            refine hK.out _ _ (CX.out _ HB7.out B87.out) (fun hHeld => ?_)
            clear hK K
            try dsimp only [Act.put]
            try simp only [Act.put, List.setIfInBounds_toArray, List.set_cons_zero, List.set_cons_succ]
            refine wpAnyH_done (by kernel_rfl) ?_ _
            refine NoPanic.normal ?_
            go_wp2_with fail
            go_meet
            case rel => exact ⟨rfl, p9, p0, Px, px, qx, Py, py, qy, rfl, rfl, B97.out, B07.out, B87.out, O17.out.is_.1, O27.out.is_.1, O17.out.is_.2.1, Nx.out, Ny.out, O17.out.is_.2.2, ios_cm O17.out, HB7.out⟩
        · skip
          go_simp
          have hb : Below w1.heap.size w1 (w1.alloc (.cells #[.slice none 0 0] 27)) := (Below.refl _ _).alloc (Nat.le_refl _) _
          have B82 := Lib.hid (B81.out.below hb B81.out.lt)
          have HB2 := Lib.hid (HB1.out.trans (hb.mono HB1.out.size))
          have B02 : Hid (Blk (w1.alloc (.cells #[.slice none 0 0] 27)) w1.heap.size 27 #[.slice none 0 0]) := Lib.hid (Blk.new _ _ _)
          obtain ⟨p0, hp0⟩ : ∃ p, w1.heap.size = p := ⟨_, rfl⟩
          have P0 : Hid (wr.heap.size < p0) := Lib.hid (by rw [← hp0]; exact B81.out.lt)
          rw [hp0] at B02
          rw [hp0]
          generalize w1.alloc (.cells #[.slice none 0 0] 27) = w2 at *
          clear hb
          refine hK.out _ _ (CX.out _ HB2.out B82.out) (fun hHeld => ?_)
          clear hK K
          try simp only [Act.put, List.setIfInBounds_toArray, List.set_cons_zero, List.set_cons_succ]
          refine wpAnyH_ready (rs := [1, 6]) (by kernel_rfl) (by simp) ?_
          refine AllReadyH.cons rfl (fun K hK => ?_) (AllReadyH.cons rfl (fun K hK => ?_) AllReadyH.nil)
          · skip
            go_simp
            refine (FX.out _ HB2.out).mono ?_
            rintro e w3 ⟨Px, px, qx, rfl, ho, hn, hb⟩
            have B83 := Lib.hid (B82.out.below hb B82.out.lt)
            have HB3 := Lib.hid (HB2.out.trans (hb.mono HB2.out.size))
            have B03 := Lib.hid (B02.out.below hb B02.out.lt)
            have O13 := Lib.hid ho
            have Nx := Lib.hid hn
            have SZx := Lib.hid HB2.out.size
            clear hb ho hn
            refine hK.out _ _ (CX.out _ HB3.out B83.out) (fun hHeld => ?_)
            clear hK K
            try simp only [Act.put, List.setIfInBounds_toArray, List.set_cons_zero, List.set_cons_succ]
            refine wpAnyH_ready (rs := [5, 6]) (by kernel_rfl) (by simp) ?_
            refine AllReadyH.cons rfl (fun K hK => ?_) (AllReadyH.cons rfl (fun K hK => ?_) AllReadyH.nil)
            · skip
              go_simp
              refine (FY.out _ HB3.out).mono ?_
              rintro e w4 ⟨Py, py, qy, rfl, ho, hn, hb⟩
              have B84 := Lib.hid (B83.out.below hb B83.out.lt)
              have HB4 := Lib.hid (HB3.out.trans (hb.mono HB3.out.size))
              have B04 := Lib.hid (B03.out.below hb B03.out.lt)
              have O14 := Lib.hid (O13.out.below hb)
              have O24 := Lib.hid ho
              have Ny := Lib.hid hn
              have SZy := Lib.hid HB3.out.size
              clear hb ho hn
              refine hK.out _ _ (CX.out _ HB4.out B84.out) (fun hHeld => ?_)
              clear hK K
              try simp only [Act.put, List.setIfInBounds_toArray, List.set_cons_zero, List.set_cons_succ]
              refine wpAnyH_ready (rs := [6]) (by kernel_rfl) (by simp) ?_
              refine AllReadyH.cons rfl (fun K hK => ?_) AllReadyH.nil
              go_simp
              have hb : Below w4.heap.size w4 (w4.alloc (.cells #[.slice none 0 0] 27)) := (Below.refl _ _).alloc (Nat.le_refl _) _
              have B85 := Lib.hid (B84.out.below hb B84.out.lt)
              have HB5 := Lib.hid (HB4.out.trans (hb.mono HB4.out.size))
              have B05 := Lib.hid (B04.out.below hb B04.out.lt)
              have O15 := Lib.hid (O14.out.below hb)
              have O25 := Lib.hid (O24.out.below hb)
              have B95 : Hid (Blk (w4.alloc (.cells #[.slice none 0 0] 27)) w4.heap.size 27 #[.slice none 0 0]) := Lib.hid (Blk.new _ _ _)
              obtain ⟨p9, hp9⟩ : ∃ p, w4.heap.size = p := ⟨_, rfl⟩
              have P9 : Hid (wr.heap.size < p9) := Lib.hid (by rw [← hp9]; exact B84.out.lt)
              have NE : Hid (p0 < p9) := Lib.hid (by rw [← hp9]; exact B04.out.lt)
              have NO9x : Hid (∀ j, (Value.slice Px px qx).ownBlock = some j → j ≠ p9) := Lib.hid (fun j hj e => by have := (O14.out.lt j hj).2; omega)
              have NO9y : Hid (∀ j, (Value.slice Py py qy).ownBlock = some j → j ≠ p9) := Lib.hid (fun j hj e => by have := (O24.out.lt j hj).2; omega)
              rw [hp9] at B95
              rw [hp9]
              generalize w4.alloc (.cells #[.slice none 0 0] 27) = w5 at *
              clear hb
              refine hK.out _ _ (CX.out _ HB5.out B85.out) (fun hHeld => ?_)
              clear hK K
              try simp only [Act.put, List.setIfInBounds_toArray, List.set_cons_zero, List.set_cons_succ]
              refine wpAnyH_ready (rs := [8]) (by kernel_rfl) (by simp) ?_
              refine AllReadyH.cons rfl (fun K hK => ?_) AllReadyH.nil
              refine wp_store_blk 27 _ _ rfl p9 #[.slice none 0 0] 27 [.slice Px px qx] rfl rfl B95.out rfl Tryd.i27 (by simp [Value.oneCell']) ?_
              intro w6 hb ho
              have B96 := Lib.hid hb
              have B06 := Lib.hid (ho.keep B05.out (by have := NE.out; omega))
              have B86 := Lib.hid (ho.keep B85.out (by have := P9.out; omega))
              have HB6 := Lib.hid (HB5.out.trans (ho.below (by have := P9.out; omega)))
              have O16 := Lib.hid (O15.out.onlyNe ho (fun j hj => O15.out.apart B95.out (by decide) j hj))
              have O26 := Lib.hid (O25.out.onlyNe ho (fun j hj => O25.out.apart B95.out (by decide) j hj))
              clear hb ho
              refine hK.out _ _ (CX.out _ HB6.out B86.out) (fun hHeld => ?_)
              clear hK K
              try dsimp only [Act.put]
              try simp only [Act.put, List.setIfInBounds_toArray, List.set_cons_zero, List.set_cons_succ]
              refine wpAnyH_ready (rs := [9]) (by kernel_rfl) (by simp) ?_
              refine AllReadyH.cons rfl (fun K hK => ?_) AllReadyH.nil
              refine wp_store_blk 27 _ _ rfl p0 #[.slice none 0 0] 27 [.slice Py py qy] rfl rfl B06.out rfl Tryd.i27 (by simp [Value.oneCell']) ?_
              intro w7 hb ho
              have B07 := Lib.hid hb
              have B97 := Lib.hid (ho.keep B96.out (by have := NE.out; omega))
              have B87 := Lib.hid (ho.keep B86.out (by have := P0.out; omega))
              have HB7 := Lib.hid (HB6.out.trans (ho.below (by have := P0.out; omega)))
              have O17 := Lib.hid (O16.out.onlyNe ho (fun j hj => O16.out.apart B06.out (by decide) j hj))
              have O27 := Lib.hid (O26.out.onlyNe ho (fun j hj => O26.out.apart B06.out (by decide) j hj))
              clear hb ho
              refine hK.out _ _ (CX.out _ HB7.out B87.out) (fun hHeld => ?_)
              clear hK K
              try dsimp only [Act.put]
              try simp only [Act.put, List.setIfInBounds_toArray, List.set_cons_zero, List.set_cons_succ]
              refine wpAnyH_done (by kernel_rfl) ?_ _
              refine NoPanic.normal ?_
              go_wp2_with fail
              go_meet
              case rel => exact ⟨rfl, p9, p0, Px, px, qx, Py, py, qy, rfl, rfl, B97.out, B07.out, B87.out, O17.out.is_.1, O27.out.is_.1, O17.out.is_.2.1, Nx.out, Ny.out, O17.out.is_.2.2, ios_cm O17.out, HB7.out⟩
            · skip
              go_simp
              have hb : Below w3.heap.size w3 (w3.alloc (.cells #[.slice none 0 0] 27)) := (Below.refl _ _).alloc (Nat.le_refl _) _
              have B84 := Lib.hid (B83.out.below hb B83.out.lt)
              have HB4 := Lib.hid (HB3.out.trans (hb.mono HB3.out.size))
              have B04 := Lib.hid (B03.out.below hb B03.out.lt)
              have O14 := Lib.hid (O13.out.below hb)
              have B94 : Hid (Blk (w3.alloc (.cells #[.slice none 0 0] 27)) w3.heap.size 27 #[.slice none 0 0]) := Lib.hid (Blk.new _ _ _)
              obtain ⟨p9, hp9⟩ : ∃ p, w3.heap.size = p := ⟨_, rfl⟩
              have P9 : Hid (wr.heap.size < p9) := Lib.hid (by rw [← hp9]; exact B83.out.lt)
              have NE : Hid (p0 < p9) := Lib.hid (by rw [← hp9]; exact B03.out.lt)
              have NO9x : Hid (∀ j, (Value.slice Px px qx).ownBlock = some j → j ≠ p9) := Lib.hid (fun j hj e => by have := (O13.out.lt j hj).2; omega)
              rw [hp9] at B94
              rw [hp9]
              generalize w3.alloc (.cells #[.slice none 0 0] 27) = w4 at *
              clear hb
              refine hK.out _ _ (CX.out _ HB4.out B84.out) (fun hHeld => ?_)
              clear hK K
              try simp only [Act.put, List.setIfInBounds_toArray, List.set_cons_zero, List.set_cons_succ]
              refine wpAnyH_ready (rs := [5]) (by kernel_rfl) (by simp) ?_
              refine AllReadyH.cons rfl (fun K hK => ?_) AllReadyH.nil
              go_simp
              refine (FY.out _ HB4.out).mono ?_
              rintro e w5 ⟨Py, py, qy, rfl, ho, hn, hb⟩
              have B85 := Lib.hid (B84.out.below hb B84.out.lt)
              have HB5 := Lib.hid (HB4.out.trans (hb.mono HB4.out.size))
              have B95 := Lib.hid (B94.out.below hb B94.out.lt)
              have B05 := Lib.hid (B04.out.below hb B04.out.lt)
              have O15 := Lib.hid (O14.out.below hb)
              have O25 := Lib.hid ho
              have Ny := Lib.hid hn
              have SZy := Lib.hid HB4.out.size
              clear hb ho hn
              refine hK.out _ _ (CX.out _ HB5.out B85.out) (fun hHeld => ?_)
              clear hK K
              try simp only [Act.put, List.setIfInBounds_toArray, List.set_cons_zero, List.set_cons_succ]
              refine wpAnyH_ready (rs := [8]) (by kernel_rfl) (by simp) ?_
              refine AllReadyH.cons rfl (fun K hK => ?_) AllReadyH.nil
              refine wp_store_blk 27 _ _ rfl p9 #[.slice none 0 0] 27 [.slice Px px qx] rfl rfl B95.out rfl Tryd.i27 (by simp [Value.oneCell']) ?_
              intro w6 hb ho
              have B96 := Lib.hid hb
              have B06 := Lib.hid (ho.keep B05.out (by have := NE.out; omega))
              have B86 := Lib.hid (ho.keep B85.out (by have := P9.out; omega))
              have HB6 := Lib.hid (HB5.out.trans (ho.below (by have := P9.out; omega)))
              have O16 := Lib.hid (O15.out.onlyNe ho (fun j hj => O15.out.apart B95.out (by decide) j hj))
              have O26 := Lib.hid (O25.out.onlyNe ho (fun j hj => O25.out.apart B95.out (by decide) j hj))
              clear hb ho
              refine hK.out _ _ (CX.out _ HB6.out B86.out) (fun hHeld => ?_)
              clear hK K
              try dsimp only [Act.put]
              try simp only [Act.put, List.setIfInBounds_toArray, List.set_cons_zero, List.set_cons_succ]
              refine wpAnyH_ready (rs := [9]) (by kernel_rfl) (by simp) ?_
              refine AllReadyH.cons rfl (fun K hK => ?_) AllReadyH.nil
              refine wp_store_blk 27 _ _ rfl p0 #[.slice none 0 0] 27 [.slice Py py qy] rfl rfl B06.out rfl Tryd.i27 (by simp [Value.oneCell']) ?_
              intro w7 hb ho
              have B07 := Lib.hid hb
              have B97 := Lib.hid (ho.keep B96.out (by have := NE.out; omega))
              have B87 := Lib.hid (ho.keep B86.out (by have := P0.out; omega))
              have HB7 := Lib.hid (HB6.out.trans (ho.below (by have := P0.out; omega)))
              have O17 := Lib.hid (O16.out.onlyNe ho (fun j hj => O16.out.apart B06.out (by decide) j hj))
              have O27 := Lib.hid (O26.out.onlyNe ho (fun j hj => O26.out.apart B06.out (by decide) j hj))
              clear hb ho
              refine hK.out _ _ (CX.out _ HB7.out B87.out) (fun hHeld => ?_)
              clear hK K
              try dsimp only [Act.put]
              try simp only [Act.put, List.setIfInBounds_toArray, List.set_cons_zero, List.set_cons_succ]
              refine wpAnyH_done (by kernel_rfl) ?_ _
              refine NoPanic.normal ?_
              go_wp2_with fail
              go_meet
              case rel => exact ⟨rfl, p9, p0, Px, px, qx, Py, py, qy, rfl, rfl, B97.out, B07.out, B87.out, O17.out.is_.1, O27.out.is_.1, O17.out.is_.2.1, Nx.out, Ny.out, O17.out.is_.2.2, ios_cm O17.out, HB7.out⟩
          · skip
            go_simp
            have hb : Below w2.heap.size w2 (w2.alloc (.cells #[.slice none 0 0] 27)) := (Below.refl _ _).alloc (Nat.le_refl _) _
            have B83 := Lib.hid (B82.out.below hb B82.out.lt)
            have HB3 := Lib.hid (HB2.out.trans (hb.mono HB2.out.size))
            have B03 := Lib.hid (B02.out.below hb B02.out.lt)
            have B93 : Hid (Blk (w2.alloc (.cells #[.slice none 0 0] 27)) w2.heap.size 27 #[.slice none 0 0]) := Lib.hid (Blk.new _ _ _)
            obtain ⟨p9, hp9⟩ : ∃ p, w2.heap.size = p := ⟨_, rfl⟩
            have P9 : Hid (wr.heap.size < p9) := Lib.hid (by rw [← hp9]; exact B82.out.lt)
            have NE : Hid (p0 < p9) := Lib.hid (by rw [← hp9]; exact B02.out.lt)
            rw [hp9] at B93
            rw [hp9]
            generalize w2.alloc (.cells #[.slice none 0 0] 27) = w3 at *
            clear hb
            refine hK.out _ _ (CX.out _ HB3.out B83.out) (fun hHeld => ?_)
            clear hK K
            try simp only [Act.put, List.setIfInBounds_toArray, List.set_cons_zero, List.set_cons_succ]
            refine wpAnyH_ready (rs := [1]) (by kernel_rfl) (by simp) ?_
            refine AllReadyH.cons rfl (fun K hK => ?_) AllReadyH.nil
            go_simp
            refine (FX.out _ HB3.out).mono ?_
            rintro e w4 ⟨Px, px, qx, rfl, ho, hn, hb⟩
            have B84 := Lib.hid (B83.out.below hb B83.out.lt)
            have HB4 := Lib.hid (HB3.out.trans (hb.mono HB3.out.size))
            have B94 := Lib.hid (B93.out.below hb B93.out.lt)
            have B04 := Lib.hid (B03.out.below hb B03.out.lt)
            have O14 := Lib.hid ho
            have Nx := Lib.hid hn
            have SZx := Lib.hid HB3.out.size
            clear hb ho hn
            refine hK.out _ _ (CX.out _ HB4.out B84.out) (fun hHeld => ?_)
            clear hK K
            try simp only [Act.put, List.setIfInBounds_toArray, List.set_cons_zero, List.set_cons_succ]
            refine wpAnyH_ready (rs := [5]) (by kernel_rfl) (by simp) ?_
            refine AllReadyH.cons rfl (fun K hK => ?_) AllReadyH.nil
            go_simp
            refine (FY.out _ HB4.out).mono ?_
            rintro e w5 ⟨Py, py, qy, rfl, ho, hn, hb⟩
            have B85 := Lib.hid (B84.out.below hb B84.out.lt)
            have HB5 := Lib.hid (HB4.out.trans (hb.mono HB4.out.size))
            have B95 := Lib.hid (B94.out.below hb B94.out.lt)
            have B05 := Lib.hid (B04.out.below hb B04.out.lt)
            have O15 := Lib.hid (O14.out.below hb)
            have O25 := Lib.hid ho
            have Ny := Lib.hid hn
            have SZy := Lib.hid HB4.out.size
            clear hb ho hn
            refine hK.out _ _ (CX.out _ HB5.out B85.out) (fun hHeld => ?_)
            clear hK K
            try simp only [Act.put, List.setIfInBounds_toArray, List.set_cons_zero, List.set_cons_succ]
            refine wpAnyH_ready (rs := [8]) (by kernel_rfl) (by simp) ?_
            refine AllReadyH.cons rfl (fun K hK => ?_) AllReadyH.nil
            refine wp_store_blk 27 _ _ rfl p9 #[.slice none 0 0] 27 [.slice Px px qx] rfl rfl B95.out rfl Tryd.i27 (by simp [Value.oneCell']) ?_
            intro w6 hb ho
            have B96 := Lib.hid hb
            have B06 := Lib.hid (ho.keep B05.out (by have := NE.out; omega))
            have B86 := Lib.hid (ho.keep B85.out (by have := P9.out; omega))
            have HB6 := Lib.hid (HB5.out.trans (ho.below (by have := P9.out; omega)))
            have O16 := Lib.hid (O15.out.onlyNe ho (fun j hj => O15.out.apart B95.out (by decide) j hj))
            have O26 := Lib.hid (O25.out.onlyNe ho (fun j hj => O25.out.apart B95.out (by decide) j hj))
            clear hb ho
            refine hK.out _ _ (CX.out _ HB6.out B86.out) (fun hHeld => ?_)
            clear hK K
            try dsimp only [Act.put]
            try simp only [Act.put, List.setIfInBounds_toArray, List.set_cons_zero, List.set_cons_succ]
            refine wpAnyH_ready (rs := [9]) (by kernel_rfl) (by simp) ?_
            refine AllReadyH.cons rfl (fun K hK => ?_) AllReadyH.nil
            refine wp_store_blk 27 _ _ rfl p0 #[.slice none 0 0] 27 [.slice Py py qy] rfl rfl B06.out rfl Tryd.i27 (by simp [Value.oneCell']) ?_
            intro w7 hb ho
            have B07 := Lib.hid hb
            have B97 := Lib.hid (ho.keep B96.out (by have := NE.out; omega))
            have B87 := Lib.hid (ho.keep B86.out (by have := P0.out; omega))
            have HB7 := Lib.hid (HB6.out.trans (ho.below (by have := P0.out; omega)))
            have O17 := Lib.hid (O16.out.onlyNe ho (fun j hj => O16.out.apart B06.out (by decide) j hj))
            have O27 := Lib.hid (O26.out.onlyNe ho (fun j hj => O26.out.apart B06.out (by decide) j hj))
            clear hb ho
            refine hK.out _ _ (CX.out _ HB7.out B87.out) (fun hHeld => ?_)
            clear hK K
            try dsimp only [Act.put]
            try simp only [Act.put, List.setIfInBounds_toArray, List.set_cons_zero, List.set_cons_succ]
            refine wpAnyH_done (by kernel_rfl) ?_ _
            refine NoPanic.normal ?_
            go_wp2_with fail
            go_meet
            case rel => exact ⟨rfl, p9, p0, Px, px, qx, Py, py, qy, rfl, rfl, B97.out, B07.out, B87.out, O17.out.is_.1, O27.out.is_.1, O17.out.is_.2.1, Nx.out, Ny.out, O17.out.is_.2.2, ios_cm O17.out, HB7.out⟩
      case rest =>
        obtain ⟨rfl, p9, p0, Px, px, qx, Py, py, qy, rfl, rfl, k9, kk0, k8, kx, ky, hpq, hpx, hpy, hnl, hcm, kb⟩ := hcut
        have KN := Lib.hid hnl
        have KM := Lib.hid hcm
        clear hnl hcm
        have K9 := Lib.hid k9
        have K0 := Lib.hid kk0
        have K8 := Lib.hid k8
        have KX := Lib.hid kx
        have KY := Lib.hid ky
        have KB := Lib.hid kb
        have WB : Hid (Below w.heap.size w wc) := Lib.hid (IB.out.trans (kb.mono IB.out.size))
        have WS : Hid (w.heap.size ≤ wc.heap.size) := Lib.hid (Nat.le_trans IB.out.size kb.size)
        have KS : Hid (Is wc wc.heap.size Ps ps S) := Lib.hid ((IS.out.below kb).more kb.size)
        have KG := Lib.hid (fun W (hW : Below wc.heap.size wc W) => GW.out W (WB.out.trans (hW.mono WS.out)))
        have XL : Hid ((xs.take 30).length = px) := Lib.hid kx.1
        have TK : Hid (xs.take px = xs.take 30) := Lib.hid (take30 HX1.out.1 XL.out)
        have HXC : Hid (Is wc w.heap.size Ax nx xs) := Lib.hid (HX1.out.below (kb.mono IB.out.size))
        have MB := Lib.hid (fun W (hW : Below wc.heap.size wc W) => MI.out W (WB.out.trans (hW.mono WS.out)))
        have C9 := Lib.hid (fun W (hW : Below wc.heap.size wc W) => (K9.out.below hW K9.out.lt).cell 0)
        have C9' : Hid (∀ W, Below wc.heap.size wc W → W.cell? ⟨p9, 0, none⟩ = some (.slice Px px qx)) := C9
        have C0' : Hid (∀ W, Below wc.heap.size wc W → W.cell? ⟨p0, 0, none⟩ = some (.slice Py py qy)) := Lib.hid (fun W hW => (K0.out.below hW K0.out.lt).cell 0)
        have C8' : Hid (∀ W, Below wc.heap.size wc W → W.cell? ⟨wr.heap.size, 0, none⟩ = some (.slice Ax nx cx)) := Lib.hid (fun W hW => (K8.out.below hW K8.out.lt).cell 0)
        have R0 : Hid (Below wc.heap.size wc wc) := Lib.hid (Below.refl _ _)
        clear k9 kk0 k8 kx ky kb C9 FX FY
        have X30 : Hid ((xs.take 30).take 30 = xs.take 30) := Lib.hid (List.take_of_length_le (by rw [XL.out]; omega))
        have CR := @chk_right (xs.take 30)
        have HR := fun m => @has_right (xs.take 30) m
        have MR := @maj_right (xs.take 30) S
        have RG := Lib.hid (fun W (hW : Below wc.heap.size wc W) => right_any Px px qx wc.heap.size (xs.take 30) W (KX.out.below hW) (by omega) hW.size)
        have CK := Lib.hid (fun W (hW : Below wc.heap.size wc W) => check_any Px px qx wc.heap.size (xs.take 30) W (KX.out.below hW) (by omega) hW.size (KG.out W hW))
        have HC := Lib.hid (fun m W (hW : Below wc.heap.size wc W) => hasc_any m Px px qx wc.heap.size (xs.take 30) W (KX.out.below hW) (by omega) hW.size (KG.out W hW))
        have HD := Lib.hid (fun m W (hW : Below wc.heap.size wc W) => refhas_any m Px px qx wc.heap.size (xs.take 30) W (KX.out.below hW) (by omega) hW.size)
        have SA := Lib.hid (fun W (hW : Below wc.heap.size wc W) => same_any Px Py px qx py qy wc.heap.size wc.heap.size (xs.take 30) (us.take 30) W (KX.out.below hW) (KY.out.below hW) (by omega) (by omega) hW.size hW.size)
        have RS := Lib.hid (fun W (hW : Below wc.heap.size wc W) => refsame_any Px Py px qx py qy wc.heap.size wc.heap.size (xs.take 30) (us.take 30) W (KX.out.below hW) (KY.out.below hW) (by omega) (by omega) hW.size hW.size)
        have FE := Lib.hid (fun W (hW : Below wc.heap.size wc W) => few_any Px px qx wc.heap.size (xs.take 30) W (KX.out.below hW) hpq KN.out KM.out hW.size)
        have SB := Lib.hid (fun A' n' c' W (hW : Below wc.heap.size wc W) (h' : Is W W.heap.size A' n' (xs.take 30)) (hn' : n' ≤ 30) => same_any Px A' px qx n' c' wc.heap.size W.heap.size (xs.take 30) (xs.take 30) W (KX.out.below hW) h' (by omega) (by omega) hW.size (Nat.le_refl _))
        have MA := Lib.hid (fun W (hW : Below wc.heap.size wc W) => majority_any Ps ps qs wc.heap.size S Px px qx wc.heap.size (xs.take 30) W (KX.out.below hW) (by omega) hW.size (KG.out W hW) (KS.out.below hW) (by have := SN.out; omega) hW.size)
        have MC := Lib.hid (fun W (hW : Below wc.heap.size wc W) => refmaj_any Ps ps qs wc.heap.size S Px px qx wc.heap.size (xs.take 30) W (KX.out.below hW) (by omega) hW.size (KS.out.below hW) (by have := SN.out; omega) hW.size)
        have EQ := Lib.hid (fun W (hW : Below wc.heap.size wc W) => equal_ints Px Ax px qx px cx wc.heap.size w.heap.size (xs.take 30) (xs.take px) W (KX.out.below hW) ((HXC.out.take (by have := XL.out; have := HX1.out.1; rw [List.length_take] at *; omega)).below (hW.mono WS.out)) (by omega) (by omega))
        rw [TK.out] at EQ
        have PNX : px ≤ nx := by have h1 := XL.out; have h2 := HX1.out.1; rw [List.length_take] at h1; omega
        have PCX : px ≤ cx := Nat.le_trans PNX HX2.out
        generalize xs.take 30 = X at *
        generalize us.take 30 = Y at *
        have x9 := C9'.out _ R0.out
        generalize wr.heap.size = p8 at *
        cases hr : rightC X with
        | true =>
          rw [hr] at RG
          have ce := CR.1 hr
          have hm := fun m => (HR m).1 hr
          have mm := MR.1 hr
          rw [ce] at CK
          have HM := Lib.hid hm
          clear hr ce CR HR MR hm
          rw [mm] at MC
          clear mm
          generalize majB X S = mb at *
          have hmm := bne_self mb
          go_wp2_with (first | (go_at_call 13; refine (RG.out _ R0.out).mono ?_; rintro e wa ⟨rfl, hb⟩; have QA := Lib.hid (R0.out.trans hb); have xa := C9'.out _ QA.out; clear hb) | (go_at_call 14; refine (CK.out _ QA.out).mono ?_; rintro e wb ⟨rfl, hb⟩; have QB := Lib.hid (QA.out.trans (hb.mono QA.out.size)); clear hb))
          go_loopw [52] (fun i wq => ∃ j : Nat, j ≤ n1 ∧ i = .int .i64 (j : Int) ∧ Hid (Below wc.heap.size wc wq)) (fun i _ => n1 - (intOf i).toNat)
          case atStart => exact ⟨0, Nat.zero_le _, rfl, QB⟩
          case round =>
            obtain ⟨j, hj, rfl, QQ⟩ := hrel
            have j0 : (0 : Int) ≤ (j : Int) := by omega
            by_cases hjl : j < n1
            · obtain ⟨b1, o1, rfl, hb1, hc1⟩ := (MB.out _ QQ.out).2 (by omega)
              have q1 := hc1 j hjl
              clear hc1
              generalize ys.getD j 0 = m at *
              have q9 := C9'.out _ QQ.out
              by_cases hj12 : j < 12
              · have hj' : (j : Int) < 12 := by omega
                have HCM := Lib.hid (HC.out m)
                have HDM := Lib.hid (HD.out m)
                have hmm' := HM.out m
                rw [hmm'] at HDM
                clear hmm'
                generalize inG (grp X) m = bb at *
                cases bb with
                | true =>
                  go_wp2_with (first | (go_at_call 15; refine (HCM.out _ QQ.out).mono ?_; rintro e wd ⟨rfl, hb⟩; have QD := Lib.hid (QQ.out.trans (hb.mono QQ.out.size)); have q9d := C9'.out _ QD.out; clear hb) | (go_at_call 16; refine (HDM.out _ QD.out).mono ?_; rintro e we ⟨rfl, hb⟩; have QE := Lib.hid (QD.out.trans (hb.mono QD.out.size)); clear hb))
                  go_roundw
                  case rel => exact ⟨j + 1, by omega, by go_num, QE⟩
                  case measure => simp [intOf]; omega
                | false =>
                  go_wp2_with (first | (go_at_call 15; refine (HCM.out _ QQ.out).mono ?_; rintro e wd ⟨rfl, hb⟩; have QD := Lib.hid (QQ.out.trans (hb.mono QQ.out.size)); have q9d := C9'.out _ QD.out; clear hb) | (go_at_call 16; refine (HDM.out _ QD.out).mono ?_; rintro e we ⟨rfl, hb⟩; have QE := Lib.hid (QD.out.trans (hb.mono QD.out.size)); clear hb))
                  go_roundw
                  case rel => exact ⟨j + 1, by omega, by go_num, QE⟩
                  case measure => simp [intOf]; omega
              · have hj' : ¬ (j : Int) < 12 := by omega
                have hj2 : decide ((j : Int) < 12) = false := decide_eq_false hj'
                go_wp2
                go_roundw
                case rel => exact ⟨j + 1, by omega, by go_num, QQ⟩
                case measure => simp [intOf]; omega
            · obtain rfl : j = n1 := by omega
              go_upto_region 19 with fail
              have D1 := Lib.hid QQ.out.drew
              have hee := bne_self (X == Y)
              generalize (X == Y) = ee at *
              refine wp_region_noPanic ?_
              refine wp_region_held_drew (S := fun w' => w'.cell? ⟨p9, 0, none⟩ = some (.slice Px px qx) ∧ w'.cell? ⟨p0, 0, none⟩ = some (.slice Py py qy)) (by kernel_rfl) ⟨C9'.out _ D1.out, C0'.out _ D1.out⟩ (fun hHeld => ?_)
              refine take_d (i := 0) (d := 72) (v := ?z5001) rfl rfl (by kernel_rfl) (by kernel_rfl) (by kernel_rfl) (fun _ _ _ h => h) (Or.inl ⟨by kernel_rfl, ?z5001h⟩) hHeld ?z5001n
              case z5001h => (intro w hSw; (try dsimp only at hSw); go_split_ands; go_simp; (try exact rfl))
              try simp only [Act.put, List.setIfInBounds_toArray, List.set_cons_zero, List.set_cons_succ]
              refine take_d (i := 1) (d := 73) (v := ?z5002) rfl rfl (by kernel_rfl) (by kernel_rfl) (by kernel_rfl) (fun _ _ _ h => h) (Or.inl ⟨by kernel_rfl, ?z5002h⟩) hHeld ?z5002n
              case z5002h => (intro w hSw; (try dsimp only at hSw); go_split_ands; go_simp; (try exact rfl))
              try simp only [Act.put, List.setIfInBounds_toArray, List.set_cons_zero, List.set_cons_succ]
              refine take_d (i := 3) (d := 75) (v := ?z5003) rfl rfl (by kernel_rfl) (by kernel_rfl) (by kernel_rfl) (fun _ _ _ h => h) (Or.inl ⟨by kernel_rfl, ?z5003h⟩) hHeld ?z5003n
              case z5003h => (intro w hSw; (try dsimp only at hSw); go_split_ands; go_simp; (try exact rfl))
              try simp only [Act.put, List.setIfInBounds_toArray, List.set_cons_zero, List.set_cons_succ]
              refine take_d (i := 4) (d := 76) (v := ?z5004) rfl rfl (by kernel_rfl) (by kernel_rfl) (by kernel_rfl) (fun _ _ _ h => h) (Or.inl ⟨by kernel_rfl, ?z5004h⟩) hHeld ?z5004n
              case z5004h => (intro w hSw; (try dsimp only at hSw); go_split_ands; go_simp; (try exact rfl))
              try simp only [Act.put, List.setIfInBounds_toArray, List.set_cons_zero, List.set_cons_succ]
              refine wpAnyH_ready (rs := [2]) (by kernel_rfl) (by simp) ?_
              refine AllReadyH.cons rfl (fun K hK => ?_) AllReadyH.nil
              go_simp
              refine (SA.out _ D1.out).mono ?_
              rintro e y2 ⟨rfl, hb⟩
              have D2 := Lib.hid (D1.out.trans (hb.mono D1.out.size))
              clear hb
              refine hK.out _ _ ⟨C9'.out _ D2.out, C0'.out _ D2.out⟩ (fun hHeld => ?_)
              clear hK K
              try simp only [Act.put, List.setIfInBounds_toArray, List.set_cons_zero, List.set_cons_succ]
              refine wpAnyH_ready (rs := [5]) (by kernel_rfl) (by simp) ?_
              refine AllReadyH.cons rfl (fun K hK => ?_) AllReadyH.nil
              go_simp
              refine (RS.out _ D2.out).mono ?_
              rintro e y3 ⟨rfl, hb⟩
              have D3 := Lib.hid (D2.out.trans (hb.mono D2.out.size))
              clear hb
              refine hK.out _ _ ⟨C9'.out _ D3.out, C0'.out _ D3.out⟩ (fun hHeld => ?_)
              clear hK K
              try simp only [Act.put, List.setIfInBounds_toArray, List.set_cons_zero, List.set_cons_succ]
              refine take_d (i := 6) (d := 78) (v := .bool false) rfl rfl (by kernel_rfl) (by kernel_rfl) (by kernel_rfl) (fun _ _ _ h => h) (Or.inl ⟨by kernel_rfl, ?z5005h⟩) hHeld ?_
              case z5005h => (intro w hSw; (try dsimp only at hSw); go_split_ands; go_simp)
              try simp only [Act.put, List.setIfInBounds_toArray, List.set_cons_zero, List.set_cons_succ]
              refine take_d (i := 7) (d := 79) (v := .bool false) rfl rfl (by kernel_rfl) (by kernel_rfl) (by kernel_rfl) (fun _ _ _ h => h) (Or.inl ⟨by kernel_rfl, ?z5006h⟩) hHeld ?_
              case z5006h => (intro w hSw; (try dsimp only at hSw); go_split_ands; go_simp)
              try simp only [Act.put, List.setIfInBounds_toArray, List.set_cons_zero, List.set_cons_succ]
              refine take_d (i := 8) (d := 80) (v := ?z5007) rfl rfl (by kernel_rfl) (by kernel_rfl) (by kernel_rfl) (fun _ _ _ h => h) (Or.inl ⟨by kernel_rfl, ?z5007h⟩) hHeld ?z5007n
              case z5007h => (intro w hSw; (try dsimp only at hSw); go_split_ands; go_simp; (try exact rfl))
              try simp only [Act.put, List.setIfInBounds_toArray, List.set_cons_zero, List.set_cons_succ]
              refine take_d (i := 9) (d := 81) (v := ?z5008) rfl rfl (by kernel_rfl) (by kernel_rfl) (by kernel_rfl) (fun _ _ _ h => h) (Or.inl ⟨by kernel_rfl, ?z5008h⟩) hHeld ?z5008n
              case z5008h => (intro w hSw; (try dsimp only at hSw); go_split_ands; go_simp; (try exact rfl))
              try simp only [Act.put, List.setIfInBounds_toArray, List.set_cons_zero, List.set_cons_succ]
              refine wpAnyH_ready (rs := [10]) (by kernel_rfl) (by simp) ?_
              refine AllReadyH.cons rfl (fun K hK => ?_) AllReadyH.nil
              go_simp
              refine (FE.out _ D3.out).mono ?_
              rintro e y4 ⟨Pz, pz, qz, rfl, ho, hz, hb⟩
              have D4 := Lib.hid (D3.out.trans (hb.mono D3.out.size))
              have ZI := Lib.hid ho.is_.1
              rw [X30.out] at ZI
              have ZN := Lib.hid hz
              clear ho hz
              clear hb
              refine hK.out _ _ ⟨C9'.out _ D4.out, C0'.out _ D4.out⟩ (fun hHeld => ?_)
              clear hK K
              try simp only [Act.put, List.setIfInBounds_toArray, List.set_cons_zero, List.set_cons_succ]
              refine wpAnyH_ready (rs := [11]) (by kernel_rfl) (by simp) ?_
              refine AllReadyH.cons rfl (fun K hK => ?_) AllReadyH.nil
              go_simp
              refine (SB.out Pz pz qz _ D4.out ZI.out ZN.out).mono ?_
              rintro e y5 ⟨rfl, hb⟩
              have D5 := Lib.hid (D4.out.trans (hb.mono D4.out.size))
              rw [show (X == X) = true by simp]
              clear hb
              refine hK.out _ _ ⟨C9'.out _ D5.out, C0'.out _ D5.out⟩ (fun hHeld => ?_)
              clear hK K
              try simp only [Act.put, List.setIfInBounds_toArray, List.set_cons_zero, List.set_cons_succ]
              refine take_d (i := 12) (d := 84) (v := .bool false) rfl rfl (by kernel_rfl) (by kernel_rfl) (by kernel_rfl) (fun _ _ _ h => h) (Or.inl ⟨by kernel_rfl, ?z5009h⟩) hHeld ?_
              case z5009h => (intro w hSw; (try dsimp only at hSw); go_split_ands; go_simp)
              try simp only [Act.put, List.setIfInBounds_toArray, List.set_cons_zero, List.set_cons_succ]
              refine take_d (i := 13) (d := 85) (v := .bool false) rfl rfl (by kernel_rfl) (by kernel_rfl) (by kernel_rfl) (fun _ _ _ h => h) (Or.inl ⟨by kernel_rfl, ?z5010h⟩) hHeld ?_
              case z5010h => (intro w hSw; (try dsimp only at hSw); go_split_ands; go_simp)
              try simp only [Act.put, List.setIfInBounds_toArray, List.set_cons_zero, List.set_cons_succ]
              refine take_d (i := 14) (d := 86) (v := .bool false) rfl rfl (by kernel_rfl) (by kernel_rfl) (by kernel_rfl) (fun _ _ _ h => h) (Or.inl ⟨by kernel_rfl, ?z5011h⟩) hHeld ?_
              case z5011h => (intro w hSw; (try dsimp only at hSw); go_split_ands; go_simp)
              try simp only [Act.put, List.setIfInBounds_toArray, List.set_cons_zero, List.set_cons_succ]
              refine take_d (i := 15) (d := 87) (v := ?z5012) rfl rfl (by kernel_rfl) (by kernel_rfl) (by kernel_rfl) (fun _ _ _ h => h) (Or.inl ⟨by kernel_rfl, ?z5012h⟩) hHeld ?z5012n
              case z5012h => (intro w hSw; (try dsimp only at hSw); go_split_ands; go_simp; (try exact rfl))
              try simp only [Act.put, List.setIfInBounds_toArray, List.set_cons_zero, List.set_cons_succ]
              refine take_d (i := 16) (d := 88) (v := ?z5013) rfl rfl (by kernel_rfl) (by kernel_rfl) (by kernel_rfl) (fun _ _ _ h => h) (Or.inl ⟨by kernel_rfl, ?z5013h⟩) hHeld ?z5013n
              case z5013h => (intro w hSw; (try dsimp only at hSw); go_split_ands; go_simp; (try exact rfl))
              try simp only [Act.put, List.setIfInBounds_toArray, List.set_cons_zero, List.set_cons_succ]
              refine take_d (i := 18) (d := 90) (v := .bool true) rfl rfl (by kernel_rfl) (by kernel_rfl) (by kernel_rfl) (fun _ _ _ h => h) (Or.inl ⟨by kernel_rfl, ?z5014h⟩) hHeld ?_
              case z5014h => (intro w hSw; (try dsimp only at hSw); go_split_ands; go_simp)
              try simp only [Act.put, List.setIfInBounds_toArray, List.set_cons_zero, List.set_cons_succ]
              refine wpAnyH_ready (rs := [17]) (by kernel_rfl) (by simp) ?_
              refine AllReadyH.cons rfl (fun K hK => ?_) AllReadyH.nil
              go_simp
              refine (MA.out _ D5.out).mono ?_
              rintro e y6 ⟨rfl, hb⟩
              have D6 := Lib.hid (D5.out.trans (hb.mono D5.out.size))
              clear hb
              refine hK.out _ _ ⟨C9'.out _ D6.out, C0'.out _ D6.out⟩ (fun hHeld => ?_)
              clear hK K
              try simp only [Act.put, List.setIfInBounds_toArray, List.set_cons_zero, List.set_cons_succ]
              refine take_d (i := 19) (d := 91) (v := .bool true) rfl rfl (by kernel_rfl) (by kernel_rfl) (by kernel_rfl) (fun _ _ _ h => h) (Or.inl ⟨by kernel_rfl, ?z5015h⟩) hHeld ?_
              case z5015h => (intro w hSw; (try dsimp only at hSw); go_split_ands; go_simp)
              try simp only [Act.put, List.setIfInBounds_toArray, List.set_cons_zero, List.set_cons_succ]
              refine take_d (i := 20) (d := 92) (v := ?z5016) rfl rfl (by kernel_rfl) (by kernel_rfl) (by kernel_rfl) (fun _ _ _ h => h) (Or.inl ⟨by kernel_rfl, ?z5016h⟩) hHeld ?z5016n
              case z5016h => (intro w hSw; (try dsimp only at hSw); go_split_ands; go_simp; (try exact rfl))
              try simp only [Act.put, List.setIfInBounds_toArray, List.set_cons_zero, List.set_cons_succ]
              refine take_d (i := 21) (d := 93) (v := ?z5017) rfl rfl (by kernel_rfl) (by kernel_rfl) (by kernel_rfl) (fun _ _ _ h => h) (Or.inl ⟨by kernel_rfl, ?z5017h⟩) hHeld ?z5017n
              case z5017h => (intro w hSw; (try dsimp only at hSw); go_split_ands; go_simp; (try exact rfl))
              try simp only [Act.put, List.setIfInBounds_toArray, List.set_cons_zero, List.set_cons_succ]
              refine wpAnyH_ready (rs := [22]) (by kernel_rfl) (by simp) ?_
              refine AllReadyH.cons rfl (fun K hK => ?_) AllReadyH.nil
              go_simp
              refine (MC.out _ D6.out).mono ?_
              rintro e y7 ⟨rfl, hb⟩
              have D7 := Lib.hid (D6.out.trans (hb.mono D6.out.size))
              clear hb
              refine hK.out _ _ ⟨C9'.out _ D7.out, C0'.out _ D7.out⟩ (fun hHeld => ?_)
              clear hK K
              try simp only [Act.put, List.setIfInBounds_toArray, List.set_cons_zero, List.set_cons_succ]
              refine take_d (i := 23) (d := 95) (v := .bool mb) rfl rfl (by kernel_rfl) (by kernel_rfl) (by kernel_rfl) (fun _ _ _ h => h) (Or.inl ⟨by kernel_rfl, ?z5018h⟩) hHeld ?_
              case z5018h => (intro w hSw; (try dsimp only at hSw); go_split_ands; go_simp)
              try simp only [Act.put, List.setIfInBounds_toArray, List.set_cons_zero, List.set_cons_succ]
              refine take_d (i := 24) (d := 96) (v := .bool false) rfl rfl (by kernel_rfl) (by kernel_rfl) (by kernel_rfl) (fun _ _ _ h => h) (Or.inl ⟨by kernel_rfl, ?z5019h⟩) hHeld ?_
              case z5019h => (intro w hSw; (try dsimp only at hSw); go_split_ands; go_simp)
              try simp only [Act.put, List.setIfInBounds_toArray, List.set_cons_zero, List.set_cons_succ]
              refine take_d (i := 25) (d := 97) (v := .bool false) rfl rfl (by kernel_rfl) (by kernel_rfl) (by kernel_rfl) (fun _ _ _ h => h) (Or.inl ⟨by kernel_rfl, ?z5020h⟩) hHeld ?_
              case z5020h => (intro w hSw; (try dsimp only at hSw); go_split_ands; go_simp)
              try simp only [Act.put, List.setIfInBounds_toArray, List.set_cons_zero, List.set_cons_succ]
              refine wpAnyH_done (by kernel_rfl) ?_ _
              refine NoPanic.normal ?_
              go_wp2_with fail
              have E1 := Lib.hid D7.out.drew
              have y0 := And.intro (C9'.out _ E1.out) (C8'.out _ E1.out)
              refine wp_region_noPanic ?_
              refine wp_region_held_drew (S := fun w' => w'.cell? ⟨p9, 0, none⟩ = some (.slice Px px qx) ∧ w'.cell? ⟨p8, 0, none⟩ = some (.slice Ax nx cx)) (by kernel_rfl) y0 (fun hHeld => ?_)
              refine take_d (i := 0) (d := 98) (v := ?ht98) rfl rfl (by kernel_rfl) (by kernel_rfl) (by kernel_rfl) (fun _ _ _ h => h) (Or.inl ⟨by kernel_rfl, ?ht98h⟩) hHeld ?ht98n
              case ht98h => (intro w hSw; (try dsimp only at hSw); go_split_ands; go_simp; (try exact rfl))
              try simp only [Act.put, List.setIfInBounds_toArray, List.set_cons_zero, List.set_cons_succ]
              refine take_d (i := 1) (d := 99) (v := ?ht99) rfl rfl (by kernel_rfl) (by kernel_rfl) (by kernel_rfl) (fun _ _ _ h => h) (Or.inl ⟨by kernel_rfl, ?ht99h⟩) hHeld ?ht99n
              case ht99h => (intro w hSw; (try dsimp only at hSw); go_split_ands; go_simp; (try exact rfl))
              try simp only [Act.put, List.setIfInBounds_toArray, List.set_cons_zero, List.set_cons_succ]
              refine take_d (i := 2) (d := 100) (v := ?ht100) rfl rfl (by kernel_rfl) (by kernel_rfl) (by kernel_rfl) (fun _ _ _ h => h) (Or.inl ⟨by kernel_rfl, ?ht100h⟩) hHeld ?ht100n
              case ht100h => (intro w hSw; (try dsimp only at hSw); go_split_ands; go_simp; (try exact rfl))
              try simp only [Act.put, List.setIfInBounds_toArray, List.set_cons_zero, List.set_cons_succ]
              refine take_d (i := 3) (d := 101) (v := ?ht101) rfl rfl (by kernel_rfl) (by kernel_rfl) (by kernel_rfl) (fun _ _ _ h => h) (Or.inl ⟨by kernel_rfl, ?ht101h⟩) hHeld ?ht101n
              case ht101h => (intro w hSw; (try dsimp only at hSw); go_split_ands; go_simp; (try exact rfl))
              try simp only [Act.put, List.setIfInBounds_toArray, List.set_cons_zero, List.set_cons_succ]
              refine take_d (i := 4) (d := 102) (v := ?ht102) rfl rfl (by kernel_rfl) (by kernel_rfl) (by kernel_rfl) (fun _ _ _ h => h) (Or.inl ⟨by kernel_rfl, ?ht102h⟩) hHeld ?ht102n
              case ht102h => (intro w hSw; (try dsimp only at hSw); go_split_ands; go_simp; (try exact rfl))
              try simp only [Act.put, List.setIfInBounds_toArray, List.set_cons_zero, List.set_cons_succ]
              refine take_d (i := 5) (d := 103) (v := ?ht103) rfl rfl (by kernel_rfl) (by kernel_rfl) (by kernel_rfl) (fun _ _ _ h => h) (Or.inl ⟨by kernel_rfl, ?ht103h⟩) hHeld ?ht103n
              case ht103h => (intro w hSw; (try dsimp only at hSw); go_split_ands; go_simp; (try exact rfl))
              try simp only [Act.put, List.setIfInBounds_toArray, List.set_cons_zero, List.set_cons_succ]
              refine take_d (i := 6) (d := 104) (v := ?ht104) rfl rfl (by kernel_rfl) (by kernel_rfl) (by kernel_rfl) (fun _ _ _ h => h) (Or.inl ⟨by kernel_rfl, ?ht104h⟩) hHeld ?ht104n
              case ht104h => (intro w hSw; (try dsimp only at hSw); go_split_ands; go_simp; (try exact rfl))
              try simp only [Act.put, List.setIfInBounds_toArray, List.set_cons_zero, List.set_cons_succ]
              refine take_d (i := 7) (d := 105) (v := .slice Ax px cx) rfl rfl (by kernel_rfl) (by kernel_rfl) (by kernel_rfl) (fun _ _ _ h => h) (Or.inl ⟨by kernel_rfl, ?ht105h⟩) hHeld ?_
              case ht105h => (intro w hSw; (try dsimp only at hSw); go_split_ands; go_simp)
              try simp only [Act.put, List.setIfInBounds_toArray, List.set_cons_zero, List.set_cons_succ]
              refine wpAnyH_ready (rs := [8]) (by kernel_rfl) (by simp) ?_
              refine AllReadyH.cons rfl (fun K hK => ?_) AllReadyH.nil
              go_simp
              refine (EQ.out _ E1.out).mono ?_
              rintro e yz ⟨rfl, hb⟩
              have E2 := Lib.hid (E1.out.trans (hb.mono E1.out.size))
              rw [show (X == X) = true by simp]
              clear hb
              refine hK.out _ _ (⟨C9'.out _ E2.out, C8'.out _ E2.out⟩) (fun hHeld => ?_)
              clear hK K
              try simp only [Act.put, List.setIfInBounds_toArray, List.set_cons_zero, List.set_cons_succ]
              refine take_d (i := 9) (d := 107) (v := ?ht107) rfl rfl (by kernel_rfl) (by kernel_rfl) (by kernel_rfl) (fun _ _ _ h => h) (Or.inl ⟨by kernel_rfl, ?ht107h⟩) hHeld ?ht107n
              case ht107h => (intro w hSw; (try dsimp only at hSw); go_split_ands; go_simp; (try exact rfl))
              try simp only [Act.put, List.setIfInBounds_toArray, List.set_cons_zero, List.set_cons_succ]
              refine wpAnyH_done (by kernel_rfl) ?_ _
              refine NoPanic.normal ?_
              go_wp2
              go_roundw
              case rel => exact ⟨k + 1, by omega, by omega, by go_num, Lib.hid (WB.out.trans (E2.out.mono WS.out)), Lib.hid ((KS.out.below E2.out).more E2.out.size)⟩
              case measure => simp [intOf]; omega
        
        | false =>
          rw [hr] at RG
          have ce := CR.2 hr
          have hm := fun m => (HR m).2 hr
          have mm := MR.2 hr
          rw [ce] at CK
          have HM := Lib.hid hm
          clear hr ce CR HR MR hm
          rw [mm] at MA
          clear mm
          go_wp2_with (first | (go_at_call 13; refine (RG.out _ R0.out).mono ?_; rintro e wa ⟨rfl, hb⟩; have QA := Lib.hid (R0.out.trans hb); have xa := C9'.out _ QA.out; clear hb) | (go_at_call 14; refine (CK.out _ QA.out).mono ?_; rintro e wb ⟨rfl, hb⟩; have QB := Lib.hid (QA.out.trans (hb.mono QA.out.size)); clear hb))
          go_loopw [52] (fun i wq => ∃ j : Nat, j ≤ n1 ∧ i = .int .i64 (j : Int) ∧ Hid (Below wc.heap.size wc wq)) (fun i _ => n1 - (intOf i).toNat)
          case atStart => exact ⟨0, Nat.zero_le _, rfl, QB⟩
          case round =>
            obtain ⟨j, hj, rfl, QQ⟩ := hrel
            have j0 : (0 : Int) ≤ (j : Int) := by omega
            by_cases hjl : j < n1
            · obtain ⟨b1, o1, rfl, hb1, hc1⟩ := (MB.out _ QQ.out).2 (by omega)
              have q1 := hc1 j hjl
              clear hc1
              generalize ys.getD j 0 = m at *
              have q9 := C9'.out _ QQ.out
              by_cases hj12 : j < 12
              · have hj' : (j : Int) < 12 := by omega
                have HCM := Lib.hid (HC.out m)
                have HDM := Lib.hid (HD.out m)
                have hmm' := HM.out m
                rw [hmm'] at HCM
                clear hmm'
                go_wp2_with (go_at_call 15; refine (HCM.out _ QQ.out).mono ?_; rintro e wd ⟨rfl, hb⟩; have QD := Lib.hid (QQ.out.trans (hb.mono QQ.out.size)); have q9d := C9'.out _ QD.out; clear hb)
                go_roundw
                case rel => exact ⟨j + 1, by omega, by go_num, QD⟩
                case measure => simp [intOf]; omega
              · have hj' : ¬ (j : Int) < 12 := by omega
                have hj2 : decide ((j : Int) < 12) = false := decide_eq_false hj'
                go_wp2
                go_roundw
                case rel => exact ⟨j + 1, by omega, by go_num, QQ⟩
                case measure => simp [intOf]; omega
            · obtain rfl : j = n1 := by omega
              go_upto_region 19 with fail
              have D1 := Lib.hid QQ.out.drew
              have hee := bne_self (X == Y)
              generalize (X == Y) = ee at *
              refine wp_region_noPanic ?_
              refine wp_region_held_drew (S := fun w' => w'.cell? ⟨p9, 0, none⟩ = some (.slice Px px qx) ∧ w'.cell? ⟨p0, 0, none⟩ = some (.slice Py py qy)) (by kernel_rfl) ⟨C9'.out _ D1.out, C0'.out _ D1.out⟩ (fun hHeld => ?_)
              refine take_d (i := 0) (d := 72) (v := ?z5021) rfl rfl (by kernel_rfl) (by kernel_rfl) (by kernel_rfl) (fun _ _ _ h => h) (Or.inl ⟨by kernel_rfl, ?z5021h⟩) hHeld ?z5021n
              case z5021h => (intro w hSw; (try dsimp only at hSw); go_split_ands; go_simp; (try exact rfl))
              try simp only [Act.put, List.setIfInBounds_toArray, List.set_cons_zero, List.set_cons_succ]
              refine take_d (i := 1) (d := 73) (v := ?z5022) rfl rfl (by kernel_rfl) (by kernel_rfl) (by kernel_rfl) (fun _ _ _ h => h) (Or.inl ⟨by kernel_rfl, ?z5022h⟩) hHeld ?z5022n
              case z5022h => (intro w hSw; (try dsimp only at hSw); go_split_ands; go_simp; (try exact rfl))
              try simp only [Act.put, List.setIfInBounds_toArray, List.set_cons_zero, List.set_cons_succ]
              refine take_d (i := 3) (d := 75) (v := ?z5023) rfl rfl (by kernel_rfl) (by kernel_rfl) (by kernel_rfl) (fun _ _ _ h => h) (Or.inl ⟨by kernel_rfl, ?z5023h⟩) hHeld ?z5023n
              case z5023h => (intro w hSw; (try dsimp only at hSw); go_split_ands; go_simp; (try exact rfl))
              try simp only [Act.put, List.setIfInBounds_toArray, List.set_cons_zero, List.set_cons_succ]
              refine take_d (i := 4) (d := 76) (v := ?z5024) rfl rfl (by kernel_rfl) (by kernel_rfl) (by kernel_rfl) (fun _ _ _ h => h) (Or.inl ⟨by kernel_rfl, ?z5024h⟩) hHeld ?z5024n
              case z5024h => (intro w hSw; (try dsimp only at hSw); go_split_ands; go_simp; (try exact rfl))
              try simp only [Act.put, List.setIfInBounds_toArray, List.set_cons_zero, List.set_cons_succ]
              refine wpAnyH_ready (rs := [2]) (by kernel_rfl) (by simp) ?_
              refine AllReadyH.cons rfl (fun K hK => ?_) AllReadyH.nil
              go_simp
              refine (SA.out _ D1.out).mono ?_
              rintro e y2 ⟨rfl, hb⟩
              have D2 := Lib.hid (D1.out.trans (hb.mono D1.out.size))
              clear hb
              refine hK.out _ _ ⟨C9'.out _ D2.out, C0'.out _ D2.out⟩ (fun hHeld => ?_)
              clear hK K
              try simp only [Act.put, List.setIfInBounds_toArray, List.set_cons_zero, List.set_cons_succ]
              refine wpAnyH_ready (rs := [5]) (by kernel_rfl) (by simp) ?_
              refine AllReadyH.cons rfl (fun K hK => ?_) AllReadyH.nil
              go_simp
              refine (RS.out _ D2.out).mono ?_
              rintro e y3 ⟨rfl, hb⟩
              have D3 := Lib.hid (D2.out.trans (hb.mono D2.out.size))
              clear hb
              refine hK.out _ _ ⟨C9'.out _ D3.out, C0'.out _ D3.out⟩ (fun hHeld => ?_)
              clear hK K
              try simp only [Act.put, List.setIfInBounds_toArray, List.set_cons_zero, List.set_cons_succ]
              refine take_d (i := 6) (d := 78) (v := .bool false) rfl rfl (by kernel_rfl) (by kernel_rfl) (by kernel_rfl) (fun _ _ _ h => h) (Or.inl ⟨by kernel_rfl, ?z5025h⟩) hHeld ?_
              case z5025h => (intro w hSw; (try dsimp only at hSw); go_split_ands; go_simp)
              try simp only [Act.put, List.setIfInBounds_toArray, List.set_cons_zero, List.set_cons_succ]
              refine take_d (i := 7) (d := 79) (v := .bool false) rfl rfl (by kernel_rfl) (by kernel_rfl) (by kernel_rfl) (fun _ _ _ h => h) (Or.inl ⟨by kernel_rfl, ?z5026h⟩) hHeld ?_
              case z5026h => (intro w hSw; (try dsimp only at hSw); go_split_ands; go_simp)
              try simp only [Act.put, List.setIfInBounds_toArray, List.set_cons_zero, List.set_cons_succ]
              refine take_d (i := 8) (d := 80) (v := ?z5027) rfl rfl (by kernel_rfl) (by kernel_rfl) (by kernel_rfl) (fun _ _ _ h => h) (Or.inl ⟨by kernel_rfl, ?z5027h⟩) hHeld ?z5027n
              case z5027h => (intro w hSw; (try dsimp only at hSw); go_split_ands; go_simp; (try exact rfl))
              try simp only [Act.put, List.setIfInBounds_toArray, List.set_cons_zero, List.set_cons_succ]
              refine take_d (i := 9) (d := 81) (v := ?z5028) rfl rfl (by kernel_rfl) (by kernel_rfl) (by kernel_rfl) (fun _ _ _ h => h) (Or.inl ⟨by kernel_rfl, ?z5028h⟩) hHeld ?z5028n
              case z5028h => (intro w hSw; (try dsimp only at hSw); go_split_ands; go_simp; (try exact rfl))
              try simp only [Act.put, List.setIfInBounds_toArray, List.set_cons_zero, List.set_cons_succ]
              refine wpAnyH_ready (rs := [10]) (by kernel_rfl) (by simp) ?_
              refine AllReadyH.cons rfl (fun K hK => ?_) AllReadyH.nil
              go_simp
              refine (FE.out _ D3.out).mono ?_
              rintro e y4 ⟨Pz, pz, qz, rfl, ho, hz, hb⟩
              have D4 := Lib.hid (D3.out.trans (hb.mono D3.out.size))
              have ZI := Lib.hid ho.is_.1
              rw [X30.out] at ZI
              have ZN := Lib.hid hz
              clear ho hz
              clear hb
              refine hK.out _ _ ⟨C9'.out _ D4.out, C0'.out _ D4.out⟩ (fun hHeld => ?_)
              clear hK K
              try simp only [Act.put, List.setIfInBounds_toArray, List.set_cons_zero, List.set_cons_succ]
              refine wpAnyH_ready (rs := [11]) (by kernel_rfl) (by simp) ?_
              refine AllReadyH.cons rfl (fun K hK => ?_) AllReadyH.nil
              go_simp
              refine (SB.out Pz pz qz _ D4.out ZI.out ZN.out).mono ?_
              rintro e y5 ⟨rfl, hb⟩
              have D5 := Lib.hid (D4.out.trans (hb.mono D4.out.size))
              rw [show (X == X) = true by simp]
              clear hb
              refine hK.out _ _ ⟨C9'.out _ D5.out, C0'.out _ D5.out⟩ (fun hHeld => ?_)
              clear hK K
              try simp only [Act.put, List.setIfInBounds_toArray, List.set_cons_zero, List.set_cons_succ]
              refine take_d (i := 12) (d := 84) (v := .bool false) rfl rfl (by kernel_rfl) (by kernel_rfl) (by kernel_rfl) (fun _ _ _ h => h) (Or.inl ⟨by kernel_rfl, ?z5029h⟩) hHeld ?_
              case z5029h => (intro w hSw; (try dsimp only at hSw); go_split_ands; go_simp)
              try simp only [Act.put, List.setIfInBounds_toArray, List.set_cons_zero, List.set_cons_succ]
              refine take_d (i := 13) (d := 85) (v := .bool false) rfl rfl (by kernel_rfl) (by kernel_rfl) (by kernel_rfl) (fun _ _ _ h => h) (Or.inl ⟨by kernel_rfl, ?z5030h⟩) hHeld ?_
              case z5030h => (intro w hSw; (try dsimp only at hSw); go_split_ands; go_simp)
              try simp only [Act.put, List.setIfInBounds_toArray, List.set_cons_zero, List.set_cons_succ]
              refine take_d (i := 14) (d := 86) (v := .bool false) rfl rfl (by kernel_rfl) (by kernel_rfl) (by kernel_rfl) (fun _ _ _ h => h) (Or.inl ⟨by kernel_rfl, ?z5031h⟩) hHeld ?_
              case z5031h => (intro w hSw; (try dsimp only at hSw); go_split_ands; go_simp)
              try simp only [Act.put, List.setIfInBounds_toArray, List.set_cons_zero, List.set_cons_succ]
              refine take_d (i := 15) (d := 87) (v := ?z5032) rfl rfl (by kernel_rfl) (by kernel_rfl) (by kernel_rfl) (fun _ _ _ h => h) (Or.inl ⟨by kernel_rfl, ?z5032h⟩) hHeld ?z5032n
              case z5032h => (intro w hSw; (try dsimp only at hSw); go_split_ands; go_simp; (try exact rfl))
              try simp only [Act.put, List.setIfInBounds_toArray, List.set_cons_zero, List.set_cons_succ]
              refine take_d (i := 16) (d := 88) (v := ?z5033) rfl rfl (by kernel_rfl) (by kernel_rfl) (by kernel_rfl) (fun _ _ _ h => h) (Or.inl ⟨by kernel_rfl, ?z5033h⟩) hHeld ?z5033n
              case z5033h => (intro w hSw; (try dsimp only at hSw); go_split_ands; go_simp; (try exact rfl))
              try simp only [Act.put, List.setIfInBounds_toArray, List.set_cons_zero, List.set_cons_succ]
              refine take_d (i := 18) (d := 90) (v := .bool false) rfl rfl (by kernel_rfl) (by kernel_rfl) (by kernel_rfl) (fun _ _ _ h => h) (Or.inl ⟨by kernel_rfl, ?z5034h⟩) hHeld ?_
              case z5034h => (intro w hSw; (try dsimp only at hSw); go_split_ands; go_simp)
              try simp only [Act.put, List.setIfInBounds_toArray, List.set_cons_zero, List.set_cons_succ]
              refine wpAnyH_ready (rs := [17]) (by kernel_rfl) (by simp) ?_
              refine AllReadyH.cons rfl (fun K hK => ?_) AllReadyH.nil
              go_simp
              refine (MA.out _ D5.out).mono ?_
              rintro e y6 ⟨rfl, hb⟩
              have D6 := Lib.hid (D5.out.trans (hb.mono D5.out.size))
              clear hb
              refine hK.out _ _ ⟨C9'.out _ D6.out, C0'.out _ D6.out⟩ (fun hHeld => ?_)
              clear hK K
              try simp only [Act.put, List.setIfInBounds_toArray, List.set_cons_zero, List.set_cons_succ]
              refine take_d (i := 19) (d := 91) (v := .bool false) rfl rfl (by kernel_rfl) (by kernel_rfl) (by kernel_rfl) (fun _ _ _ h => h) (Or.inl ⟨by kernel_rfl, ?z5035h⟩) hHeld ?_
              case z5035h => (intro w hSw; (try dsimp only at hSw); go_split_ands; go_simp)
              try simp only [Act.put, List.setIfInBounds_toArray, List.set_cons_zero, List.set_cons_succ]
              refine take_d (i := 20) (d := 92) (v := undef) rfl rfl (by kernel_rfl) (by kernel_rfl) (by kernel_rfl) (fun _ _ _ h => h) (Or.inr ⟨by kernel_rfl, rfl⟩) hHeld ?_
              try simp only [Act.put, List.setIfInBounds_toArray, List.set_cons_zero, List.set_cons_succ]
              refine take_d (i := 21) (d := 93) (v := undef) rfl rfl (by kernel_rfl) (by kernel_rfl) (by kernel_rfl) (fun _ _ _ h => h) (Or.inr ⟨by kernel_rfl, rfl⟩) hHeld ?_
              try simp only [Act.put, List.setIfInBounds_toArray, List.set_cons_zero, List.set_cons_succ]
              refine take_d (i := 22) (d := 94) (v := undef) rfl rfl (by kernel_rfl) (by kernel_rfl) (by kernel_rfl) (fun _ _ _ h => h) (Or.inr ⟨by kernel_rfl, rfl⟩) hHeld ?_
              try simp only [Act.put, List.setIfInBounds_toArray, List.set_cons_zero, List.set_cons_succ]
              refine take_d (i := 23) (d := 95) (v := .bool false) rfl rfl (by kernel_rfl) (by kernel_rfl) (by kernel_rfl) (fun _ _ _ h => h) (Or.inl ⟨by kernel_rfl, ?z5039h⟩) hHeld ?_
              case z5039h => (intro w hSw; (try dsimp only at hSw); go_split_ands; go_simp)
              try simp only [Act.put, List.setIfInBounds_toArray, List.set_cons_zero, List.set_cons_succ]
              refine take_d (i := 24) (d := 96) (v := .bool false) rfl rfl (by kernel_rfl) (by kernel_rfl) (by kernel_rfl) (fun _ _ _ h => h) (Or.inl ⟨by kernel_rfl, ?z5040h⟩) hHeld ?_
              case z5040h => (intro w hSw; (try dsimp only at hSw); go_split_ands; go_simp)
              try simp only [Act.put, List.setIfInBounds_toArray, List.set_cons_zero, List.set_cons_succ]
              refine take_d (i := 25) (d := 97) (v := .bool false) rfl rfl (by kernel_rfl) (by kernel_rfl) (by kernel_rfl) (fun _ _ _ h => h) (Or.inl ⟨by kernel_rfl, ?z5041h⟩) hHeld ?_
              case z5041h => (intro w hSw; (try dsimp only at hSw); go_split_ands; go_simp)
              try simp only [Act.put, List.setIfInBounds_toArray, List.set_cons_zero, List.set_cons_succ]
              refine wpAnyH_done (by kernel_rfl) ?_ _
              refine NoPanic.normal ?_
              go_wp2_with fail
              have E1 := Lib.hid D6.out.drew
              have y0 := And.intro (C9'.out _ E1.out) (C8'.out _ E1.out)
              refine wp_region_noPanic ?_
              refine wp_region_held_drew (S := fun w' => w'.cell? ⟨p9, 0, none⟩ = some (.slice Px px qx) ∧ w'.cell? ⟨p8, 0, none⟩ = some (.slice Ax nx cx)) (by kernel_rfl) y0 (fun hHeld => ?_)
              refine take_d (i := 0) (d := 98) (v := ?hf98) rfl rfl (by kernel_rfl) (by kernel_rfl) (by kernel_rfl) (fun _ _ _ h => h) (Or.inl ⟨by kernel_rfl, ?hf98h⟩) hHeld ?hf98n
              case hf98h => (intro w hSw; (try dsimp only at hSw); go_split_ands; go_simp; (try exact rfl))
              try simp only [Act.put, List.setIfInBounds_toArray, List.set_cons_zero, List.set_cons_succ]
              refine take_d (i := 1) (d := 99) (v := ?hf99) rfl rfl (by kernel_rfl) (by kernel_rfl) (by kernel_rfl) (fun _ _ _ h => h) (Or.inl ⟨by kernel_rfl, ?hf99h⟩) hHeld ?hf99n
              case hf99h => (intro w hSw; (try dsimp only at hSw); go_split_ands; go_simp; (try exact rfl))
              try simp only [Act.put, List.setIfInBounds_toArray, List.set_cons_zero, List.set_cons_succ]
              refine take_d (i := 2) (d := 100) (v := ?hf100) rfl rfl (by kernel_rfl) (by kernel_rfl) (by kernel_rfl) (fun _ _ _ h => h) (Or.inl ⟨by kernel_rfl, ?hf100h⟩) hHeld ?hf100n
              case hf100h => (intro w hSw; (try dsimp only at hSw); go_split_ands; go_simp; (try exact rfl))
              try simp only [Act.put, List.setIfInBounds_toArray, List.set_cons_zero, List.set_cons_succ]
              refine take_d (i := 3) (d := 101) (v := ?hf101) rfl rfl (by kernel_rfl) (by kernel_rfl) (by kernel_rfl) (fun _ _ _ h => h) (Or.inl ⟨by kernel_rfl, ?hf101h⟩) hHeld ?hf101n
              case hf101h => (intro w hSw; (try dsimp only at hSw); go_split_ands; go_simp; (try exact rfl))
              try simp only [Act.put, List.setIfInBounds_toArray, List.set_cons_zero, List.set_cons_succ]
              refine take_d (i := 4) (d := 102) (v := ?hf102) rfl rfl (by kernel_rfl) (by kernel_rfl) (by kernel_rfl) (fun _ _ _ h => h) (Or.inl ⟨by kernel_rfl, ?hf102h⟩) hHeld ?hf102n
              case hf102h => (intro w hSw; (try dsimp only at hSw); go_split_ands; go_simp; (try exact rfl))
              try simp only [Act.put, List.setIfInBounds_toArray, List.set_cons_zero, List.set_cons_succ]
              refine take_d (i := 5) (d := 103) (v := ?hf103) rfl rfl (by kernel_rfl) (by kernel_rfl) (by kernel_rfl) (fun _ _ _ h => h) (Or.inl ⟨by kernel_rfl, ?hf103h⟩) hHeld ?hf103n
              case hf103h => (intro w hSw; (try dsimp only at hSw); go_split_ands; go_simp; (try exact rfl))
              try simp only [Act.put, List.setIfInBounds_toArray, List.set_cons_zero, List.set_cons_succ]
              refine take_d (i := 6) (d := 104) (v := ?hf104) rfl rfl (by kernel_rfl) (by kernel_rfl) (by kernel_rfl) (fun _ _ _ h => h) (Or.inl ⟨by kernel_rfl, ?hf104h⟩) hHeld ?hf104n
              case hf104h => (intro w hSw; (try dsimp only at hSw); go_split_ands; go_simp; (try exact rfl))
              try simp only [Act.put, List.setIfInBounds_toArray, List.set_cons_zero, List.set_cons_succ]
              refine take_d (i := 7) (d := 105) (v := .slice Ax px cx) rfl rfl (by kernel_rfl) (by kernel_rfl) (by kernel_rfl) (fun _ _ _ h => h) (Or.inl ⟨by kernel_rfl, ?hf105h⟩) hHeld ?_
              case hf105h => (intro w hSw; (try dsimp only at hSw); go_split_ands; go_simp)
              try simp only [Act.put, List.setIfInBounds_toArray, List.set_cons_zero, List.set_cons_succ]
              refine wpAnyH_ready (rs := [8]) (by kernel_rfl) (by simp) ?_
              refine AllReadyH.cons rfl (fun K hK => ?_) AllReadyH.nil
              go_simp
              refine (EQ.out _ E1.out).mono ?_
              rintro e yz ⟨rfl, hb⟩
              have E2 := Lib.hid (E1.out.trans (hb.mono E1.out.size))
              rw [show (X == X) = true by simp]
              clear hb
              refine hK.out _ _ (⟨C9'.out _ E2.out, C8'.out _ E2.out⟩) (fun hHeld => ?_)
              clear hK K
              try simp only [Act.put, List.setIfInBounds_toArray, List.set_cons_zero, List.set_cons_succ]
              refine take_d (i := 9) (d := 107) (v := ?hf107) rfl rfl (by kernel_rfl) (by kernel_rfl) (by kernel_rfl) (fun _ _ _ h => h) (Or.inl ⟨by kernel_rfl, ?hf107h⟩) hHeld ?hf107n
              case hf107h => (intro w hSw; (try dsimp only at hSw); go_split_ands; go_simp; (try exact rfl))
              try simp only [Act.put, List.setIfInBounds_toArray, List.set_cons_zero, List.set_cons_succ]
              refine wpAnyH_done (by kernel_rfl) ?_ _
              refine NoPanic.normal ?_
              go_wp2
              go_roundw
              case rel => exact ⟨k + 1, by omega, by omega, by go_num, Lib.hid (WB.out.trans (E2.out.mono WS.out)), Lib.hid ((KS.out.below E2.out).more E2.out.size)⟩
              case measure => simp [intOf]; omega
    · obtain rfl : k = n := by omega
      go_wp2
      go_ret
      exact ⟨rfl, IB.out⟩
end Go.Proofs.YtfclppopelmdgaaDoor
