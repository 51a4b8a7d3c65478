/-
  The layer does something: wakes.
-/
import Derived.Test.YtmgaihdepglahaaK2
namespace Go.Proofs.Ytmgaihdepglahaa
open Go.RowKit
attribute [local go_sem ↓] eqA neA eqGA

theorem wk_es (w : World) : Es ((w.alloc (.cells #[.int .u8 7] 5)).alloc (.cells #[.int .u64 1, .int .i64 1, .slice none 0 0, .int .u64 1, .int .i64 2, .slice (some ⟨w.heap.size, 0, none⟩) 1 1, .int .u64 2, .int .i64 1, .slice none 0 0] 54)) (w.heap.size + 2) (some ⟨w.heap.size + 1, 0, none⟩) 3 wk3 := by
  have b5 : Blk ((w.alloc (.cells #[.int .u8 7] 5)).alloc (.cells #[.int .u64 1, .int .i64 1, .slice none 0 0, .int .u64 1, .int .i64 2, .slice (some ⟨w.heap.size, 0, none⟩) 1 1, .int .u64 2, .int .i64 1, .slice none 0 0] 54)) w.heap.size 5 #[.int .u8 7] := (Blk.new _ _ _).alloc _
  have b54 : Blk ((w.alloc (.cells #[.int .u8 7] 5)).alloc (.cells #[.int .u64 1, .int .i64 1, .slice none 0 0, .int .u64 1, .int .i64 2, .slice (some ⟨w.heap.size, 0, none⟩) 1 1, .int .u64 2, .int .i64 1, .slice none 0 0] 54)) (w.heap.size + 1) 54 #[.int .u64 1, .int .i64 1, .slice none 0 0, .int .u64 1, .int .i64 2, .slice (some ⟨w.heap.size, 0, none⟩) 1 1, .int .u64 2, .int .i64 1, .slice none 0 0] := Blk.fresh (by simp)
  refine ⟨[⟨1, 1, none, 0, 0, []⟩, ⟨1, 2, some ⟨w.heap.size, 0, none⟩, 1, 1, [7]⟩, ⟨2, 1, none, 0, 0, []⟩], rfl, rfl, fun x hx => ?_, fun _ => ⟨w.heap.size + 1, 0, rfl, by omega, fun j v hj => ?_⟩⟩
  · have hbs : Bs [7] := fun j => by cases j <;> simp
    simp only [List.mem_cons, List.mem_nil_iff, or_false] at hx
    rcases hx with rfl | rfl | rfl
    · exact ⟨By.none_, Nat.le_refl _, fun _ => rfl, Nat.zero_le _, by decide, by decide⟩
    · exact ⟨(By.of_blk b5 hbs rfl).more (by omega), Nat.le_refl _, fun e => (by cases e), (by show 1 ≤ 100000; omega), (by show (0 : Int) ≤ 1; omega), (by show (1 : Int) < 18446744073709551616; omega)⟩
    · exact ⟨By.none_, Nat.le_refl _, fun _ => rfl, Nat.zero_le _, by decide, by decide⟩
  · rw [Nat.zero_add, b54.cell, List.getElem?_toArray]
    exact hj

set_option linter.unusedSimpArgs false in
set_option maxRecDepth 100000 in
set_option maxHeartbeats 4000000 in
theorem wakes_any (w : World) : Calls Try.prog 10 #[] w fun e w' => e = .returned (.bool true) ∧ Below w.heap.size w w' := by
  have EX := Lib.hid (Extend_any lg0 none 0 0 (w.heap.size + 2) ((w.alloc (.cells #[.int .u8 7] 5)).alloc (.cells #[.int .u64 1, .int .i64 1, .slice none 0 0, .int .u64 1, .int .i64 2, .slice (some ⟨w.heap.size, 0, none⟩) 1 1, .int .u64 2, .int .i64 1, .slice none 0 0] 54)) (Lr.none_ _ _) (by simp) (some ⟨w.heap.size + 1, 0, none⟩) 3 3 wk3 (wk_es w) (by omega))
  obtain ⟨x0, x1, x2, x3⟩ := wk_ext
  rw [x0, x1, x2, x3] at EX
  have HA := Lib.hid (show Below w.heap.size w ((w.alloc (.cells #[.int .u8 7] 5)).alloc (.cells #[.int .u64 1, .int .i64 1, .slice none 0 0, .int .u64 1, .int .i64 2, .slice (some ⟨w.heap.size, 0, none⟩) 1 1, .int .u64 2, .int .i64 1, .slice none 0 0] 54)) from ((Below.refl _ _).alloc (Nat.le_refl _) _).alloc (by simp) _)
  clear x0 x1 x2 x3
  go_enter Try.func10, Try.ntmps10
  go_wp2_with (go_at_call 21; refine EX.out.mono ?_; rintro e w1 ⟨A1, n1, c1, rfl, ho1, hb1⟩)
  obtain rfl : n1 = 3 := by have := ho1.len; exact this.symm
  have HB1 := HA.out.trans (hb1.mono HA.out.size)
  have hcap := ho1.cap
  have b1 : Blk ((w1.alloc (.cells #[.int .u64 0, .int .u64 0, .slice A1 3 c1] 27)).alloc (.cells #[.int .u64 3, .int .u64 2] 24)).drew w1.heap.size 27 #[.int .u64 0, .int .u64 0, .slice A1 3 c1] := ((Blk.new _ _ _).alloc _).drewN 1
  have b2 : Blk ((w1.alloc (.cells #[.int .u64 0, .int .u64 0, .slice A1 3 c1] 27)).alloc (.cells #[.int .u64 3, .int .u64 2] 24)).drew (w1.heap.size + 1) 24 #[.int .u64 3, .int .u64 2] := (Blk.fresh (by simp)).drewN 1
  have hb12 : Below w1.heap.size w1 ((w1.alloc (.cells #[.int .u64 0, .int .u64 0, .slice A1 3 c1] 27)).alloc (.cells #[.int .u64 3, .int .u64 2] 24)).drew := (((Below.refl _ _).alloc (Nat.le_refl _) _).alloc (by simp) _).drew
  have E2 := Lib.hid ((ho1.down HA.out.size).below hb12)
  have B12 := Lib.hid b1
  have B22 := Lib.hid b2
  have HB2 := Lib.hid (HB1.trans (hb12.mono HB1.size))
  have P1 : Hid (w.heap.size ≤ w1.heap.size) := Lib.hid HB1.size
  have hsz2 : ((w1.alloc (.cells #[.int .u64 0, .int .u64 0, .slice A1 3 c1] 27)).alloc (.cells #[.int .u64 3, .int .u64 2] 24)).drew.heap.size = w1.heap.size + 2 := by simp [World.drew]
  obtain ⟨ga, rfl, hga⟩ : ∃ ga, A1 = some ⟨ga, 0, none⟩ ∧ ga < w1.heap.size := by
    rcases ho1.form with ⟨_, h, _⟩ | ⟨ga, h, _, h2, _⟩
    · cases h
    · exact ⟨ga, h, h2⟩
  have C1 : Hid (∀ W, Blk W w1.heap.size 27 #[.int .u64 0, .int .u64 0, .slice (some ⟨ga, 0, none⟩) 3 c1] → W.cell? ⟨w1.heap.size, 0, none⟩ = some (.int .u64 0) ∧ W.cell? ⟨w1.heap.size, 1, none⟩ = some (.int .u64 0) ∧ W.cell? ⟨w1.heap.size, 2, none⟩ = some (.slice (some ⟨ga, 0, none⟩) 3 c1)) := fun W hb => ⟨hb.cell 0, hb.cell 1, hb.cell 2⟩
  have hS0 := C1.out _ B12.out
  have hc1 : ¬ c1 = 1 := by omega
  have hc2 : (1 : Int) ≤ (c1 : Int) := by omega
  have LR : Hid (∀ W, Eo W w.heap.size (some ⟨ga, 0, none⟩) 3 c1 wk3 → Lr W W.heap.size (some ⟨ga, 0, none⟩) 3 c1 ⟨0, 0, wk3⟩) := Lib.hid (fun W ho => ⟨ho.read, ho.cap, ho.nil, by omega, by decide, by decide, by decide, by decide⟩)
  have LO : Hid (∀ W, Eo W w.heap.size (some ⟨ga, 0, none⟩) 3 c1 wk3 → Lr W W.heap.size (some ⟨ga, 3, none⟩) 2 (c1 - 1) ⟨1, 1, wk3.drop 1⟩) := Lib.hid (fun W ho => by
    have := Lr.drop (LR.out W ho) (k := 1) (by omega) 1 1 (by decide) (by decide) (by decide) (by decide)
    rw [if_neg hc1] at this
    exact this)
  have ME : Hid (∀ W, Eo W w.heap.size (some ⟨ga, 0, none⟩) 3 c1 wk3 → Calls Try.prog 14 #[.agg #[.int .u64 0, .int .u64 0, .slice (some ⟨ga, 0, none⟩) 3 c1], .agg #[.int .u64 1, .int .u64 1], .slice (some ⟨ga, 3, none⟩) 2 (c1 - 1)] W fun e w' => e = .returned (.tuple #[.int .i64 2, .int .i64 0]) ∧ Below W.heap.size W w') := Lib.hid (fun W ho => by
    have := Meet_any ⟨0, 0, wk3⟩ ⟨1, 1, wk3.drop 1⟩ _ _ _ _ _ _ _ W (LR.out W ho) (LO.out W ho) (Nat.le_refl _)
    simp only [wk_meet.1, wk_meet.2] at this
    exact this)
  clear ho1 hb1 b1 b2 hb12 HB1 hga
  refine wp_region_noPanic ?_
  refine wp_region_held_drew (S := fun w' => w'.cell? ⟨w1.heap.size, 0, none⟩ = some (.int .u64 0) ∧ w'.cell? ⟨w1.heap.size, 1, none⟩ = some (.int .u64 0) ∧ w'.cell? ⟨w1.heap.size, 2, none⟩ = some (.slice (some ⟨ga, 0, none⟩) 3 c1)) (by kernel_rfl) hS0 (fun hHeld => ?_)
  generalize ((w1.alloc (.cells #[.int .u64 0, .int .u64 0, .slice (some ⟨ga, 0, none⟩) 3 c1] 27)).alloc (.cells #[.int .u64 3, .int .u64 2] 24)).drew = w2 at *
  generalize w1.heap.size = p1 at *
  refine take_d (i := 0) (d := 20) (v := ?c20) rfl rfl (by kernel_rfl) (by kernel_rfl) (by kernel_rfl) (fun _ _ _ h => h) (Or.inl ⟨by kernel_rfl, ?c20h⟩) hHeld ?c20n
  case c20h => (intro w hSw; (try dsimp only at hSw); go_split_ands; go_simp; (try exact rfl))
  try simp only [Act.put, List.setIfInBounds_toArray, List.set_cons_zero, List.set_cons_succ]
  refine take_d (i := 1) (d := 21) (v := ?c21) rfl rfl (by kernel_rfl) (by kernel_rfl) (by kernel_rfl) (fun _ _ _ h => h) (Or.inl ⟨by kernel_rfl, ?c21h⟩) hHeld ?c21n
  case c21h => (intro w hSw; (try dsimp only at hSw); go_split_ands; go_simp; (try exact rfl))
  try simp only [Act.put, List.setIfInBounds_toArray, List.set_cons_zero, List.set_cons_succ]
  refine take_d (i := 2) (d := 22) (v := ?c22) rfl rfl (by kernel_rfl) (by kernel_rfl) (by kernel_rfl) (fun _ _ _ h => h) (Or.inl ⟨by kernel_rfl, ?c22h⟩) hHeld ?c22n
  case c22h => (intro w hSw; (try dsimp only at hSw); go_split_ands; go_simp; (try exact rfl))
  try simp only [Act.put, List.setIfInBounds_toArray, List.set_cons_zero, List.set_cons_succ]
  refine take_d (i := 3) (d := 23) (v := ?c23) rfl rfl (by kernel_rfl) (by kernel_rfl) (by kernel_rfl) (fun _ _ _ h => h) (Or.inl ⟨by kernel_rfl, ?c23h⟩) hHeld ?c23n
  case c23h => (intro w hSw; (try dsimp only at hSw); go_split_ands; go_simp; (try exact rfl))
  try simp only [Act.put, List.setIfInBounds_toArray, List.set_cons_zero, List.set_cons_succ]
  refine take_d (i := 4) (d := 24) (v := ?c24) rfl rfl (by kernel_rfl) (by kernel_rfl) (by kernel_rfl) (fun _ _ _ h => h) (Or.inl ⟨by kernel_rfl, ?c24h⟩) hHeld ?c24n
  case c24h => (intro w hSw; (try dsimp only at hSw); go_split_ands; go_simp; (try exact rfl))
  try simp only [Act.put, List.setIfInBounds_toArray, List.set_cons_zero, List.set_cons_succ]
  refine take_d (i := 5) (d := 25) (v := ?c25) rfl rfl (by kernel_rfl) (by kernel_rfl) (by kernel_rfl) (fun _ _ _ h => h) (Or.inl ⟨by kernel_rfl, ?c25h⟩) hHeld ?c25n
  case c25h => (intro w hSw; (try dsimp only at hSw); go_split_ands; go_simp; (try exact rfl))
  try simp only [Act.put, List.setIfInBounds_toArray, List.set_cons_zero, List.set_cons_succ]
  refine take_d (i := 6) (d := 26) (v := ?c26) rfl rfl (by kernel_rfl) (by kernel_rfl) (by kernel_rfl) (fun _ _ _ h => h) (Or.inl ⟨by kernel_rfl, ?c26h⟩) hHeld ?c26n
  case c26h => (intro w hSw; (try dsimp only at hSw); go_split_ands; go_simp; (try exact rfl))
  try simp only [Act.put, List.setIfInBounds_toArray, List.set_cons_zero, List.set_cons_succ]
  refine wpAnyH_ready (rs := [7]) (by kernel_rfl) (by simp) ?_
  refine AllReadyH.cons rfl (fun K hK => ?_) AllReadyH.nil
  go_simp
  refine hK.out _ _ (hHeld) (fun hHeld => ?_)
  clear hK K
  try simp only [Act.put, List.setIfInBounds_toArray, List.set_cons_zero, List.set_cons_succ]
  refine take_d (i := 8) (d := 28) (v := ?c28) rfl rfl (by kernel_rfl) (by kernel_rfl) (by kernel_rfl) (fun _ _ _ h => h) (Or.inl ⟨by kernel_rfl, ?c28h⟩) hHeld ?c28n
  case c28h => (intro w hSw; (try dsimp only at hSw); go_split_ands; go_simp; (try exact rfl))
  try simp only [Act.put, List.setIfInBounds_toArray, List.set_cons_zero, List.set_cons_succ]
  refine wpAnyH_ready (rs := [9]) (by kernel_rfl) (by simp) ?_
  refine AllReadyH.cons rfl (fun K hK => ?_) AllReadyH.nil
  go_simp
  rw [show (min (1 : Int) 3).toNat = 1 from rfl, if_neg hc1]
  simp only [Nat.reduceMul, Nat.reduceSub]
  refine (ME.out _ E2.out).mono ?_
  rintro e w3 ⟨rfl, hb3⟩
  have B13 := Lib.hid (B12.out.below hb3 B12.out.lt)
  have B23 := Lib.hid (B22.out.below hb3 B22.out.lt)
  have HB3 := Lib.hid (HB2.out.trans (hb3.mono HB2.out.size))
  have E3 := Lib.hid (E2.out.below hb3)
  clear hb3
  refine hK.out _ _ (C1.out _ B13.out) (fun hHeld => ?_)
  clear hK K
  try simp only [Act.put, List.setIfInBounds_toArray, List.set_cons_zero, List.set_cons_succ]
  refine take_d (i := 10) (d := 19) (v := ?c19) rfl rfl (by kernel_rfl) (by kernel_rfl) (by kernel_rfl) (fun _ _ _ h => h) (Or.inl ⟨by kernel_rfl, ?c19h⟩) hHeld ?c19n
  case c19h => (intro w hSw; (try dsimp only at hSw); go_split_ands; go_simp; (try exact rfl))
  try simp only [Act.put, List.setIfInBounds_toArray, List.set_cons_zero, List.set_cons_succ]
  refine take_d (i := 11) (d := 30) (v := ?c30) rfl rfl (by kernel_rfl) (by kernel_rfl) (by kernel_rfl) (fun _ _ _ h => h) (Or.inl ⟨by kernel_rfl, ?c30h⟩) hHeld ?c30n
  case c30h => (intro w hSw; (try dsimp only at hSw); go_split_ands; go_simp; (try exact rfl))
  try simp only [Act.put, List.setIfInBounds_toArray, List.set_cons_zero, List.set_cons_succ]
  refine take_d (i := 12) (d := 31) (v := ?c31) rfl rfl (by kernel_rfl) (by kernel_rfl) (by kernel_rfl) (fun _ _ _ h => h) (Or.inl ⟨by kernel_rfl, ?c31h⟩) hHeld ?c31n
  case c31h => (intro w hSw; (try dsimp only at hSw); go_split_ands; go_simp; (try exact rfl))
  try simp only [Act.put, List.setIfInBounds_toArray, List.set_cons_zero, List.set_cons_succ]
  refine take_d (i := 13) (d := 4) (v := ?c4) rfl rfl (by kernel_rfl) (by kernel_rfl) (by kernel_rfl) (fun _ _ _ h => h) (Or.inl ⟨by kernel_rfl, ?c4h⟩) hHeld ?c4n
  case c4h => (intro w hSw; (try dsimp only at hSw); go_split_ands; go_simp; (try exact rfl))
  try simp only [Act.put, List.setIfInBounds_toArray, List.set_cons_zero, List.set_cons_succ]
  refine take_d (i := 14) (d := 5) (v := ?c5) rfl rfl (by kernel_rfl) (by kernel_rfl) (by kernel_rfl) (fun _ _ _ h => h) (Or.inl ⟨by kernel_rfl, ?c5h⟩) hHeld ?c5n
  case c5h => (intro w hSw; (try dsimp only at hSw); go_split_ands; go_simp; (try exact rfl))
  try simp only [Act.put, List.setIfInBounds_toArray, List.set_cons_zero, List.set_cons_succ]
  refine wpAnyH_done (by kernel_rfl) ?_ _
  refine NoPanic.normal ?_
  have D1 : Hid (∀ W, Blk W p1 27 #[.int .u64 0, .int .u64 0, .slice (some ⟨ga, 0, none⟩) 3 c1] → Blk W (p1 + 1) 24 #[.int .u64 3, .int .u64 2] → (W.cell? ⟨p1, 0, none⟩ = some (.int .u64 0) ∧ W.cell? ⟨p1, 1, none⟩ = some (.int .u64 0) ∧ W.cell? ⟨p1, 2, none⟩ = some (.slice (some ⟨ga, 0, none⟩) 3 c1)) ∧ W.cell? ⟨p1 + 1, 0, none⟩ = some (.int .u64 3) ∧ W.cell? ⟨p1 + 1, 1, none⟩ = some (.int .u64 2) ∧ p1 + 1 < W.heap.size ∧ p1 < W.heap.size) := fun W h1 h2 => ⟨⟨h1.cell 0, h1.cell 1, h1.cell 2⟩, h2.cell 0, h2.cell 1, h2.lt, h1.lt⟩
  obtain ⟨⟨y0, y1, y2⟩, y3, y4, y5, y6⟩ := D1.out _ B13.out B23.out
  have CU : Hid (∀ W, Eo W w.heap.size (some ⟨ga, 0, none⟩) 3 c1 wk3 → Calls Try.prog 22 #[.agg #[.int .u64 0, .int .u64 0, .slice (some ⟨ga, 0, none⟩) 3 c1], .int .u64 2] W (Lge W ⟨0, 0, [⟨1, 1, []⟩]⟩ (.int .i64 0))) := Lib.hid (fun W ho => by
    have := Cut_any ⟨0, 0, wk3⟩ _ _ _ _ W (LR.out W ho) (Nat.le_refl _) 2
    simp only [wk_cut.1, wk_cut.2] at this
    exact this)
  have HS : Hid (∀ W, Eo W w.heap.size (some ⟨ga, 0, none⟩) 3 c1 wk3 → Calls Try.prog 37 #[.agg #[.int .u64 0, .int .u64 0, .slice (some ⟨ga, 0, none⟩) 3 c1], .agg #[.int .u64 3, .int .u64 2]] W fun e w' => e = .returned (.bool true) ∧ Below W.heap.size W w') := Lib.hid (fun W ho => by
    have := Has_any ⟨0, 0, wk3⟩ _ _ _ _ W (LR.out W ho) (Nat.le_refl _) 3 2 (by decide) (by decide)
    simp only [wk_has.1] at this
    exact this)
  have HN : Hid (∀ W A5 c5 b5, Eo W b5 A5 1 c5 [⟨1, 1, []⟩] → Calls Try.prog 37 #[.agg #[.int .u64 0, .int .u64 0, .slice A5 1 c5], .agg #[.int .u64 3, .int .u64 2]] W fun e w' => e = .returned (.bool false) ∧ Below W.heap.size W w') := Lib.hid (fun W A5 c5 b5 ho => by
    have := Has_any ⟨0, 0, [⟨1, 1, []⟩]⟩ _ _ _ _ W ⟨ho.read, ho.cap, ho.nil, by omega, by decide, by decide, by decide, by decide⟩ (Nat.le_refl _) 3 2 (by decide) (by decide)
    simp only [wk_has.2] at this
    exact this)
  have q1 : Eqa 3 2 3 2 = true := by decide
  clear LR LO ME hS0
  go_wp2_with (first | (go_at_call 22; refine (CU.out _ E3.out).mono ?_; rintro e w4 ⟨A4, n4, c4, rfl, ho4, hb4⟩; obtain rfl : n4 = 1 := ho4.len.symm; have B14 := Lib.hid (B13.out.below hb4 B13.out.lt); have B24 := Lib.hid (B23.out.below hb4 B23.out.lt); have HB4 := Lib.hid (HB3.out.trans (hb4.mono HB3.out.size)); have E4 := Lib.hid (E3.out.below hb4); have HO4 := Lib.hid ho4; clear ho4 hb4 y0 y1 y2 y3 y4 y5 y6; obtain ⟨⟨y0, y1, y2⟩, y3, y4, y5, y6⟩ := D1.out _ B14.out B24.out; have hb5 : Below w4.heap.size w4 (w4.alloc (.cells #[.int .u64 0, .int .u64 0, .slice A4 1 c4] 27)) := (Below.refl _ _).alloc (Nat.le_refl _) _; have E5 := Lib.hid (E4.out.below hb5); have HO5 := Lib.hid (Eo.below HO4.out hb5); have HB5 := Lib.hid (HB4.out.trans (hb5.mono HB4.out.size)); have B5x : Hid (Blk (w4.alloc (.cells #[.int .u64 0, .int .u64 0, .slice A4 1 c4] 27)) w4.heap.size 27 #[.int .u64 0, .int .u64 0, .slice A4 1 c4]) := Lib.hid (Blk.new _ _ _); have B15 := Lib.hid (B14.out.below hb5 B14.out.lt); have B25 := Lib.hid (B24.out.below hb5 B24.out.lt); clear hb5) | (go_at_call 37; refine (HS.out _ E5.out).mono ?_; rintro e w6 ⟨rfl, hb6⟩; have B16 := Lib.hid (B15.out.below hb6 B15.out.lt); have B26 := Lib.hid (B25.out.below hb6 B25.out.lt); have B6x := Lib.hid (B5x.out.below hb6 B5x.out.lt); have HO6 := Lib.hid (Eo.below HO5.out hb6); have HB6 := Lib.hid (HB5.out.trans (hb6.mono HB5.out.size)); clear hb6 HS y0 y1 y2 y3 y4 y5 y6; obtain ⟨⟨y0, y1, y2⟩, y3, y4, y5, y6⟩ := D1.out _ B16.out B26.out; have v0 : w6.cell? ⟨w4.heap.size, 0, none⟩ = some (.int .u64 0) := B6x.out.cell 0; have v1 : w6.cell? ⟨w4.heap.size, 1, none⟩ = some (.int .u64 0) := B6x.out.cell 1; have v2 : w6.cell? ⟨w4.heap.size, 2, none⟩ = some (.slice A4 1 c4) := B6x.out.cell 2) | (go_at_call 37; refine (HN.out _ _ _ _ HO6.out).mono ?_; rintro e w7 ⟨rfl, hb7⟩; have HB7 := Lib.hid (HB6.out.trans (hb7.mono HB6.out.size)); clear hb7))
  go_ret
  exact ⟨rfl, HB7.out⟩

end Go.Proofs.Ytmgaihdepglahaa
