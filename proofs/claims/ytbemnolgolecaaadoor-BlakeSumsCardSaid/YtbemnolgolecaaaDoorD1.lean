/-
  The law BlakeBack, walked.
-/
import Derived.Test.YtbemnolgolecaaaDoorC4
namespace Go.Proofs.YtbemnolgolecaaaDoor
open Go.RowKit
attribute [local go_sem ↓] Tryd.z42 Tryd.z70 Tryd.z27 Tryd.z45 Tryd.z37 Tryd.z38

def ZT (n : Nat) : List Value := List.replicate n (.bool false)
theorem Tryd.z62 : ∀ w, (zeroValue 62).run Tryd.prog w = .ok (.agg (ZT 16).toArray) w := (zero_of_info (n := 16) (by kernel_rfl)).1
attribute [local go_sem ↓] Tryd.z62

theorem ne33 (w : World) (q : Q) : (binOp .neq 33 (.agg #[.int .u32 (tn q.a), .int .u32 (tn q.b), .int .u32 (tn q.c), .int .u32 (tn q.d)]) (.agg #[.int .u32 (tn q.a), .int .u32 (tn q.b), .int .u32 (tn q.c), .int .u32 (tn q.d)])).run Tryd.prog w = .ok (.bool false) w := by
  cases hi : Tryd.prog.info? 32 with
  | none =>
    have : (Tryd.prog.info? 32).isSome = true := by kernel_rfl
    rw [hi] at this
    cases this
  | some i0 =>
    have h := eq_ints w 33 32 4 .u32 i0 Tryd.underlying33 Tryd.underlying32 hi (by kernel_rfl) [(tn q.a : Int), (tn q.b : Int), (tn q.c : Int), (tn q.d : Int)] [(tn q.a : Int), (tn q.b : Int), (tn q.c : Int), (tn q.d : Int)] rfl rfl 9998
    have h' : (Op.equalIn 10000 33 (.agg #[.int .u32 (tn q.a), .int .u32 (tn q.b), .int .u32 (tn q.c), .int .u32 (tn q.d)]) (.agg #[.int .u32 (tn q.a), .int .u32 (tn q.b), .int .u32 (tn q.c), .int .u32 (tn q.d)])).run Tryd.prog w = .ok true w := by
      refine h.trans ?_
      simp
    rw [run_neq_struct, h']
    rfl

theorem ix38_0 (w : World) : (Instr.index 38 (.agg (IL ordersL.flatten).toArray) (.int .i64 ((0 : Nat) : Int))).run Tryd.prog w = .ok (.agg (IL (ordersL.getD 0 [])).toArray) w := by kernel_rfl
theorem ix38_1 (w : World) : (Instr.index 38 (.agg (IL ordersL.flatten).toArray) (.int .i64 ((1 : Nat) : Int))).run Tryd.prog w = .ok (.agg (IL (ordersL.getD 1 [])).toArray) w := by kernel_rfl
theorem ix38_2 (w : World) : (Instr.index 38 (.agg (IL ordersL.flatten).toArray) (.int .i64 ((2 : Nat) : Int))).run Tryd.prog w = .ok (.agg (IL (ordersL.getD 2 [])).toArray) w := by kernel_rfl
theorem ix38_3 (w : World) : (Instr.index 38 (.agg (IL ordersL.flatten).toArray) (.int .i64 ((3 : Nat) : Int))).run Tryd.prog w = .ok (.agg (IL (ordersL.getD 3 [])).toArray) w := by kernel_rfl
theorem ix38_4 (w : World) : (Instr.index 38 (.agg (IL ordersL.flatten).toArray) (.int .i64 ((4 : Nat) : Int))).run Tryd.prog w = .ok (.agg (IL (ordersL.getD 4 [])).toArray) w := by kernel_rfl
theorem ix38_5 (w : World) : (Instr.index 38 (.agg (IL ordersL.flatten).toArray) (.int .i64 ((5 : Nat) : Int))).run Tryd.prog w = .ok (.agg (IL (ordersL.getD 5 [])).toArray) w := by kernel_rfl
theorem ix38_6 (w : World) : (Instr.index 38 (.agg (IL ordersL.flatten).toArray) (.int .i64 ((6 : Nat) : Int))).run Tryd.prog w = .ok (.agg (IL (ordersL.getD 6 [])).toArray) w := by kernel_rfl
theorem ix38_7 (w : World) : (Instr.index 38 (.agg (IL ordersL.flatten).toArray) (.int .i64 ((7 : Nat) : Int))).run Tryd.prog w = .ok (.agg (IL (ordersL.getD 7 [])).toArray) w := by kernel_rfl
theorem ix38_8 (w : World) : (Instr.index 38 (.agg (IL ordersL.flatten).toArray) (.int .i64 ((8 : Nat) : Int))).run Tryd.prog w = .ok (.agg (IL (ordersL.getD 8 [])).toArray) w := by kernel_rfl
theorem ix38_9 (w : World) : (Instr.index 38 (.agg (IL ordersL.flatten).toArray) (.int .i64 ((9 : Nat) : Int))).run Tryd.prog w = .ok (.agg (IL (ordersL.getD 9 [])).toArray) w := by kernel_rfl
theorem ix38 (k : Nat) (hk : k < 10) (w : World) : (Instr.index 38 (.agg (IL ordersL.flatten).toArray) (.int .i64 (k : Int))).run Tryd.prog w = .ok (.agg (IL (ordersL.getD k [])).toArray) w := by
  match k, hk with
  | 0, _ => exact ix38_0 w
  | 1, _ => exact ix38_1 w
  | 2, _ => exact ix38_2 w
  | 3, _ => exact ix38_3 w
  | 4, _ => exact ix38_4 w
  | 5, _ => exact ix38_5 w
  | 6, _ => exact ix38_6 w
  | 7, _ => exact ix38_7 w
  | 8, _ => exact ix38_8 w
  | 9, _ => exact ix38_9 w
theorem ix37 (k : Nat) (hk : k < 10) (j : Nat) (hj : j < 16) (w : World) : (Instr.index 37 (.agg (IL (ordersL.getD k [])).toArray) (.int .i64 (j : Int))).run Tryd.prog w = .ok (.int .i64 ((ordersL.getD k []).getD j 0 : Int)) w :=
  idx_one 37 3 16 _ j _ w .i64 Tryd.underlying37 hj (by rw [List.getElem?_toArray]; exact IL.get _ j (by rw [orders_len k hk]; exact hj)) (by kernel_rfl) Tryd.underlying3

/-- Which places were met. -/
def metL (row : List Nat) : Nat → List Bool
  | 0 => List.replicate 16 false
  | j + 1 => (metL row j).set (row.getD j 0) true
theorem metL_len (row : List Nat) : ∀ j, (metL row j).length = 16
  | 0 => rfl
  | j + 1 => by rw [metL, List.length_set, metL_len row j]
theorem met_not (k : Nat) (hk : k < 10) (j : Nat) (hj : j < 16) : (metL (ordersL.getD k []) j).getD ((ordersL.getD k []).getD j 0) true = false := by
  have all : ∀ k : Fin 10, ∀ j : Fin 16, (metL (ordersL.getD k.val []) j.val).getD ((ordersL.getD k.val []).getD j.val 0) true = false := by decide +kernel
  exact all ⟨k, hk⟩ ⟨j, hj⟩
def TL (l : List Bool) : List Value := l.map Value.bool
theorem TL.set (l : List Bool) (i : Nat) (x : Bool) : (TL l).toArray.setIfInBounds i (.bool x) = (TL (l.set i x)).toArray := by simp [TL, List.map_set]

structure VW (w0 : World) (q : Q) (w : World) : Prop where
  below : Below w0.heap.size w0 w
  gl : Gl w
  vb : Blk w w0.heap.size 33 #[.int .u32 (tn q.a), .int .u32 (tn q.b), .int .u32 (tn q.c), .int .u32 (tn q.d)]
theorem VW.low {w0 w w' : World} {q : Q} (s : VW w0 q w) (hb : Below w.heap.size w w') : VW w0 q w' := ⟨s.below.trans (hb.mono s.below.size), s.gl.low hb, s.vb.below hb s.vb.lt⟩
theorem VW.drew {w0 w : World} {q : Q} (s : VW w0 q w) : VW w0 q w.drew := ⟨s.below.drew, ⟨s.gl.s, s.gl.o, s.gl.f, s.gl.lt⟩, s.vb⟩
theorem VW.cells {w0 w : World} {q : Q} (s : VW w0 q w) : w.cell? ⟨w0.heap.size, 0, none⟩ = some (.int .u32 (tn q.a)) ∧ w.cell? ⟨w0.heap.size, 1, none⟩ = some (.int .u32 (tn q.b)) ∧ w.cell? ⟨w0.heap.size, 2, none⟩ = some (.int .u32 (tn q.c)) ∧ w.cell? ⟨w0.heap.size, 3, none⟩ = some (.int .u32 (tn q.d)) :=
  ⟨s.vb.cell 0, s.vb.cell 1, s.vb.cell 2, s.vb.cell 3⟩

def AQ (q : Q) : Array Value := #[.int .u32 (tn q.a), .int .u32 (tn q.b), .int .u32 (tn q.c), .int .u32 (tn q.d)]

set_option maxRecDepth 100000 in
set_option maxHeartbeats 8000000 in
theorem back_walk (q : Q) (x y : BitVec 32) (w : World) (hG : Gl w) : Calls Tryd.prog 8 #[.agg #[.int .u32 (tn q.a), .int .u32 (tn q.b), .int .u32 (tn q.c), .int .u32 (tn q.d)], .int .u32 (tn x), .int .u32 (tn y)] w fun e w' => e = .returned (.bool true) ∧ Below w.heap.size w w' := by
  have V0 : Hid (VW w q (w.alloc (.cells #[.int .u32 (tn q.a), .int .u32 (tn q.b), .int .u32 (tn q.c), .int .u32 (tn q.d)] 33))) :=
    have b := (Below.refl _ w).alloc (Nat.le_refl _) (.cells #[.int .u32 (tn q.a), .int .u32 (tn q.b), .int .u32 (tn q.c), .int .u32 (tn q.d)] 33)
    ⟨b, hG.low b, Blk.new w 33 _⟩
  clear hG
  have WK := Lib.hid (wakes_any (w.alloc (.cells #[.int .u32 (tn q.a), .int .u32 (tn q.b), .int .u32 (tn q.c), .int .u32 (tn q.d)] 33)) V0.out.gl)
  obtain ⟨m, hm⟩ : ∃ m, m = mixQ q x y := ⟨_, rfl⟩
  obtain ⟨u, hu⟩ : ∃ u, u = unmixQ q x y := ⟨_, rfl⟩
  have C1 : Hid (∀ w, Calls Tryd.prog 15 #[.agg #[.int .u32 (tn q.a), .int .u32 (tn q.b), .int .u32 (tn q.c), .int .u32 (tn q.d)], .int .u32 (tn x), .int .u32 (tn y)] w fun e w' => e = .returned (.agg #[.int .u32 (tn m.a), .int .u32 (tn m.b), .int .u32 (tn m.c), .int .u32 (tn m.d)]) ∧ Below w.heap.size w w') := fun w => by
    subst hm; exact mix_any q x y w
  have C2 : Hid (∀ w, Calls Tryd.prog 30 #[.agg #[.int .u32 (tn m.a), .int .u32 (tn m.b), .int .u32 (tn m.c), .int .u32 (tn m.d)], .int .u32 (tn x), .int .u32 (tn y)] w fun e w' => e = .returned (.agg #[.int .u32 (tn q.a), .int .u32 (tn q.b), .int .u32 (tn q.c), .int .u32 (tn q.d)]) ∧ Below w.heap.size w w') := fun w => by
    have := unmix_any m x y w
    rw [hm, unmix_mix] at this
    subst hm; exact this
  have C3 : Hid (∀ w, Calls Tryd.prog 30 #[.agg #[.int .u32 (tn q.a), .int .u32 (tn q.b), .int .u32 (tn q.c), .int .u32 (tn q.d)], .int .u32 (tn x), .int .u32 (tn y)] w fun e w' => e = .returned (.agg #[.int .u32 (tn u.a), .int .u32 (tn u.b), .int .u32 (tn u.c), .int .u32 (tn u.d)]) ∧ Below w.heap.size w w') := fun w => by
    subst hu; exact unmix_any q x y w
  have C4 : Hid (∀ w, Calls Tryd.prog 15 #[.agg #[.int .u32 (tn u.a), .int .u32 (tn u.b), .int .u32 (tn u.c), .int .u32 (tn u.d)], .int .u32 (tn x), .int .u32 (tn y)] w fun e w' => e = .returned (.agg #[.int .u32 (tn q.a), .int .u32 (tn q.b), .int .u32 (tn q.c), .int .u32 (tn q.d)]) ∧ Below w.heap.size w w') := fun w => by
    have := mix_any u x y w
    rw [hu, mix_unmix] at this
    subst hu; exact this
  have CE : Hid (∀ w2, VW w q w2 → w2.cell? ⟨w.heap.size, 0, none⟩ = some (.int .u32 (tn q.a)) ∧ w2.cell? ⟨w.heap.size, 1, none⟩ = some (.int .u32 (tn q.b)) ∧ w2.cell? ⟨w.heap.size, 2, none⟩ = some (.int .u32 (tn q.c)) ∧ w2.cell? ⟨w.heap.size, 3, none⟩ = some (.int .u32 (tn q.d))) := fun w2 s => s.cells
  have NE := Lib.hid (fun w => ne33 w q)
  clear hm hu
  go_enter Tryd.func8, Tryd.ntmps8
  go_wp2_with fail
  refine WK.out.mono ?_
  rintro e w1 ⟨rfl, hb1⟩
  have V1 := Lib.hid (V0.out.low hb1)
  clear V0 WK hb1
  go_wp2_with fail
  obtain ⟨c0, c1, c2, c3⟩ := CE.out _ V1.out
  have hne := NE.out
  go_region_held3 (fun w' => w'.cell? ⟨w.heap.size, 0, none⟩ = some (.int .u32 (tn q.a)) ∧ w'.cell? ⟨w.heap.size, 1, none⟩ = some (.int .u32 (tn q.b)) ∧ w'.cell? ⟨w.heap.size, 2, none⟩ = some (.int .u32 (tn q.c)) ∧ w'.cell? ⟨w.heap.size, 3, none⟩ = some (.int .u32 (tn q.d)))
    (first | with_reducible exact CE.out _ V1.out.drew | with_reducible exact CE.out _ ((((V1.out.drew.low k1).low k2).low k3).low k4) | with_reducible exact CE.out _ (((V1.out.drew.low k1).low k2).low k3) | with_reducible exact CE.out _ ((V1.out.drew.low k1).low k2) | with_reducible exact CE.out _ (V1.out.drew.low k1))
    (first
      | (go_at_call 15; with_reducible refine (C1.out _).mono ?_; rintro e w2 ⟨rfl, k1⟩)
      | (go_at_call 30; with_reducible refine (C2.out _).mono ?_; rintro e w3 ⟨rfl, k2⟩)
      | (go_at_call 30; with_reducible refine (C3.out _).mono ?_; rintro e w4 ⟨rfl, k3⟩)
      | (go_at_call 15; with_reducible refine (C4.out _).mono ?_; rintro e w5 ⟨rfl, k4⟩))
  have V5 := Lib.hid ((((V1.out.drew.low k1).low k2).low k3).low k4)
  clear V1 k1 k2 k3 k4 c0 c1 c2 c3 hne NE C1 C2 C3 C4 CE
  go_wp2_with fail
  refine (orders_any _ V5.out.gl).mono ?_
  rintro e w6 ⟨rfl, k6⟩
  have B6 := Lib.hid (V5.out.low k6).below
  clear V5 k6
  go_wp2_with fail
  go_loopw [35] (fun i wr => ∃ k : Nat, k ≤ 10 ∧ i = .int .i64 k ∧ Below w.heap.size w wr) (fun i _ => 10 - (intOf i).toNat)
  case atStart => exact ⟨0, Nat.zero_le _, rfl, B6.out⟩
  case round =>
    obtain ⟨k, hk, rfl, hb⟩ := hrel
    have B := Lib.hid hb
    clear B6 hb
    by_cases hlt : k < 10
    · have ix := fun w => ix38 k hlt w
      have IX := Lib.hid (fun j (hj : j < 16) w => ix37 k hlt j hj w)
      have RL := Lib.hid (orders_len k hlt)
      have RT := Lib.hid (orders_lt k hlt)
      have MN := Lib.hid (fun j (hj : j < 16) => met_not k hlt j hj)
      generalize ordersL.getD k [] = row at *
      have iR : Hid ((Tryd.prog.info? 37).map (·.size) = some (IL row).length) := show _ = _ by rw [IL.len, RL.out]; exact Tryd.i37
      have zR : Hid ((ZI 16).toArray.size = (IL row).length) := show _ = _ by rw [IL.len, RL.out]; rfl
      have oR := Lib.hid (IL.one row)
      go_wp2_with (first
        | ((with_reducible refine at_store (t := 37) ?_); refine wpList_store_blk _ rfl 37 _ _ rfl wr.heap.size (ZI 16).toArray 37 (IL row) rfl rfl (Blk.new wr 37 _) zR.out iR.out oR.out ?_; intro w7 hb7 ho7; have B7 := Lib.hid (B.out.trans ((((Below.refl _ wr).alloc (Nat.le_refl _) (.cells (ZI 16).toArray 37)).trans (ho7.below (Nat.le_refl _))).mono B.out.size)); have R7 := Lib.hid hb7; clear hb7 ho7 B; generalize wr.heap.size = gr at *)
        | ((with_reducible refine at_load (t := 37) ?_); refine wpList_load_mid rfl 37 _ rfl gr 0 rfl (IL row) _ (R7.out.alloc (.cells (ZT 16).toArray 62)).rng Tryd.underlying37 rfl iR.out ?_))
      have M0 : Hid (Blk (w7.alloc (.cells (ZT 16).toArray 62)) w7.heap.size 62 (TL (metL row 0)).toArray ∧ Below w.heap.size w (w7.alloc (.cells (ZT 16).toArray 62)) ∧ w.heap.size ≤ w7.heap.size) := ⟨Blk.new w7 62 _, B7.out.alloc B7.out.size _, B7.out.size⟩
      clear ix B7 R7
      generalize w7.alloc (.cells (ZT 16).toArray 62) = W8 at *
      generalize w7.heap.size = gm at *
      go_loopw [39] (fun i wr => ∃ j : Nat, j ≤ 16 ∧ i = .int .i64 j ∧ Blk wr gm 62 (TL (metL row j)).toArray ∧ Below w.heap.size w wr ∧ w.heap.size ≤ gm) (fun i _ => 16 - (intOf i).toNat)
      case atStart => exact ⟨0, Nat.zero_le _, rfl, M0.out⟩
      case round =>
        clear M0
        obtain ⟨j, hj, rfl, hm, hbl, hgm⟩ := hrel
        have M := Lib.hid hm
        have BB := Lib.hid hbl
        have GM := Lib.hid hgm
        clear hm hbl hgm
        by_cases hlt2 : j < 16
        · have ix := fun w => IX.out j hlt2 w
          have at16 := RT.out j
          have mn := Lib.hid (MN.out j hlt2)
          have MS : Hid (metL row (j + 1) = (metL row j).set (row.getD j 0) true) := show _ = _ from rfl
          generalize row.getD j 0 = a at *
          have mc : wr.cell? ⟨gm, a, none⟩ = some (.bool false) := by
            refine (M.out.cell a).trans ?_
            have hl : a < (metL row j).length := by rw [metL_len]; exact at16
            have := mn.out
            simp only [List.getD, List.getElem?_eq_getElem hl, Option.getD_some] at this
            simp [TL, hl, this]
          have mf := M.out.frozen a
          have a0 : (0 : Int) ≤ a := by omega
          have a1 : (a : Int) ≤ 15 := by omega
          have a2 : (a : Int) < 16 := by omega
          go_wp2_with fail
          refine ⟨⟨j + 1, by omega, by go_num, ?_, BB.out.setCell GM.out _, GM.out⟩, by simp [intOf]; omega⟩
          rw [MS.out, ← TL.set]
          exact M.out.set_ a (.bool true)
        · have hj16 : j = 16 := by omega
          subst hj16
          clear M GM
          go_wp2_with fail
          exact ⟨⟨k + 1, by omega, by go_num, BB.out⟩, by simp [intOf]; omega⟩
    · have hk10 : k = 10 := by omega
      subst hk10
      go_wp2_with fail
      go_ret
      exact ⟨rfl, B.out⟩

end Go.Proofs.YtbemnolgolecaaaDoor
