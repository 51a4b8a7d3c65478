/-
  Two statements that are the same: the program's Same answers true.
-/
import Derived.Test.YtiipglmbfgmbbaaGreatDoorPkZ
namespace Go.Proofs.YtiipglmbfgmbbaaGreatDoor
open Go.RowKit Go.Shelf
attribute [local go_sem] Oper.semAt_some

theorem Ox.on_ {w w' : World} {D : Nat} {s : Sm} {x : Cx} (h : Ox w D s x) (hb : Below w.heap.size w w') : Ox w' D s x := h.k4 (K4.below hb)
set_option maxRecDepth 100000 in
set_option maxHeartbeats 8000000 in
theorem same_stmt (s : Sm) (x x' : Cx) (D D' : Nat) (w : World) (h : Ox w D s x) (h' : Ox w D' s x') :
    Calls Tryz.prog 9 #[.agg (smC s x).toArray, .agg (smC s x').toArray] w fun e w' => e = .returned (.bool true) ∧ Below w.heap.size w w' := by
  obtain ⟨kind, table, join, cols, sets, star, items, on, wh, gt, gn, ot, on_, desc, limit⟩ := s
  obtain ⟨a1, c1, a2, c2, a3, c3, a4, c4, a5, c5⟩ := x
  obtain ⟨b1, d1, b2, d2, b3, d3, b4, d4, b5, d5⟩ := x'
  obtain ⟨k1, k2, k3, k4, k5⟩ := h
  obtain ⟨l1, l2, l3, l4, l5⟩ := h'
  simp only at k1 k2 k3 k4 k5 l1 l2 l3 l4 l5
  have C1 := Lib.hid (fun W (hW : Below w.heap.size w W) => cols_same a1 b1 cols.length c1 d1 D D' cols W (k1.below hW) (l1.below hW))
  have C2 := Lib.hid (fun W (hW : Below w.heap.size w W) => sets_same a2 b2 sets.length c2 d2 D D' sets W (k2.below hW) (l2.below hW))
  have C3 := Lib.hid (fun W (hW : Below w.heap.size w W) => items_same a3 b3 items.length c3 d3 D D' items W (k3.below hW) (l3.below hW))
  have C4 := Lib.hid (fun W (hW : Below w.heap.size w W) => expr_same a4 b4 on.length c4 d4 D D' on W (k4.below hW) (l4.below hW))
  have C5 := Lib.hid (fun W (hW : Below w.heap.size w W) => expr_same a5 b5 wh.length c5 d5 D D' wh W (k5.below hW) (l5.below hW))
  clear k1 k2 k3 k4 k5 l1 l2 l3 l4 l5
  unfold smC
  simp only
  generalize cols.length = n1 at *
  generalize sets.length = n2 at *
  generalize items.length = n3 at *
  generalize on.length = n4 at *
  generalize wh.length = n5 at *
  show Calls Tryz.prog 9 #[.agg #[Value.int .i64 (kind : Int), tx table, tx join, .slice a1 n1 c1, .slice a2 n2 c2, .bool star, .slice a3 n3 c3, .slice a4 n4 c4, .slice a5 n5 c5, tx gt, tx gn, tx ot, tx on_, .bool desc, .int .i64 limit], .agg #[Value.int .i64 (kind : Int), tx table, tx join, .slice b1 n1 d1, .slice b2 n2 d2, .bool star, .slice b3 n3 d3, .slice b4 n4 d4, .slice b5 n5 d5, tx gt, tx gn, tx ot, tx on_, .bool desc, .int .i64 limit]] w _
  have HA0 : Hid (Below w.heap.size w ((w.alloc (.cells #[Value.int .i64 (kind : Int), tx table, tx join, .slice a1 n1 c1, .slice a2 n2 c2, .bool star, .slice a3 n3 c3, .slice a4 n4 c4, .slice a5 n5 c5, tx gt, tx gn, tx ot, tx on_, .bool desc, .int .i64 limit] 38)).alloc (.cells #[Value.int .i64 (kind : Int), tx table, tx join, .slice b1 n1 d1, .slice b2 n2 d2, .bool star, .slice b3 n3 d3, .slice b4 n4 d4, .slice b5 n5 d5, tx gt, tx gn, tx ot, tx on_, .bool desc, .int .i64 limit] 38))) := Lib.hid (((Below.refl _ _).alloc (Nat.le_refl _) _).alloc (by simp) _)
  have Z0 : Hid (Blk ((w.alloc (.cells #[Value.int .i64 (kind : Int), tx table, tx join, .slice a1 n1 c1, .slice a2 n2 c2, .bool star, .slice a3 n3 c3, .slice a4 n4 c4, .slice a5 n5 c5, tx gt, tx gn, tx ot, tx on_, .bool desc, .int .i64 limit] 38)).alloc (.cells #[Value.int .i64 (kind : Int), tx table, tx join, .slice b1 n1 d1, .slice b2 n2 d2, .bool star, .slice b3 n3 d3, .slice b4 n4 d4, .slice b5 n5 d5, tx gt, tx gn, tx ot, tx on_, .bool desc, .int .i64 limit] 38)) w.heap.size 38 #[Value.int .i64 (kind : Int), tx table, tx join, .slice a1 n1 c1, .slice a2 n2 c2, .bool star, .slice a3 n3 c3, .slice a4 n4 c4, .slice a5 n5 c5, tx gt, tx gn, tx ot, tx on_, .bool desc, .int .i64 limit]) := Lib.hid ((Blk.new w 38 _).alloc _)
  have Y0 : Hid (Blk ((w.alloc (.cells #[Value.int .i64 (kind : Int), tx table, tx join, .slice a1 n1 c1, .slice a2 n2 c2, .bool star, .slice a3 n3 c3, .slice a4 n4 c4, .slice a5 n5 c5, tx gt, tx gn, tx ot, tx on_, .bool desc, .int .i64 limit] 38)).alloc (.cells #[Value.int .i64 (kind : Int), tx table, tx join, .slice b1 n1 d1, .slice b2 n2 d2, .bool star, .slice b3 n3 d3, .slice b4 n4 d4, .slice b5 n5 d5, tx gt, tx gn, tx ot, tx on_, .bool desc, .int .i64 limit] 38)) (w.heap.size + 1) 38 #[Value.int .i64 (kind : Int), tx table, tx join, .slice b1 n1 d1, .slice b2 n2 d2, .bool star, .slice b3 n3 d3, .slice b4 n4 d4, .slice b5 n5 d5, tx gt, tx gn, tx ot, tx on_, .bool desc, .int .i64 limit]) := Lib.hid (Blk.fresh (by simp))
  go_enter Tryz.func9, Tryz.ntmps9
  have z0 : World.cell? ((w.alloc (.cells #[Value.int .i64 (kind : Int), tx table, tx join, .slice a1 n1 c1, .slice a2 n2 c2, .bool star, .slice a3 n3 c3, .slice a4 n4 c4, .slice a5 n5 c5, tx gt, tx gn, tx ot, tx on_, .bool desc, .int .i64 limit] 38)).alloc (.cells #[Value.int .i64 (kind : Int), tx table, tx join, .slice b1 n1 d1, .slice b2 n2 d2, .bool star, .slice b3 n3 d3, .slice b4 n4 d4, .slice b5 n5 d5, tx gt, tx gn, tx ot, tx on_, .bool desc, .int .i64 limit] 38)) ⟨w.heap.size, 0, none⟩ = some (.int .i64 (kind : Int)) := Z0.out.cell 0
  have y0 : World.cell? ((w.alloc (.cells #[Value.int .i64 (kind : Int), tx table, tx join, .slice a1 n1 c1, .slice a2 n2 c2, .bool star, .slice a3 n3 c3, .slice a4 n4 c4, .slice a5 n5 c5, tx gt, tx gn, tx ot, tx on_, .bool desc, .int .i64 limit] 38)).alloc (.cells #[Value.int .i64 (kind : Int), tx table, tx join, .slice b1 n1 d1, .slice b2 n2 d2, .bool star, .slice b3 n3 d3, .slice b4 n4 d4, .slice b5 n5 d5, tx gt, tx gn, tx ot, tx on_, .bool desc, .int .i64 limit] 38)) ⟨w.heap.size + 1, 0, none⟩ = some (.int .i64 (kind : Int)) := Y0.out.cell 0
  have z1 : World.cell? ((w.alloc (.cells #[Value.int .i64 (kind : Int), tx table, tx join, .slice a1 n1 c1, .slice a2 n2 c2, .bool star, .slice a3 n3 c3, .slice a4 n4 c4, .slice a5 n5 c5, tx gt, tx gn, tx ot, tx on_, .bool desc, .int .i64 limit] 38)).alloc (.cells #[Value.int .i64 (kind : Int), tx table, tx join, .slice b1 n1 d1, .slice b2 n2 d2, .bool star, .slice b3 n3 d3, .slice b4 n4 d4, .slice b5 n5 d5, tx gt, tx gn, tx ot, tx on_, .bool desc, .int .i64 limit] 38)) ⟨w.heap.size, 1, none⟩ = some (tx table) := Z0.out.cell 1
  have y1 : World.cell? ((w.alloc (.cells #[Value.int .i64 (kind : Int), tx table, tx join, .slice a1 n1 c1, .slice a2 n2 c2, .bool star, .slice a3 n3 c3, .slice a4 n4 c4, .slice a5 n5 c5, tx gt, tx gn, tx ot, tx on_, .bool desc, .int .i64 limit] 38)).alloc (.cells #[Value.int .i64 (kind : Int), tx table, tx join, .slice b1 n1 d1, .slice b2 n2 d2, .bool star, .slice b3 n3 d3, .slice b4 n4 d4, .slice b5 n5 d5, tx gt, tx gn, tx ot, tx on_, .bool desc, .int .i64 limit] 38)) ⟨w.heap.size + 1, 1, none⟩ = some (tx table) := Y0.out.cell 1
  have z2 : World.cell? ((w.alloc (.cells #[Value.int .i64 (kind : Int), tx table, tx join, .slice a1 n1 c1, .slice a2 n2 c2, .bool star, .slice a3 n3 c3, .slice a4 n4 c4, .slice a5 n5 c5, tx gt, tx gn, tx ot, tx on_, .bool desc, .int .i64 limit] 38)).alloc (.cells #[Value.int .i64 (kind : Int), tx table, tx join, .slice b1 n1 d1, .slice b2 n2 d2, .bool star, .slice b3 n3 d3, .slice b4 n4 d4, .slice b5 n5 d5, tx gt, tx gn, tx ot, tx on_, .bool desc, .int .i64 limit] 38)) ⟨w.heap.size, 2, none⟩ = some (tx join) := Z0.out.cell 2
  have y2 : World.cell? ((w.alloc (.cells #[Value.int .i64 (kind : Int), tx table, tx join, .slice a1 n1 c1, .slice a2 n2 c2, .bool star, .slice a3 n3 c3, .slice a4 n4 c4, .slice a5 n5 c5, tx gt, tx gn, tx ot, tx on_, .bool desc, .int .i64 limit] 38)).alloc (.cells #[Value.int .i64 (kind : Int), tx table, tx join, .slice b1 n1 d1, .slice b2 n2 d2, .bool star, .slice b3 n3 d3, .slice b4 n4 d4, .slice b5 n5 d5, tx gt, tx gn, tx ot, tx on_, .bool desc, .int .i64 limit] 38)) ⟨w.heap.size + 1, 2, none⟩ = some (tx join) := Y0.out.cell 2
  have z3 : World.cell? ((w.alloc (.cells #[Value.int .i64 (kind : Int), tx table, tx join, .slice a1 n1 c1, .slice a2 n2 c2, .bool star, .slice a3 n3 c3, .slice a4 n4 c4, .slice a5 n5 c5, tx gt, tx gn, tx ot, tx on_, .bool desc, .int .i64 limit] 38)).alloc (.cells #[Value.int .i64 (kind : Int), tx table, tx join, .slice b1 n1 d1, .slice b2 n2 d2, .bool star, .slice b3 n3 d3, .slice b4 n4 d4, .slice b5 n5 d5, tx gt, tx gn, tx ot, tx on_, .bool desc, .int .i64 limit] 38)) ⟨w.heap.size, 3, none⟩ = some (.slice a1 n1 c1) := Z0.out.cell 3
  have y3 : World.cell? ((w.alloc (.cells #[Value.int .i64 (kind : Int), tx table, tx join, .slice a1 n1 c1, .slice a2 n2 c2, .bool star, .slice a3 n3 c3, .slice a4 n4 c4, .slice a5 n5 c5, tx gt, tx gn, tx ot, tx on_, .bool desc, .int .i64 limit] 38)).alloc (.cells #[Value.int .i64 (kind : Int), tx table, tx join, .slice b1 n1 d1, .slice b2 n2 d2, .bool star, .slice b3 n3 d3, .slice b4 n4 d4, .slice b5 n5 d5, tx gt, tx gn, tx ot, tx on_, .bool desc, .int .i64 limit] 38)) ⟨w.heap.size + 1, 3, none⟩ = some (.slice b1 n1 d1) := Y0.out.cell 3
  go_wp2_with fail
  go_at_call 20
  refine (C1.out _ HA0.out).mono ?_
  rintro e w1 ⟨rfl, hb⟩
  have HA1 := Lib.hid (HA0.out.trans (hb.mono HA0.out.size))
  have Z1 := Lib.hid (Z0.out.below hb Z0.out.lt)
  have Y1 := Lib.hid (Y0.out.below hb Y0.out.lt)
  clear hb z0 y0 z1 y1 z2 y2 z3 y3 HA0 Z0 Y0
  have z4 : World.cell? w1 ⟨w.heap.size, 4, none⟩ = some (.slice a2 n2 c2) := Z1.out.cell 4
  have y4 : World.cell? w1 ⟨w.heap.size + 1, 4, none⟩ = some (.slice b2 n2 d2) := Y1.out.cell 4
  go_wp2_with fail
  go_at_call 21
  refine (C2.out _ HA1.out).mono ?_
  rintro e w2 ⟨rfl, hb⟩
  have HA2 := Lib.hid (HA1.out.trans (hb.mono HA1.out.size))
  have Z2 := Lib.hid (Z1.out.below hb Z1.out.lt)
  have Y2 := Lib.hid (Y1.out.below hb Y1.out.lt)
  clear hb z4 y4 HA1 Z1 Y1
  have z5 : World.cell? w2 ⟨w.heap.size, 5, none⟩ = some (.bool star) := Z2.out.cell 5
  have y5 : World.cell? w2 ⟨w.heap.size + 1, 5, none⟩ = some (.bool star) := Y2.out.cell 5
  have z6 : World.cell? w2 ⟨w.heap.size, 6, none⟩ = some (.slice a3 n3 c3) := Z2.out.cell 6
  have y6 : World.cell? w2 ⟨w.heap.size + 1, 6, none⟩ = some (.slice b3 n3 d3) := Y2.out.cell 6
  go_wp2_with fail
  go_at_call 23
  refine (C3.out _ HA2.out).mono ?_
  rintro e w3 ⟨rfl, hb⟩
  have HA3 := Lib.hid (HA2.out.trans (hb.mono HA2.out.size))
  have Z3 := Lib.hid (Z2.out.below hb Z2.out.lt)
  have Y3 := Lib.hid (Y2.out.below hb Y2.out.lt)
  clear hb z5 y5 z6 y6 HA2 Z2 Y2
  have z7 : World.cell? w3 ⟨w.heap.size, 7, none⟩ = some (.slice a4 n4 c4) := Z3.out.cell 7
  have y7 : World.cell? w3 ⟨w.heap.size + 1, 7, none⟩ = some (.slice b4 n4 d4) := Y3.out.cell 7
  go_wp2_with fail
  go_at_call 25
  refine (C4.out _ HA3.out).mono ?_
  rintro e w4 ⟨rfl, hb⟩
  have HA4 := Lib.hid (HA3.out.trans (hb.mono HA3.out.size))
  have Z4 := Lib.hid (Z3.out.below hb Z3.out.lt)
  have Y4 := Lib.hid (Y3.out.below hb Y3.out.lt)
  clear hb z7 y7 HA3 Z3 Y3
  have z8 : World.cell? w4 ⟨w.heap.size, 8, none⟩ = some (.slice a5 n5 c5) := Z4.out.cell 8
  have y8 : World.cell? w4 ⟨w.heap.size + 1, 8, none⟩ = some (.slice b5 n5 d5) := Y4.out.cell 8
  go_wp2_with fail
  go_at_call 25
  refine (C5.out _ HA4.out).mono ?_
  rintro e w5 ⟨rfl, hb⟩
  have HA5 := Lib.hid (HA4.out.trans (hb.mono HA4.out.size))
  have Z5 := Lib.hid (Z4.out.below hb Z4.out.lt)
  have Y5 := Lib.hid (Y4.out.below hb Y4.out.lt)
  clear hb z8 y8 HA4 Z4 Y4
  have z9 : World.cell? w5 ⟨w.heap.size, 9, none⟩ = some (tx gt) := Z5.out.cell 9
  have y9 : World.cell? w5 ⟨w.heap.size + 1, 9, none⟩ = some (tx gt) := Y5.out.cell 9
  have z10 : World.cell? w5 ⟨w.heap.size, 10, none⟩ = some (tx gn) := Z5.out.cell 10
  have y10 : World.cell? w5 ⟨w.heap.size + 1, 10, none⟩ = some (tx gn) := Y5.out.cell 10
  have z11 : World.cell? w5 ⟨w.heap.size, 11, none⟩ = some (tx ot) := Z5.out.cell 11
  have y11 : World.cell? w5 ⟨w.heap.size + 1, 11, none⟩ = some (tx ot) := Y5.out.cell 11
  have z12 : World.cell? w5 ⟨w.heap.size, 12, none⟩ = some (tx on_) := Z5.out.cell 12
  have y12 : World.cell? w5 ⟨w.heap.size + 1, 12, none⟩ = some (tx on_) := Y5.out.cell 12
  have z13 : World.cell? w5 ⟨w.heap.size, 13, none⟩ = some (.bool desc) := Z5.out.cell 13
  have y13 : World.cell? w5 ⟨w.heap.size + 1, 13, none⟩ = some (.bool desc) := Y5.out.cell 13
  have z14 : World.cell? w5 ⟨w.heap.size, 14, none⟩ = some (.int .i64 limit) := Z5.out.cell 14
  have y14 : World.cell? w5 ⟨w.heap.size + 1, 14, none⟩ = some (.int .i64 limit) := Y5.out.cell 14
  go_wp2_with fail
  go_ret
  exact ⟨rfl, HA5.out⟩
end Go.Proofs.YtiipglmbfgmbbaaGreatDoor
