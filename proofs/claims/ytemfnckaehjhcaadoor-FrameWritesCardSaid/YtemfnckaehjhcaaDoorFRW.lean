/-
  The law FrameWrites' walk: which messages may be, are the same, and their bytes.
-/
import Derived.Test.YtemfnckaehjhcaaDoorFG9
namespace Go.Proofs.YtemfnckaehjhcaaDoor
open Go.RowKit
attribute [local go_sem ↓] eqA neA eqGA field1

set_option maxRecDepth 100000 in
set_option maxHeartbeats 40000000 in
theorem writes_walk (xkind xfr xto xt xpi xpt xco : Int) (xok : Bool) (xA : Option Addr) (xn xc : Nat) (xA1 : Option Addr) (xn1 xc1 : Nat) (xA2 : Option Addr) (xn2 xc2 : Nat) (ykind yfr yto yt ypi ypt yco : Int) (yok : Bool) (yA : Option Addr) (yn yc : Nat) (yA1 : Option Addr) (yn1 yc1 : Nat) (yA2 : Option Addr) (yn2 yc2 : Nat) (xs ys : List Ec) (xmem xda ymem yda : List Int) (w : World) (hx : Min w w.heap.size xkind xfr xto xt xpi xpt xco xok xA xn xc xA1 xn1 xc1 xA2 xn2 xc2 xs xmem xda) (hy : Min w w.heap.size ykind yfr yto yt ypi ypt yco yok yA yn yc yA1 yn1 yc1 yA2 yn2 yc2 ys ymem yda) (xb : 0 ≤ xt ∧ xt < 18446744073709551616 ∧ 0 ≤ xpi ∧ xpi < 18446744073709551616 ∧ 0 ≤ xpt ∧ xpt < 18446744073709551616 ∧ 0 ≤ xco ∧ xco < 18446744073709551616) (yb : 0 ≤ yt ∧ yt < 18446744073709551616 ∧ 0 ≤ ypi ∧ ypi < 18446744073709551616 ∧ 0 ≤ ypt ∧ ypt < 18446744073709551616 ∧ 0 ≤ yco ∧ yco < 18446744073709551616) (hG : Bk.Gl w) :
    Calls Tryd.prog 3 #[.agg #[.int .i64 xkind, .int .i64 xfr, .int .i64 xto, .int .u64 xt, .int .u64 xpi, .int .u64 xpt, .slice xA xn xc, .int .u64 xco, .bool xok, .slice xA1 xn1 xc1, .slice xA2 xn2 xc2], .agg #[.int .i64 ykind, .int .i64 yfr, .int .i64 yto, .int .u64 yt, .int .u64 ypi, .int .u64 ypt, .slice yA yn yc, .int .u64 yco, .bool yok, .slice yA1 yn1 yc1, .slice yA2 yn2 yc2]] w fun e w' => e = .returned (.bool true) ∧ Below w.heap.size w w' := by
  have WK := Lib.hid (fun W (hW : Below w.heap.size w W) => wakes_any W (hG.on hW))
  have GLH := Lib.hid hG
  have HX := Lib.hid (fun W (hW : Below w.heap.size w W) => few_any xkind xfr xto xt xpi xpt xco xok xA xn xc xA1 xn1 xc1 xA2 xn2 xc2 xs xmem xda w.heap.size W (hx.below hW) hW.size)
  have HY := Lib.hid (fun W (hW : Below w.heap.size w W) => few_any ykind yfr yto yt ypi ypt yco yok yA yn yc yA1 yn1 yc1 yA2 yn2 yc2 ys ymem yda w.heap.size W (hy.below hW) hW.size)
  have MX := Lib.hid (few_mb xkind xfr xto xt xpi xpt xco xok (xs.map Ec.en) xmem xda xb)
  have MY := Lib.hid (few_mb ykind yfr yto yt ypi ypt yco yok (ys.map Ec.en) ymem yda yb)
  generalize fewM ⟨xkind, xfr, xto, xt, xpi, xpt, xs.map Ec.en, xco, xok, xmem, xda⟩ = mx at *
  generalize fewM ⟨ykind, yfr, yto, yt, ypi, ypt, ys.map Ec.en, yco, yok, ymem, yda⟩ = my at *
  have X := Lib.hid (Bt.new_ w xkind xfr xto xt xpi xpt xco xok xA xn xc xA1 xn1 xc1 xA2 xn2 xc2 ykind yfr yto yt ypi ypt yco yok yA yn yc yA1 yn1 yc1 yA2 yn2 yc2)
  clear hx hy hG xb yb
  go_enter Tryd.func3, Tryd.ntmps3
  go_upto_region 1 with (fail)
  generalize (w.alloc (.cells #[.int .i64 xkind, .int .i64 xfr, .int .i64 xto, .int .u64 xt, .int .u64 xpi, .int .u64 xpt, .slice xA xn xc, .int .u64 xco, .bool xok, .slice xA1 xn1 xc1, .slice xA2 xn2 xc2] 31)).alloc (.cells #[.int .i64 ykind, .int .i64 yfr, .int .i64 yto, .int .u64 yt, .int .u64 ypi, .int .u64 ypt, .slice yA yn yc, .int .u64 yco, .bool yok, .slice yA1 yn1 yc1, .slice yA2 yn2 yc2] 31) = W at *
  have D0 := X.out
  clear X
  go_upto_region 3 with (go_at_call 8; refine (WK.out _ D0.bel).mono ?_; rintro e w1 ⟨rfl, hb⟩; have D1 := D0.on hb; clear hb)
  obtain ⟨d0, d1, d2, d3, d4, d5, d6, d7, d8, d9, d10, d11, d12, d13, d14, d15, d16, d17, d18, d19, d20, d21⟩ := D1.cells
  go_upto_region 4 with (fail)
  have I0 := ix33_0 xkind xfr xto xt xpi xpt xco ykind yfr yto yt ypi ypt yco xok yok xA xA1 xA2 yA yA1 yA2 xn xc xn1 xc1 xn2 xc2 yn yc yn1 yc1 yn2 yc2
  have I1 := ix33_1 xkind xfr xto xt xpi xpt xco ykind yfr yto yt ypi ypt yco xok yok xA xA1 xA2 yA yA1 yA2 xn xc xn1 xc1 xn2 xc2 yn yc yn1 yc1 yn2 yc2
  go_loopw [18] (fun i wr => (i = .int .i64 0 ∨ i = .int .i64 1 ∨ i = .int .i64 2) ∧ Hid (Below w1.heap.size w1 wr)) (fun i _ => 2 - (intOf i).toNat)
  case atStart => exact ⟨.inl rfl, Lib.hid (Below.refl _ _)⟩
  case round =>
    obtain ⟨hi, IB⟩ := hrel
    have D2 := D1.on IB.out
    clear d0 d1 d2 d3 d4 d5 d6 d7 d8 d9 d10 d11 d12 d13 d14 d15 d16 d17 d18 d19 d20 d21
    obtain ⟨d0, d1, d2, d3, d4, d5, d6, d7, d8, d9, d10, d11, d12, d13, d14, d15, d16, d17, d18, d19, d20, d21⟩ := D2.cells
    rcases hi with rfl | rfl | rfl
    · go_upto_region 6 with (fail)
      have XB0 := Lib.hid (Bx.new_ xkind xfr xto xt xpi xpt xco xok xA xn xc xA1 xn1 xc1 xA2 xn2 xc2 wr).drew
      have FW := Lib.hid (fun W (hW : Below wr.heap.size wr W) => HX.out W (D2.bel.trans (hW.mono D2.bel.size)))
      go_cut [7, 8] from 21 to 25 (fun v7 v8 wx => Two wr mx v7 v8 wx)
      case first =>
        refine wp_region_noPanic ?_
        refine wp_region_held_drew (S := fun w' => w'.cell? ⟨wr.heap.size, 0, none⟩ = some (.int .i64 xkind) ∧ w'.cell? ⟨wr.heap.size, 1, none⟩ = some (.int .i64 xfr) ∧ w'.cell? ⟨wr.heap.size, 2, none⟩ = some (.int .i64 xto) ∧ w'.cell? ⟨wr.heap.size, 3, none⟩ = some (.int .u64 xt) ∧ w'.cell? ⟨wr.heap.size, 4, none⟩ = some (.int .u64 xpi) ∧ w'.cell? ⟨wr.heap.size, 5, none⟩ = some (.int .u64 xpt) ∧ w'.cell? ⟨wr.heap.size, 6, none⟩ = some (.slice xA xn xc) ∧ w'.cell? ⟨wr.heap.size, 7, none⟩ = some (.int .u64 xco) ∧ w'.cell? ⟨wr.heap.size, 8, none⟩ = some (.bool xok) ∧ w'.cell? ⟨wr.heap.size, 9, none⟩ = some (.slice xA1 xn1 xc1) ∧ w'.cell? ⟨wr.heap.size, 10, none⟩ = some (.slice xA2 xn2 xc2)) (by kernel_rfl) XB0.out.cells (fun hHeld => ?_)
        generalize (wr.alloc (.cells #[.int .i64 xkind, .int .i64 xfr, .int .i64 xto, .int .u64 xt, .int .u64 xpi, .int .u64 xpt, .slice xA xn xc, .int .u64 xco, .bool xok, .slice xA1 xn1 xc1, .slice xA2 xn2 xc2] 31)).drew = v0 at *
        refine take_d (i := 0) (d := 21) (v := .agg #[.int .i64 xkind, .int .i64 xfr, .int .i64 xto, .int .u64 xt, .int .u64 xpi, .int .u64 xpt, .slice xA xn xc, .int .u64 xco, .bool xok, .slice xA1 xn1 xc1, .slice xA2 xn2 xc2]) rfl rfl (by kernel_rfl) (by kernel_rfl) (by kernel_rfl) (fun _ _ _ h => h) (Or.inl ⟨by kernel_rfl, ?z1h⟩) hHeld ?_
        case z1h => (intro w hSw; (try dsimp only at hSw); go_split_ands; go_simp)
        try simp only [Act.put, List.setIfInBounds_toArray, List.set_cons_zero, List.set_cons_succ]
        refine take_d (i := 2) (d := 23) (v := .agg #[.int .i64 xkind, .int .i64 xfr, .int .i64 xto, .int .u64 xt, .int .u64 xpi, .int .u64 xpt, .slice xA xn xc, .int .u64 xco, .bool xok, .slice xA1 xn1 xc1, .slice xA2 xn2 xc2]) rfl rfl (by kernel_rfl) (by kernel_rfl) (by kernel_rfl) (fun _ _ _ h => h) (Or.inl ⟨by kernel_rfl, ?z2h⟩) hHeld ?_
        case z2h => (intro w hSw; (try dsimp only at hSw); go_split_ands; go_simp)
        try simp only [Act.put, List.setIfInBounds_toArray, List.set_cons_zero, List.set_cons_succ]
        refine wpAnyH_ready (rs := [1, 4, 5]) (by kernel_rfl) (by simp) ?_
        refine AllReadyH.cons rfl (fun K hK => ?_) (AllReadyH.cons rfl (fun K hK => ?_) (AllReadyH.cons rfl (fun K hK => ?_) AllReadyH.nil))
        · skip
          go_simp
          refine (FW.out _ XB0.out.bel).mono ?_
          rintro e v1 ⟨qA, qn, qc, qA1, qn1, qc1, qA2, qn2, qc2, rfl, pe, pi_, po, hb⟩
          have XB1 := Lib.hid (XB0.out.on hb)
          have RQ1 : Hid (Rw v1 mx qA qn qc qA1 qn1 qc1 qA2 qn2 qc2) := Lib.hid ⟨pe.down (Nat.zero_le _), World.ownsRow.down pi_ (Nat.zero_le _), po.down (Nat.zero_le _)⟩
          clear pe pi_ po hb
          refine hK.out _ _ XB1.out.cells (fun hHeld => ?_)
          clear hK K
          try simp only [Act.put, List.setIfInBounds_toArray, List.set_cons_zero, List.set_cons_succ]
          refine wpAnyH_ready (rs := [3, 4, 5]) (by kernel_rfl) (by simp) ?_
          refine AllReadyH.cons rfl (fun K hK => ?_) (AllReadyH.cons rfl (fun K hK => ?_) (AllReadyH.cons rfl (fun K hK => ?_) AllReadyH.nil))
          · skip
            go_simp
            refine (FW.out _ XB1.out.bel).mono ?_
            rintro e v2 ⟨rA, rn, rc, rA1, rn1, rc1, rA2, rn2, rc2, rfl, pe, pi_, po, hb⟩
            have XB2 := Lib.hid (XB1.out.on hb)
            have RQ2 := Lib.hid (RQ1.out.below hb)
            have RR2 : Hid (Rw v2 mx rA rn rc rA1 rn1 rc1 rA2 rn2 rc2) := Lib.hid ⟨pe.down (Nat.zero_le _), World.ownsRow.down pi_ (Nat.zero_le _), po.down (Nat.zero_le _)⟩
            clear pe pi_ po hb
            refine hK.out _ _ XB2.out.cells (fun hHeld => ?_)
            clear hK K
            try simp only [Act.put, List.setIfInBounds_toArray, List.set_cons_zero, List.set_cons_succ]
            refine wpAnyH_ready (rs := [4, 5]) (by kernel_rfl) (by simp) ?_
            refine AllReadyH.cons rfl (fun K hK => ?_) (AllReadyH.cons rfl (fun K hK => ?_) AllReadyH.nil)
            · skip
              go_simp
              have hbb : Below v2.heap.size v2 (v2.alloc (.cells #[.int .i64 0, .int .i64 0, .int .i64 0, .int .u64 0, .int .u64 0, .int .u64 0, .slice none 0 0, .int .u64 0, .bool false, .slice none 0 0, .slice none 0 0] 31)) := (Below.refl _ _).alloc (Nat.le_refl _) _
              have XB3 := Lib.hid (XB2.out.on hbb)
              have A7_3 : Hid (Blk (v2.alloc (.cells #[.int .i64 0, .int .i64 0, .int .i64 0, .int .u64 0, .int .u64 0, .int .u64 0, .slice none 0 0, .int .u64 0, .bool false, .slice none 0 0, .slice none 0 0] 31)) v2.heap.size 31 #[.int .i64 0, .int .i64 0, .int .i64 0, .int .u64 0, .int .u64 0, .int .u64 0, .slice none 0 0, .int .u64 0, .bool false, .slice none 0 0, .slice none 0 0]) := Lib.hid (Blk.new _ _ _)
              have Gp7 : Hid (wr.heap.size < v2.heap.size) := Lib.hid XB2.out.blk.lt
              have RQ3 := Lib.hid (RQ2.out.below hbb)
              have RR3 := Lib.hid (RR2.out.below hbb)
              refine hK.out _ _ XB3.out.cells (fun hHeld => ?_)
              clear hK K hbb
              generalize (v2.alloc (.cells #[.int .i64 0, .int .i64 0, .int .i64 0, .int .u64 0, .int .u64 0, .int .u64 0, .slice none 0 0, .int .u64 0, .bool false, .slice none 0 0, .slice none 0 0] 31)) = v3 at *
              generalize v2.heap.size = p7 at *
              try simp only [Act.put, List.setIfInBounds_toArray, List.set_cons_zero, List.set_cons_succ]
              refine wpAnyH_ready (rs := [5]) (by kernel_rfl) (by simp) ?_
              refine AllReadyH.cons rfl (fun K hK => ?_) AllReadyH.nil
              go_simp
              have hbb : Below v3.heap.size v3 (v3.alloc (.cells #[.int .i64 0, .int .i64 0, .int .i64 0, .int .u64 0, .int .u64 0, .int .u64 0, .slice none 0 0, .int .u64 0, .bool false, .slice none 0 0, .slice none 0 0] 31)) := (Below.refl _ _).alloc (Nat.le_refl _) _
              have XB4 := Lib.hid (XB3.out.on hbb)
              have A8_4 : Hid (Blk (v3.alloc (.cells #[.int .i64 0, .int .i64 0, .int .i64 0, .int .u64 0, .int .u64 0, .int .u64 0, .slice none 0 0, .int .u64 0, .bool false, .slice none 0 0, .slice none 0 0] 31)) v3.heap.size 31 #[.int .i64 0, .int .i64 0, .int .i64 0, .int .u64 0, .int .u64 0, .int .u64 0, .slice none 0 0, .int .u64 0, .bool false, .slice none 0 0, .slice none 0 0]) := Lib.hid (Blk.new _ _ _)
              have Gp8 : Hid (wr.heap.size < v3.heap.size) := Lib.hid XB3.out.blk.lt
              have NE : Hid (p7 < v3.heap.size) := Lib.hid A7_3.out.lt
              have RQ4 := Lib.hid (RQ3.out.below hbb)
              have RR4 := Lib.hid (RR3.out.below hbb)
              have A7_4 := Lib.hid (A7_3.out.below hbb A7_3.out.lt)
              refine hK.out _ _ XB4.out.cells (fun hHeld => ?_)
              clear hK K hbb
              generalize (v3.alloc (.cells #[.int .i64 0, .int .i64 0, .int .i64 0, .int .u64 0, .int .u64 0, .int .u64 0, .slice none 0 0, .int .u64 0, .bool false, .slice none 0 0, .slice none 0 0] 31)) = v4 at *
              generalize v3.heap.size = p8 at *
              try simp only [Act.put, List.setIfInBounds_toArray, List.set_cons_zero, List.set_cons_succ]
              refine wpAnyH_ready (rs := [6]) (by kernel_rfl) (by simp) ?_
              refine AllReadyH.cons rfl (fun K hK => ?_) AllReadyH.nil
              refine wp_store_nine rfl 31 _ _ rfl p7 #[.int .i64 0, .int .i64 0, .int .i64 0, .int .u64 0, .int .u64 0, .int .u64 0, .slice none 0 0, .int .u64 0, .bool false, .slice none 0 0, .slice none 0 0] 31 [.int .i64 mx.kind, .int .i64 mx.fr, .int .i64 mx.to, .int .u64 mx.t, .int .u64 mx.pi, .int .u64 mx.pt, .slice qA qn qc, .int .u64 mx.co, .bool mx.ok, .slice qA1 qn1 qc1, .slice qA2 qn2 qc2] rfl rfl A7_4.out rfl Tryd.i31 (by simp [Value.oneCell']) ?_
              intro v5 hb7 ho7
              have XB5 : Hid (Bx wr wr.heap.size xkind xfr xto xt xpi xpt xco xok xA xn xc xA1 xn1 xc1 xA2 xn2 xc2 v5) := Lib.hid ⟨ho7.keep XB4.out.blk (by have := Gp7.out; omega), XB4.out.bel.trans (ho7.below (by have := Gp7.out; omega)), XB4.out.low⟩
              have RQ5 := Lib.hid (RQ4.out.only A7_4.out ho7)
              have RR5 := Lib.hid (RR4.out.only A7_4.out ho7)
              have A8_5 := Lib.hid (ho7.keep A8_4.out (by have := NE.out; omega))
              have A7_5 : Hid (Blk v5 p7 31 #[.int .i64 mx.kind, .int .i64 mx.fr, .int .i64 mx.to, .int .u64 mx.t, .int .u64 mx.pi, .int .u64 mx.pt, .slice qA qn qc, .int .u64 mx.co, .bool mx.ok, .slice qA1 qn1 qc1, .slice qA2 qn2 qc2]) := Lib.hid hb7
              clear hb7 ho7
              refine hK.out _ _ XB5.out.cells (fun hHeld => ?_)
              clear hK K
              try simp only [Act.put, List.setIfInBounds_toArray, List.set_cons_zero, List.set_cons_succ]
              refine wpAnyH_ready (rs := [7]) (by kernel_rfl) (by simp) ?_
              refine AllReadyH.cons rfl (fun K hK => ?_) AllReadyH.nil
              refine wp_store_nine rfl 31 _ _ rfl p8 #[.int .i64 0, .int .i64 0, .int .i64 0, .int .u64 0, .int .u64 0, .int .u64 0, .slice none 0 0, .int .u64 0, .bool false, .slice none 0 0, .slice none 0 0] 31 [.int .i64 mx.kind, .int .i64 mx.fr, .int .i64 mx.to, .int .u64 mx.t, .int .u64 mx.pi, .int .u64 mx.pt, .slice rA rn rc, .int .u64 mx.co, .bool mx.ok, .slice rA1 rn1 rc1, .slice rA2 rn2 rc2] rfl rfl A8_5.out rfl Tryd.i31 (by simp [Value.oneCell']) ?_
              intro v6 hb7 ho7
              have XB6 : Hid (Bx wr wr.heap.size xkind xfr xto xt xpi xpt xco xok xA xn xc xA1 xn1 xc1 xA2 xn2 xc2 v6) := Lib.hid ⟨ho7.keep XB5.out.blk (by have := Gp8.out; omega), XB5.out.bel.trans (ho7.below (by have := Gp8.out; omega)), XB5.out.low⟩
              have RQ6 := Lib.hid (RQ5.out.only A8_5.out ho7)
              have RR6 := Lib.hid (RR5.out.only A8_5.out ho7)
              have A7_6 := Lib.hid (ho7.keep A7_5.out (by have := NE.out; omega))
              have A8_6 : Hid (Blk v6 p8 31 #[.int .i64 mx.kind, .int .i64 mx.fr, .int .i64 mx.to, .int .u64 mx.t, .int .u64 mx.pi, .int .u64 mx.pt, .slice rA rn rc, .int .u64 mx.co, .bool mx.ok, .slice rA1 rn1 rc1, .slice rA2 rn2 rc2]) := Lib.hid hb7
              clear hb7 ho7
              refine hK.out _ _ XB6.out.cells (fun hHeld => ?_)
              clear hK K
              try simp only [Act.put, List.setIfInBounds_toArray, List.set_cons_zero, List.set_cons_succ]
              refine wpAnyH_done (by kernel_rfl) ?_ _
              refine NoPanic.normal ?_
              go_wp2_with fail
              go_meet
              case rel => exact ⟨p7, p8, qA, qn, qc, qA1, qn1, qc1, qA2, qn2, qc2, rA, rn, rc, rA1, rn1, rc1, rA2, rn2, rc2, rfl, rfl, by have := NE.out; omega, by have := Gp7.out; omega, by have := Gp8.out; omega, A7_6.out, A8_6.out, RQ6.out, RR6.out, XB6.out.bel⟩
            · skip
              go_simp
              have hbb : Below v2.heap.size v2 (v2.alloc (.cells #[.int .i64 0, .int .i64 0, .int .i64 0, .int .u64 0, .int .u64 0, .int .u64 0, .slice none 0 0, .int .u64 0, .bool false, .slice none 0 0, .slice none 0 0] 31)) := (Below.refl _ _).alloc (Nat.le_refl _) _
              have XB3 := Lib.hid (XB2.out.on hbb)
              have A8_3 : Hid (Blk (v2.alloc (.cells #[.int .i64 0, .int .i64 0, .int .i64 0, .int .u64 0, .int .u64 0, .int .u64 0, .slice none 0 0, .int .u64 0, .bool false, .slice none 0 0, .slice none 0 0] 31)) v2.heap.size 31 #[.int .i64 0, .int .i64 0, .int .i64 0, .int .u64 0, .int .u64 0, .int .u64 0, .slice none 0 0, .int .u64 0, .bool false, .slice none 0 0, .slice none 0 0]) := Lib.hid (Blk.new _ _ _)
              have Gp8 : Hid (wr.heap.size < v2.heap.size) := Lib.hid XB2.out.blk.lt
              have RQ3 := Lib.hid (RQ2.out.below hbb)
              have RR3 := Lib.hid (RR2.out.below hbb)
              refine hK.out _ _ XB3.out.cells (fun hHeld => ?_)
              clear hK K hbb
              generalize (v2.alloc (.cells #[.int .i64 0, .int .i64 0, .int .i64 0, .int .u64 0, .int .u64 0, .int .u64 0, .slice none 0 0, .int .u64 0, .bool false, .slice none 0 0, .slice none 0 0] 31)) = v3 at *
              generalize v2.heap.size = p8 at *
              try simp only [Act.put, List.setIfInBounds_toArray, List.set_cons_zero, List.set_cons_succ]
              refine wpAnyH_ready (rs := [4]) (by kernel_rfl) (by simp) ?_
              refine AllReadyH.cons rfl (fun K hK => ?_) AllReadyH.nil
              go_simp
              have hbb : Below v3.heap.size v3 (v3.alloc (.cells #[.int .i64 0, .int .i64 0, .int .i64 0, .int .u64 0, .int .u64 0, .int .u64 0, .slice none 0 0, .int .u64 0, .bool false, .slice none 0 0, .slice none 0 0] 31)) := (Below.refl _ _).alloc (Nat.le_refl _) _
              have XB4 := Lib.hid (XB3.out.on hbb)
              have A7_4 : Hid (Blk (v3.alloc (.cells #[.int .i64 0, .int .i64 0, .int .i64 0, .int .u64 0, .int .u64 0, .int .u64 0, .slice none 0 0, .int .u64 0, .bool false, .slice none 0 0, .slice none 0 0] 31)) v3.heap.size 31 #[.int .i64 0, .int .i64 0, .int .i64 0, .int .u64 0, .int .u64 0, .int .u64 0, .slice none 0 0, .int .u64 0, .bool false, .slice none 0 0, .slice none 0 0]) := Lib.hid (Blk.new _ _ _)
              have Gp7 : Hid (wr.heap.size < v3.heap.size) := Lib.hid XB3.out.blk.lt
              have NE : Hid (p8 < v3.heap.size) := Lib.hid A8_3.out.lt
              have RQ4 := Lib.hid (RQ3.out.below hbb)
              have RR4 := Lib.hid (RR3.out.below hbb)
              have A8_4 := Lib.hid (A8_3.out.below hbb A8_3.out.lt)
              refine hK.out _ _ XB4.out.cells (fun hHeld => ?_)
              clear hK K hbb
              generalize (v3.alloc (.cells #[.int .i64 0, .int .i64 0, .int .i64 0, .int .u64 0, .int .u64 0, .int .u64 0, .slice none 0 0, .int .u64 0, .bool false, .slice none 0 0, .slice none 0 0] 31)) = v4 at *
              generalize v3.heap.size = p7 at *
              try simp only [Act.put, List.setIfInBounds_toArray, List.set_cons_zero, List.set_cons_succ]
              refine wpAnyH_ready (rs := [6]) (by kernel_rfl) (by simp) ?_
              refine AllReadyH.cons rfl (fun K hK => ?_) AllReadyH.nil
              refine wp_store_nine rfl 31 _ _ rfl p7 #[.int .i64 0, .int .i64 0, .int .i64 0, .int .u64 0, .int .u64 0, .int .u64 0, .slice none 0 0, .int .u64 0, .bool false, .slice none 0 0, .slice none 0 0] 31 [.int .i64 mx.kind, .int .i64 mx.fr, .int .i64 mx.to, .int .u64 mx.t, .int .u64 mx.pi, .int .u64 mx.pt, .slice qA qn qc, .int .u64 mx.co, .bool mx.ok, .slice qA1 qn1 qc1, .slice qA2 qn2 qc2] rfl rfl A7_4.out rfl Tryd.i31 (by simp [Value.oneCell']) ?_
              intro v5 hb7 ho7
              have XB5 : Hid (Bx wr wr.heap.size xkind xfr xto xt xpi xpt xco xok xA xn xc xA1 xn1 xc1 xA2 xn2 xc2 v5) := Lib.hid ⟨ho7.keep XB4.out.blk (by have := Gp7.out; omega), XB4.out.bel.trans (ho7.below (by have := Gp7.out; omega)), XB4.out.low⟩
              have RQ5 := Lib.hid (RQ4.out.only A7_4.out ho7)
              have RR5 := Lib.hid (RR4.out.only A7_4.out ho7)
              have A8_5 := Lib.hid (ho7.keep A8_4.out (by have := NE.out; omega))
              have A7_5 : Hid (Blk v5 p7 31 #[.int .i64 mx.kind, .int .i64 mx.fr, .int .i64 mx.to, .int .u64 mx.t, .int .u64 mx.pi, .int .u64 mx.pt, .slice qA qn qc, .int .u64 mx.co, .bool mx.ok, .slice qA1 qn1 qc1, .slice qA2 qn2 qc2]) := Lib.hid hb7
              clear hb7 ho7
              refine hK.out _ _ XB5.out.cells (fun hHeld => ?_)
              clear hK K
              try simp only [Act.put, List.setIfInBounds_toArray, List.set_cons_zero, List.set_cons_succ]
              refine wpAnyH_ready (rs := [7]) (by kernel_rfl) (by simp) ?_
              refine AllReadyH.cons rfl (fun K hK => ?_) AllReadyH.nil
              refine wp_store_nine rfl 31 _ _ rfl p8 #[.int .i64 0, .int .i64 0, .int .i64 0, .int .u64 0, .int .u64 0, .int .u64 0, .slice none 0 0, .int .u64 0, .bool false, .slice none 0 0, .slice none 0 0] 31 [.int .i64 mx.kind, .int .i64 mx.fr, .int .i64 mx.to, .int .u64 mx.t, .int .u64 mx.pi, .int .u64 mx.pt, .slice rA rn rc, .int .u64 mx.co, .bool mx.ok, .slice rA1 rn1 rc1, .slice rA2 rn2 rc2] rfl rfl A8_5.out rfl Tryd.i31 (by simp [Value.oneCell']) ?_
              intro v6 hb7 ho7
              have XB6 : Hid (Bx wr wr.heap.size xkind xfr xto xt xpi xpt xco xok xA xn xc xA1 xn1 xc1 xA2 xn2 xc2 v6) := Lib.hid ⟨ho7.keep XB5.out.blk (by have := Gp8.out; omega), XB5.out.bel.trans (ho7.below (by have := Gp8.out; omega)), XB5.out.low⟩
              have RQ6 := Lib.hid (RQ5.out.only A8_5.out ho7)
              have RR6 := Lib.hid (RR5.out.only A8_5.out ho7)
              have A7_6 := Lib.hid (ho7.keep A7_5.out (by have := NE.out; omega))
              have A8_6 : Hid (Blk v6 p8 31 #[.int .i64 mx.kind, .int .i64 mx.fr, .int .i64 mx.to, .int .u64 mx.t, .int .u64 mx.pi, .int .u64 mx.pt, .slice rA rn rc, .int .u64 mx.co, .bool mx.ok, .slice rA1 rn1 rc1, .slice rA2 rn2 rc2]) := Lib.hid hb7
              clear hb7 ho7
              refine hK.out _ _ XB6.out.cells (fun hHeld => ?_)
              clear hK K
              try simp only [Act.put, List.setIfInBounds_toArray, List.set_cons_zero, List.set_cons_succ]
              refine wpAnyH_done (by kernel_rfl) ?_ _
              refine NoPanic.normal ?_
              go_wp2_with fail
              go_meet
              case rel => exact ⟨p7, p8, qA, qn, qc, qA1, qn1, qc1, qA2, qn2, qc2, rA, rn, rc, rA1, rn1, rc1, rA2, rn2, rc2, rfl, rfl, by have := NE.out; omega, by have := Gp7.out; omega, by have := Gp8.out; omega, A7_6.out, A8_6.out, RQ6.out, RR6.out, XB6.out.bel⟩
          · skip
            go_simp
            have hbb : Below v1.heap.size v1 (v1.alloc (.cells #[.int .i64 0, .int .i64 0, .int .i64 0, .int .u64 0, .int .u64 0, .int .u64 0, .slice none 0 0, .int .u64 0, .bool false, .slice none 0 0, .slice none 0 0] 31)) := (Below.refl _ _).alloc (Nat.le_refl _) _
            have XB2 := Lib.hid (XB1.out.on hbb)
            have A7_2 : Hid (Blk (v1.alloc (.cells #[.int .i64 0, .int .i64 0, .int .i64 0, .int .u64 0, .int .u64 0, .int .u64 0, .slice none 0 0, .int .u64 0, .bool false, .slice none 0 0, .slice none 0 0] 31)) v1.heap.size 31 #[.int .i64 0, .int .i64 0, .int .i64 0, .int .u64 0, .int .u64 0, .int .u64 0, .slice none 0 0, .int .u64 0, .bool false, .slice none 0 0, .slice none 0 0]) := Lib.hid (Blk.new _ _ _)
            have Gp7 : Hid (wr.heap.size < v1.heap.size) := Lib.hid XB1.out.blk.lt
            have RQ2 := Lib.hid (RQ1.out.below hbb)
            refine hK.out _ _ XB2.out.cells (fun hHeld => ?_)
            clear hK K hbb
            generalize (v1.alloc (.cells #[.int .i64 0, .int .i64 0, .int .i64 0, .int .u64 0, .int .u64 0, .int .u64 0, .slice none 0 0, .int .u64 0, .bool false, .slice none 0 0, .slice none 0 0] 31)) = v2 at *
            generalize v1.heap.size = p7 at *
            try simp only [Act.put, List.setIfInBounds_toArray, List.set_cons_zero, List.set_cons_succ]
            refine wpAnyH_ready (rs := [3, 5]) (by kernel_rfl) (by simp) ?_
            refine AllReadyH.cons rfl (fun K hK => ?_) (AllReadyH.cons rfl (fun K hK => ?_) AllReadyH.nil)
            · skip
              go_simp
              refine (FW.out _ XB2.out.bel).mono ?_
              rintro e v3 ⟨rA, rn, rc, rA1, rn1, rc1, rA2, rn2, rc2, rfl, pe, pi_, po, hb⟩
              have XB3 := Lib.hid (XB2.out.on hb)
              have RQ3 := Lib.hid (RQ2.out.below hb)
              have A7_3 := Lib.hid (A7_2.out.below hb A7_2.out.lt)
              have RR3 : Hid (Rw v3 mx rA rn rc rA1 rn1 rc1 rA2 rn2 rc2) := Lib.hid ⟨pe.down (Nat.zero_le _), World.ownsRow.down pi_ (Nat.zero_le _), po.down (Nat.zero_le _)⟩
              clear pe pi_ po hb
              refine hK.out _ _ XB3.out.cells (fun hHeld => ?_)
              clear hK K
              try simp only [Act.put, List.setIfInBounds_toArray, List.set_cons_zero, List.set_cons_succ]
              refine wpAnyH_ready (rs := [5]) (by kernel_rfl) (by simp) ?_
              refine AllReadyH.cons rfl (fun K hK => ?_) AllReadyH.nil
              go_simp
              have hbb : Below v3.heap.size v3 (v3.alloc (.cells #[.int .i64 0, .int .i64 0, .int .i64 0, .int .u64 0, .int .u64 0, .int .u64 0, .slice none 0 0, .int .u64 0, .bool false, .slice none 0 0, .slice none 0 0] 31)) := (Below.refl _ _).alloc (Nat.le_refl _) _
              have XB4 := Lib.hid (XB3.out.on hbb)
              have A8_4 : Hid (Blk (v3.alloc (.cells #[.int .i64 0, .int .i64 0, .int .i64 0, .int .u64 0, .int .u64 0, .int .u64 0, .slice none 0 0, .int .u64 0, .bool false, .slice none 0 0, .slice none 0 0] 31)) v3.heap.size 31 #[.int .i64 0, .int .i64 0, .int .i64 0, .int .u64 0, .int .u64 0, .int .u64 0, .slice none 0 0, .int .u64 0, .bool false, .slice none 0 0, .slice none 0 0]) := Lib.hid (Blk.new _ _ _)
              have Gp8 : Hid (wr.heap.size < v3.heap.size) := Lib.hid XB3.out.blk.lt
              have NE : Hid (p7 < v3.heap.size) := Lib.hid A7_3.out.lt
              have RQ4 := Lib.hid (RQ3.out.below hbb)
              have RR4 := Lib.hid (RR3.out.below hbb)
              have A7_4 := Lib.hid (A7_3.out.below hbb A7_3.out.lt)
              refine hK.out _ _ XB4.out.cells (fun hHeld => ?_)
              clear hK K hbb
              generalize (v3.alloc (.cells #[.int .i64 0, .int .i64 0, .int .i64 0, .int .u64 0, .int .u64 0, .int .u64 0, .slice none 0 0, .int .u64 0, .bool false, .slice none 0 0, .slice none 0 0] 31)) = v4 at *
              generalize v3.heap.size = p8 at *
              try simp only [Act.put, List.setIfInBounds_toArray, List.set_cons_zero, List.set_cons_succ]
              refine wpAnyH_ready (rs := [6]) (by kernel_rfl) (by simp) ?_
              refine AllReadyH.cons rfl (fun K hK => ?_) AllReadyH.nil
              refine wp_store_nine rfl 31 _ _ rfl p7 #[.int .i64 0, .int .i64 0, .int .i64 0, .int .u64 0, .int .u64 0, .int .u64 0, .slice none 0 0, .int .u64 0, .bool false, .slice none 0 0, .slice none 0 0] 31 [.int .i64 mx.kind, .int .i64 mx.fr, .int .i64 mx.to, .int .u64 mx.t, .int .u64 mx.pi, .int .u64 mx.pt, .slice qA qn qc, .int .u64 mx.co, .bool mx.ok, .slice qA1 qn1 qc1, .slice qA2 qn2 qc2] rfl rfl A7_4.out rfl Tryd.i31 (by simp [Value.oneCell']) ?_
              intro v5 hb7 ho7
              have XB5 : Hid (Bx wr wr.heap.size xkind xfr xto xt xpi xpt xco xok xA xn xc xA1 xn1 xc1 xA2 xn2 xc2 v5) := Lib.hid ⟨ho7.keep XB4.out.blk (by have := Gp7.out; omega), XB4.out.bel.trans (ho7.below (by have := Gp7.out; omega)), XB4.out.low⟩
              have RQ5 := Lib.hid (RQ4.out.only A7_4.out ho7)
              have RR5 := Lib.hid (RR4.out.only A7_4.out ho7)
              have A8_5 := Lib.hid (ho7.keep A8_4.out (by have := NE.out; omega))
              have A7_5 : Hid (Blk v5 p7 31 #[.int .i64 mx.kind, .int .i64 mx.fr, .int .i64 mx.to, .int .u64 mx.t, .int .u64 mx.pi, .int .u64 mx.pt, .slice qA qn qc, .int .u64 mx.co, .bool mx.ok, .slice qA1 qn1 qc1, .slice qA2 qn2 qc2]) := Lib.hid hb7
              clear hb7 ho7
              refine hK.out _ _ XB5.out.cells (fun hHeld => ?_)
              clear hK K
              try simp only [Act.put, List.setIfInBounds_toArray, List.set_cons_zero, List.set_cons_succ]
              refine wpAnyH_ready (rs := [7]) (by kernel_rfl) (by simp) ?_
              refine AllReadyH.cons rfl (fun K hK => ?_) AllReadyH.nil
              refine wp_store_nine rfl 31 _ _ rfl p8 #[.int .i64 0, .int .i64 0, .int .i64 0, .int .u64 0, .int .u64 0, .int .u64 0, .slice none 0 0, .int .u64 0, .bool false, .slice none 0 0, .slice none 0 0] 31 [.int .i64 mx.kind, .int .i64 mx.fr, .int .i64 mx.to, .int .u64 mx.t, .int .u64 mx.pi, .int .u64 mx.pt, .slice rA rn rc, .int .u64 mx.co, .bool mx.ok, .slice rA1 rn1 rc1, .slice rA2 rn2 rc2] rfl rfl A8_5.out rfl Tryd.i31 (by simp [Value.oneCell']) ?_
              intro v6 hb7 ho7
              have XB6 : Hid (Bx wr wr.heap.size xkind xfr xto xt xpi xpt xco xok xA xn xc xA1 xn1 xc1 xA2 xn2 xc2 v6) := Lib.hid ⟨ho7.keep XB5.out.blk (by have := Gp8.out; omega), XB5.out.bel.trans (ho7.below (by have := Gp8.out; omega)), XB5.out.low⟩
              have RQ6 := Lib.hid (RQ5.out.only A8_5.out ho7)
              have RR6 := Lib.hid (RR5.out.only A8_5.out ho7)
              have A7_6 := Lib.hid (ho7.keep A7_5.out (by have := NE.out; omega))
              have A8_6 : Hid (Blk v6 p8 31 #[.int .i64 mx.kind, .int .i64 mx.fr, .int .i64 mx.to, .int .u64 mx.t, .int .u64 mx.pi, .int .u64 mx.pt, .slice rA rn rc, .int .u64 mx.co, .bool mx.ok, .slice rA1 rn1 rc1, .slice rA2 rn2 rc2]) := Lib.hid hb7
              clear hb7 ho7
              refine hK.out _ _ XB6.out.cells (fun hHeld => ?_)
              clear hK K
              try simp only [Act.put, List.setIfInBounds_toArray, List.set_cons_zero, List.set_cons_succ]
              refine wpAnyH_done (by kernel_rfl) ?_ _
              refine NoPanic.normal ?_
              go_wp2_with fail
              go_meet
              case rel => exact ⟨p7, p8, qA, qn, qc, qA1, qn1, qc1, qA2, qn2, qc2, rA, rn, rc, rA1, rn1, rc1, rA2, rn2, rc2, rfl, rfl, by have := NE.out; omega, by have := Gp7.out; omega, by have := Gp8.out; omega, A7_6.out, A8_6.out, RQ6.out, RR6.out, XB6.out.bel⟩
            · skip
              go_simp
              have hbb : Below v2.heap.size v2 (v2.alloc (.cells #[.int .i64 0, .int .i64 0, .int .i64 0, .int .u64 0, .int .u64 0, .int .u64 0, .slice none 0 0, .int .u64 0, .bool false, .slice none 0 0, .slice none 0 0] 31)) := (Below.refl _ _).alloc (Nat.le_refl _) _
              have XB3 := Lib.hid (XB2.out.on hbb)
              have A8_3 : Hid (Blk (v2.alloc (.cells #[.int .i64 0, .int .i64 0, .int .i64 0, .int .u64 0, .int .u64 0, .int .u64 0, .slice none 0 0, .int .u64 0, .bool false, .slice none 0 0, .slice none 0 0] 31)) v2.heap.size 31 #[.int .i64 0, .int .i64 0, .int .i64 0, .int .u64 0, .int .u64 0, .int .u64 0, .slice none 0 0, .int .u64 0, .bool false, .slice none 0 0, .slice none 0 0]) := Lib.hid (Blk.new _ _ _)
              have Gp8 : Hid (wr.heap.size < v2.heap.size) := Lib.hid XB2.out.blk.lt
              have NE : Hid (p7 < v2.heap.size) := Lib.hid A7_2.out.lt
              have RQ3 := Lib.hid (RQ2.out.below hbb)
              have A7_3 := Lib.hid (A7_2.out.below hbb A7_2.out.lt)
              refine hK.out _ _ XB3.out.cells (fun hHeld => ?_)
              clear hK K hbb
              generalize (v2.alloc (.cells #[.int .i64 0, .int .i64 0, .int .i64 0, .int .u64 0, .int .u64 0, .int .u64 0, .slice none 0 0, .int .u64 0, .bool false, .slice none 0 0, .slice none 0 0] 31)) = v3 at *
              generalize v2.heap.size = p8 at *
              try simp only [Act.put, List.setIfInBounds_toArray, List.set_cons_zero, List.set_cons_succ]
              refine wpAnyH_ready (rs := [3]) (by kernel_rfl) (by simp) ?_
              refine AllReadyH.cons rfl (fun K hK => ?_) AllReadyH.nil
              go_simp
              refine (FW.out _ XB3.out.bel).mono ?_
              rintro e v4 ⟨rA, rn, rc, rA1, rn1, rc1, rA2, rn2, rc2, rfl, pe, pi_, po, hb⟩
              have XB4 := Lib.hid (XB3.out.on hb)
              have RQ4 := Lib.hid (RQ3.out.below hb)
              have A7_4 := Lib.hid (A7_3.out.below hb A7_3.out.lt)
              have A8_4 := Lib.hid (A8_3.out.below hb A8_3.out.lt)
              have RR4 : Hid (Rw v4 mx rA rn rc rA1 rn1 rc1 rA2 rn2 rc2) := Lib.hid ⟨pe.down (Nat.zero_le _), World.ownsRow.down pi_ (Nat.zero_le _), po.down (Nat.zero_le _)⟩
              clear pe pi_ po hb
              refine hK.out _ _ XB4.out.cells (fun hHeld => ?_)
              clear hK K
              try simp only [Act.put, List.setIfInBounds_toArray, List.set_cons_zero, List.set_cons_succ]
              refine wpAnyH_ready (rs := [6]) (by kernel_rfl) (by simp) ?_
              refine AllReadyH.cons rfl (fun K hK => ?_) AllReadyH.nil
              refine wp_store_nine rfl 31 _ _ rfl p7 #[.int .i64 0, .int .i64 0, .int .i64 0, .int .u64 0, .int .u64 0, .int .u64 0, .slice none 0 0, .int .u64 0, .bool false, .slice none 0 0, .slice none 0 0] 31 [.int .i64 mx.kind, .int .i64 mx.fr, .int .i64 mx.to, .int .u64 mx.t, .int .u64 mx.pi, .int .u64 mx.pt, .slice qA qn qc, .int .u64 mx.co, .bool mx.ok, .slice qA1 qn1 qc1, .slice qA2 qn2 qc2] rfl rfl A7_4.out rfl Tryd.i31 (by simp [Value.oneCell']) ?_
              intro v5 hb7 ho7
              have XB5 : Hid (Bx wr wr.heap.size xkind xfr xto xt xpi xpt xco xok xA xn xc xA1 xn1 xc1 xA2 xn2 xc2 v5) := Lib.hid ⟨ho7.keep XB4.out.blk (by have := Gp7.out; omega), XB4.out.bel.trans (ho7.below (by have := Gp7.out; omega)), XB4.out.low⟩
              have RQ5 := Lib.hid (RQ4.out.only A7_4.out ho7)
              have RR5 := Lib.hid (RR4.out.only A7_4.out ho7)
              have A8_5 := Lib.hid (ho7.keep A8_4.out (by have := NE.out; omega))
              have A7_5 : Hid (Blk v5 p7 31 #[.int .i64 mx.kind, .int .i64 mx.fr, .int .i64 mx.to, .int .u64 mx.t, .int .u64 mx.pi, .int .u64 mx.pt, .slice qA qn qc, .int .u64 mx.co, .bool mx.ok, .slice qA1 qn1 qc1, .slice qA2 qn2 qc2]) := Lib.hid hb7
              clear hb7 ho7
              refine hK.out _ _ XB5.out.cells (fun hHeld => ?_)
              clear hK K
              try simp only [Act.put, List.setIfInBounds_toArray, List.set_cons_zero, List.set_cons_succ]
              refine wpAnyH_ready (rs := [7]) (by kernel_rfl) (by simp) ?_
              refine AllReadyH.cons rfl (fun K hK => ?_) AllReadyH.nil
              refine wp_store_nine rfl 31 _ _ rfl p8 #[.int .i64 0, .int .i64 0, .int .i64 0, .int .u64 0, .int .u64 0, .int .u64 0, .slice none 0 0, .int .u64 0, .bool false, .slice none 0 0, .slice none 0 0] 31 [.int .i64 mx.kind, .int .i64 mx.fr, .int .i64 mx.to, .int .u64 mx.t, .int .u64 mx.pi, .int .u64 mx.pt, .slice rA rn rc, .int .u64 mx.co, .bool mx.ok, .slice rA1 rn1 rc1, .slice rA2 rn2 rc2] rfl rfl A8_5.out rfl Tryd.i31 (by simp [Value.oneCell']) ?_
              intro v6 hb7 ho7
              have XB6 : Hid (Bx wr wr.heap.size xkind xfr xto xt xpi xpt xco xok xA xn xc xA1 xn1 xc1 xA2 xn2 xc2 v6) := Lib.hid ⟨ho7.keep XB5.out.blk (by have := Gp8.out; omega), XB5.out.bel.trans (ho7.below (by have := Gp8.out; omega)), XB5.out.low⟩
              have RQ6 := Lib.hid (RQ5.out.only A8_5.out ho7)
              have RR6 := Lib.hid (RR5.out.only A8_5.out ho7)
              have A7_6 := Lib.hid (ho7.keep A7_5.out (by have := NE.out; omega))
              have A8_6 : Hid (Blk v6 p8 31 #[.int .i64 mx.kind, .int .i64 mx.fr, .int .i64 mx.to, .int .u64 mx.t, .int .u64 mx.pi, .int .u64 mx.pt, .slice rA rn rc, .int .u64 mx.co, .bool mx.ok, .slice rA1 rn1 rc1, .slice rA2 rn2 rc2]) := Lib.hid hb7
              clear hb7 ho7
              refine hK.out _ _ XB6.out.cells (fun hHeld => ?_)
              clear hK K
              try simp only [Act.put, List.setIfInBounds_toArray, List.set_cons_zero, List.set_cons_succ]
              refine wpAnyH_done (by kernel_rfl) ?_ _
              refine NoPanic.normal ?_
              go_wp2_with fail
              go_meet
              case rel => exact ⟨p7, p8, qA, qn, qc, qA1, qn1, qc1, qA2, qn2, qc2, rA, rn, rc, rA1, rn1, rc1, rA2, rn2, rc2, rfl, rfl, by have := NE.out; omega, by have := Gp7.out; omega, by have := Gp8.out; omega, A7_6.out, A8_6.out, RQ6.out, RR6.out, XB6.out.bel⟩
          · skip
            go_simp
            have hbb : Below v1.heap.size v1 (v1.alloc (.cells #[.int .i64 0, .int .i64 0, .int .i64 0, .int .u64 0, .int .u64 0, .int .u64 0, .slice none 0 0, .int .u64 0, .bool false, .slice none 0 0, .slice none 0 0] 31)) := (Below.refl _ _).alloc (Nat.le_refl _) _
            have XB2 := Lib.hid (XB1.out.on hbb)
            have A8_2 : Hid (Blk (v1.alloc (.cells #[.int .i64 0, .int .i64 0, .int .i64 0, .int .u64 0, .int .u64 0, .int .u64 0, .slice none 0 0, .int .u64 0, .bool false, .slice none 0 0, .slice none 0 0] 31)) v1.heap.size 31 #[.int .i64 0, .int .i64 0, .int .i64 0, .int .u64 0, .int .u64 0, .int .u64 0, .slice none 0 0, .int .u64 0, .bool false, .slice none 0 0, .slice none 0 0]) := Lib.hid (Blk.new _ _ _)
            have Gp8 : Hid (wr.heap.size < v1.heap.size) := Lib.hid XB1.out.blk.lt
            have RQ2 := Lib.hid (RQ1.out.below hbb)
            refine hK.out _ _ XB2.out.cells (fun hHeld => ?_)
            clear hK K hbb
            generalize (v1.alloc (.cells #[.int .i64 0, .int .i64 0, .int .i64 0, .int .u64 0, .int .u64 0, .int .u64 0, .slice none 0 0, .int .u64 0, .bool false, .slice none 0 0, .slice none 0 0] 31)) = v2 at *
            generalize v1.heap.size = p8 at *
            try simp only [Act.put, List.setIfInBounds_toArray, List.set_cons_zero, List.set_cons_succ]
            refine wpAnyH_ready (rs := [3, 4]) (by kernel_rfl) (by simp) ?_
            refine AllReadyH.cons rfl (fun K hK => ?_) (AllReadyH.cons rfl (fun K hK => ?_) AllReadyH.nil)
            · skip
              go_simp
              refine (FW.out _ XB2.out.bel).mono ?_
              rintro e v3 ⟨rA, rn, rc, rA1, rn1, rc1, rA2, rn2, rc2, rfl, pe, pi_, po, hb⟩
              have XB3 := Lib.hid (XB2.out.on hb)
              have RQ3 := Lib.hid (RQ2.out.below hb)
              have A8_3 := Lib.hid (A8_2.out.below hb A8_2.out.lt)
              have RR3 : Hid (Rw v3 mx rA rn rc rA1 rn1 rc1 rA2 rn2 rc2) := Lib.hid ⟨pe.down (Nat.zero_le _), World.ownsRow.down pi_ (Nat.zero_le _), po.down (Nat.zero_le _)⟩
              clear pe pi_ po hb
              refine hK.out _ _ XB3.out.cells (fun hHeld => ?_)
              clear hK K
              try simp only [Act.put, List.setIfInBounds_toArray, List.set_cons_zero, List.set_cons_succ]
              refine wpAnyH_ready (rs := [4]) (by kernel_rfl) (by simp) ?_
              refine AllReadyH.cons rfl (fun K hK => ?_) AllReadyH.nil
              go_simp
              have hbb : Below v3.heap.size v3 (v3.alloc (.cells #[.int .i64 0, .int .i64 0, .int .i64 0, .int .u64 0, .int .u64 0, .int .u64 0, .slice none 0 0, .int .u64 0, .bool false, .slice none 0 0, .slice none 0 0] 31)) := (Below.refl _ _).alloc (Nat.le_refl _) _
              have XB4 := Lib.hid (XB3.out.on hbb)
              have A7_4 : Hid (Blk (v3.alloc (.cells #[.int .i64 0, .int .i64 0, .int .i64 0, .int .u64 0, .int .u64 0, .int .u64 0, .slice none 0 0, .int .u64 0, .bool false, .slice none 0 0, .slice none 0 0] 31)) v3.heap.size 31 #[.int .i64 0, .int .i64 0, .int .i64 0, .int .u64 0, .int .u64 0, .int .u64 0, .slice none 0 0, .int .u64 0, .bool false, .slice none 0 0, .slice none 0 0]) := Lib.hid (Blk.new _ _ _)
              have Gp7 : Hid (wr.heap.size < v3.heap.size) := Lib.hid XB3.out.blk.lt
              have NE : Hid (p8 < v3.heap.size) := Lib.hid A8_3.out.lt
              have RQ4 := Lib.hid (RQ3.out.below hbb)
              have RR4 := Lib.hid (RR3.out.below hbb)
              have A8_4 := Lib.hid (A8_3.out.below hbb A8_3.out.lt)
              refine hK.out _ _ XB4.out.cells (fun hHeld => ?_)
              clear hK K hbb
              generalize (v3.alloc (.cells #[.int .i64 0, .int .i64 0, .int .i64 0, .int .u64 0, .int .u64 0, .int .u64 0, .slice none 0 0, .int .u64 0, .bool false, .slice none 0 0, .slice none 0 0] 31)) = v4 at *
              generalize v3.heap.size = p7 at *
              try simp only [Act.put, List.setIfInBounds_toArray, List.set_cons_zero, List.set_cons_succ]
              refine wpAnyH_ready (rs := [6]) (by kernel_rfl) (by simp) ?_
              refine AllReadyH.cons rfl (fun K hK => ?_) AllReadyH.nil
              refine wp_store_nine rfl 31 _ _ rfl p7 #[.int .i64 0, .int .i64 0, .int .i64 0, .int .u64 0, .int .u64 0, .int .u64 0, .slice none 0 0, .int .u64 0, .bool false, .slice none 0 0, .slice none 0 0] 31 [.int .i64 mx.kind, .int .i64 mx.fr, .int .i64 mx.to, .int .u64 mx.t, .int .u64 mx.pi, .int .u64 mx.pt, .slice qA qn qc, .int .u64 mx.co, .bool mx.ok, .slice qA1 qn1 qc1, .slice qA2 qn2 qc2] rfl rfl A7_4.out rfl Tryd.i31 (by simp [Value.oneCell']) ?_
              intro v5 hb7 ho7
              have XB5 : Hid (Bx wr wr.heap.size xkind xfr xto xt xpi xpt xco xok xA xn xc xA1 xn1 xc1 xA2 xn2 xc2 v5) := Lib.hid ⟨ho7.keep XB4.out.blk (by have := Gp7.out; omega), XB4.out.bel.trans (ho7.below (by have := Gp7.out; omega)), XB4.out.low⟩
              have RQ5 := Lib.hid (RQ4.out.only A7_4.out ho7)
              have RR5 := Lib.hid (RR4.out.only A7_4.out ho7)
              have A8_5 := Lib.hid (ho7.keep A8_4.out (by have := NE.out; omega))
              have A7_5 : Hid (Blk v5 p7 31 #[.int .i64 mx.kind, .int .i64 mx.fr, .int .i64 mx.to, .int .u64 mx.t, .int .u64 mx.pi, .int .u64 mx.pt, .slice qA qn qc, .int .u64 mx.co, .bool mx.ok, .slice qA1 qn1 qc1, .slice qA2 qn2 qc2]) := Lib.hid hb7
              clear hb7 ho7
              refine hK.out _ _ XB5.out.cells (fun hHeld => ?_)
              clear hK K
              try simp only [Act.put, List.setIfInBounds_toArray, List.set_cons_zero, List.set_cons_succ]
              refine wpAnyH_ready (rs := [7]) (by kernel_rfl) (by simp) ?_
              refine AllReadyH.cons rfl (fun K hK => ?_) AllReadyH.nil
              refine wp_store_nine rfl 31 _ _ rfl p8 #[.int .i64 0, .int .i64 0, .int .i64 0, .int .u64 0, .int .u64 0, .int .u64 0, .slice none 0 0, .int .u64 0, .bool false, .slice none 0 0, .slice none 0 0] 31 [.int .i64 mx.kind, .int .i64 mx.fr, .int .i64 mx.to, .int .u64 mx.t, .int .u64 mx.pi, .int .u64 mx.pt, .slice rA rn rc, .int .u64 mx.co, .bool mx.ok, .slice rA1 rn1 rc1, .slice rA2 rn2 rc2] rfl rfl A8_5.out rfl Tryd.i31 (by simp [Value.oneCell']) ?_
              intro v6 hb7 ho7
              have XB6 : Hid (Bx wr wr.heap.size xkind xfr xto xt xpi xpt xco xok xA xn xc xA1 xn1 xc1 xA2 xn2 xc2 v6) := Lib.hid ⟨ho7.keep XB5.out.blk (by have := Gp8.out; omega), XB5.out.bel.trans (ho7.below (by have := Gp8.out; omega)), XB5.out.low⟩
              have RQ6 := Lib.hid (RQ5.out.only A8_5.out ho7)
              have RR6 := Lib.hid (RR5.out.only A8_5.out ho7)
              have A7_6 := Lib.hid (ho7.keep A7_5.out (by have := NE.out; omega))
              have A8_6 : Hid (Blk v6 p8 31 #[.int .i64 mx.kind, .int .i64 mx.fr, .int .i64 mx.to, .int .u64 mx.t, .int .u64 mx.pi, .int .u64 mx.pt, .slice rA rn rc, .int .u64 mx.co, .bool mx.ok, .slice rA1 rn1 rc1, .slice rA2 rn2 rc2]) := Lib.hid hb7
              clear hb7 ho7
              refine hK.out _ _ XB6.out.cells (fun hHeld => ?_)
              clear hK K
              try simp only [Act.put, List.setIfInBounds_toArray, List.set_cons_zero, List.set_cons_succ]
              refine wpAnyH_done (by kernel_rfl) ?_ _
              refine NoPanic.normal ?_
              go_wp2_with fail
              go_meet
              case rel => exact ⟨p7, p8, qA, qn, qc, qA1, qn1, qc1, qA2, qn2, qc2, rA, rn, rc, rA1, rn1, rc1, rA2, rn2, rc2, rfl, rfl, by have := NE.out; omega, by have := Gp7.out; omega, by have := Gp8.out; omega, A7_6.out, A8_6.out, RQ6.out, RR6.out, XB6.out.bel⟩
            · skip
              go_simp
              have hbb : Below v2.heap.size v2 (v2.alloc (.cells #[.int .i64 0, .int .i64 0, .int .i64 0, .int .u64 0, .int .u64 0, .int .u64 0, .slice none 0 0, .int .u64 0, .bool false, .slice none 0 0, .slice none 0 0] 31)) := (Below.refl _ _).alloc (Nat.le_refl _) _
              have XB3 := Lib.hid (XB2.out.on hbb)
              have A7_3 : Hid (Blk (v2.alloc (.cells #[.int .i64 0, .int .i64 0, .int .i64 0, .int .u64 0, .int .u64 0, .int .u64 0, .slice none 0 0, .int .u64 0, .bool false, .slice none 0 0, .slice none 0 0] 31)) v2.heap.size 31 #[.int .i64 0, .int .i64 0, .int .i64 0, .int .u64 0, .int .u64 0, .int .u64 0, .slice none 0 0, .int .u64 0, .bool false, .slice none 0 0, .slice none 0 0]) := Lib.hid (Blk.new _ _ _)
              have Gp7 : Hid (wr.heap.size < v2.heap.size) := Lib.hid XB2.out.blk.lt
              have NE : Hid (p8 < v2.heap.size) := Lib.hid A8_2.out.lt
              have RQ3 := Lib.hid (RQ2.out.below hbb)
              have A8_3 := Lib.hid (A8_2.out.below hbb A8_2.out.lt)
              refine hK.out _ _ XB3.out.cells (fun hHeld => ?_)
              clear hK K hbb
              generalize (v2.alloc (.cells #[.int .i64 0, .int .i64 0, .int .i64 0, .int .u64 0, .int .u64 0, .int .u64 0, .slice none 0 0, .int .u64 0, .bool false, .slice none 0 0, .slice none 0 0] 31)) = v3 at *
              generalize v2.heap.size = p7 at *
              try simp only [Act.put, List.setIfInBounds_toArray, List.set_cons_zero, List.set_cons_succ]
              refine wpAnyH_ready (rs := [3]) (by kernel_rfl) (by simp) ?_
              refine AllReadyH.cons rfl (fun K hK => ?_) AllReadyH.nil
              go_simp
              refine (FW.out _ XB3.out.bel).mono ?_
              rintro e v4 ⟨rA, rn, rc, rA1, rn1, rc1, rA2, rn2, rc2, rfl, pe, pi_, po, hb⟩
              have XB4 := Lib.hid (XB3.out.on hb)
              have RQ4 := Lib.hid (RQ3.out.below hb)
              have A7_4 := Lib.hid (A7_3.out.below hb A7_3.out.lt)
              have A8_4 := Lib.hid (A8_3.out.below hb A8_3.out.lt)
              have RR4 : Hid (Rw v4 mx rA rn rc rA1 rn1 rc1 rA2 rn2 rc2) := Lib.hid ⟨pe.down (Nat.zero_le _), World.ownsRow.down pi_ (Nat.zero_le _), po.down (Nat.zero_le _)⟩
              clear pe pi_ po hb
              refine hK.out _ _ XB4.out.cells (fun hHeld => ?_)
              clear hK K
              try simp only [Act.put, List.setIfInBounds_toArray, List.set_cons_zero, List.set_cons_succ]
              refine wpAnyH_ready (rs := [6]) (by kernel_rfl) (by simp) ?_
              refine AllReadyH.cons rfl (fun K hK => ?_) AllReadyH.nil
              refine wp_store_nine rfl 31 _ _ rfl p7 #[.int .i64 0, .int .i64 0, .int .i64 0, .int .u64 0, .int .u64 0, .int .u64 0, .slice none 0 0, .int .u64 0, .bool false, .slice none 0 0, .slice none 0 0] 31 [.int .i64 mx.kind, .int .i64 mx.fr, .int .i64 mx.to, .int .u64 mx.t, .int .u64 mx.pi, .int .u64 mx.pt, .slice qA qn qc, .int .u64 mx.co, .bool mx.ok, .slice qA1 qn1 qc1, .slice qA2 qn2 qc2] rfl rfl A7_4.out rfl Tryd.i31 (by simp [Value.oneCell']) ?_
              intro v5 hb7 ho7
              have XB5 : Hid (Bx wr wr.heap.size xkind xfr xto xt xpi xpt xco xok xA xn xc xA1 xn1 xc1 xA2 xn2 xc2 v5) := Lib.hid ⟨ho7.keep XB4.out.blk (by have := Gp7.out; omega), XB4.out.bel.trans (ho7.below (by have := Gp7.out; omega)), XB4.out.low⟩
              have RQ5 := Lib.hid (RQ4.out.only A7_4.out ho7)
              have RR5 := Lib.hid (RR4.out.only A7_4.out ho7)
              have A8_5 := Lib.hid (ho7.keep A8_4.out (by have := NE.out; omega))
              have A7_5 : Hid (Blk v5 p7 31 #[.int .i64 mx.kind, .int .i64 mx.fr, .int .i64 mx.to, .int .u64 mx.t, .int .u64 mx.pi, .int .u64 mx.pt, .slice qA qn qc, .int .u64 mx.co, .bool mx.ok, .slice qA1 qn1 qc1, .slice qA2 qn2 qc2]) := Lib.hid hb7
              clear hb7 ho7
              refine hK.out _ _ XB5.out.cells (fun hHeld => ?_)
              clear hK K
              try simp only [Act.put, List.setIfInBounds_toArray, List.set_cons_zero, List.set_cons_succ]
              refine wpAnyH_ready (rs := [7]) (by kernel_rfl) (by simp) ?_
              refine AllReadyH.cons rfl (fun K hK => ?_) AllReadyH.nil
              refine wp_store_nine rfl 31 _ _ rfl p8 #[.int .i64 0, .int .i64 0, .int .i64 0, .int .u64 0, .int .u64 0, .int .u64 0, .slice none 0 0, .int .u64 0, .bool false, .slice none 0 0, .slice none 0 0] 31 [.int .i64 mx.kind, .int .i64 mx.fr, .int .i64 mx.to, .int .u64 mx.t, .int .u64 mx.pi, .int .u64 mx.pt, .slice rA rn rc, .int .u64 mx.co, .bool mx.ok, .slice rA1 rn1 rc1, .slice rA2 rn2 rc2] rfl rfl A8_5.out rfl Tryd.i31 (by simp [Value.oneCell']) ?_
              intro v6 hb7 ho7
              have XB6 : Hid (Bx wr wr.heap.size xkind xfr xto xt xpi xpt xco xok xA xn xc xA1 xn1 xc1 xA2 xn2 xc2 v6) := Lib.hid ⟨ho7.keep XB5.out.blk (by have := Gp8.out; omega), XB5.out.bel.trans (ho7.below (by have := Gp8.out; omega)), XB5.out.low⟩
              have RQ6 := Lib.hid (RQ5.out.only A8_5.out ho7)
              have RR6 := Lib.hid (RR5.out.only A8_5.out ho7)
              have A7_6 := Lib.hid (ho7.keep A7_5.out (by have := NE.out; omega))
              have A8_6 : Hid (Blk v6 p8 31 #[.int .i64 mx.kind, .int .i64 mx.fr, .int .i64 mx.to, .int .u64 mx.t, .int .u64 mx.pi, .int .u64 mx.pt, .slice rA rn rc, .int .u64 mx.co, .bool mx.ok, .slice rA1 rn1 rc1, .slice rA2 rn2 rc2]) := Lib.hid hb7
              clear hb7 ho7
              refine hK.out _ _ XB6.out.cells (fun hHeld => ?_)
              clear hK K
              try simp only [Act.put, List.setIfInBounds_toArray, List.set_cons_zero, List.set_cons_succ]
              refine wpAnyH_done (by kernel_rfl) ?_ _
              refine NoPanic.normal ?_
              go_wp2_with fail
              go_meet
              case rel => exact ⟨p7, p8, qA, qn, qc, qA1, qn1, qc1, qA2, qn2, qc2, rA, rn, rc, rA1, rn1, rc1, rA2, rn2, rc2, rfl, rfl, by have := NE.out; omega, by have := Gp7.out; omega, by have := Gp8.out; omega, A7_6.out, A8_6.out, RQ6.out, RR6.out, XB6.out.bel⟩
        · skip
          go_simp
          have hbb : Below v0.heap.size v0 (v0.alloc (.cells #[.int .i64 0, .int .i64 0, .int .i64 0, .int .u64 0, .int .u64 0, .int .u64 0, .slice none 0 0, .int .u64 0, .bool false, .slice none 0 0, .slice none 0 0] 31)) := (Below.refl _ _).alloc (Nat.le_refl _) _
          have XB1 := Lib.hid (XB0.out.on hbb)
          have A7_1 : Hid (Blk (v0.alloc (.cells #[.int .i64 0, .int .i64 0, .int .i64 0, .int .u64 0, .int .u64 0, .int .u64 0, .slice none 0 0, .int .u64 0, .bool false, .slice none 0 0, .slice none 0 0] 31)) v0.heap.size 31 #[.int .i64 0, .int .i64 0, .int .i64 0, .int .u64 0, .int .u64 0, .int .u64 0, .slice none 0 0, .int .u64 0, .bool false, .slice none 0 0, .slice none 0 0]) := Lib.hid (Blk.new _ _ _)
          have Gp7 : Hid (wr.heap.size < v0.heap.size) := Lib.hid XB0.out.blk.lt
          refine hK.out _ _ XB1.out.cells (fun hHeld => ?_)
          clear hK K hbb
          generalize (v0.alloc (.cells #[.int .i64 0, .int .i64 0, .int .i64 0, .int .u64 0, .int .u64 0, .int .u64 0, .slice none 0 0, .int .u64 0, .bool false, .slice none 0 0, .slice none 0 0] 31)) = v1 at *
          generalize v0.heap.size = p7 at *
          try simp only [Act.put, List.setIfInBounds_toArray, List.set_cons_zero, List.set_cons_succ]
          refine wpAnyH_ready (rs := [1, 5]) (by kernel_rfl) (by simp) ?_
          refine AllReadyH.cons rfl (fun K hK => ?_) (AllReadyH.cons rfl (fun K hK => ?_) AllReadyH.nil)
          · skip
            go_simp
            refine (FW.out _ XB1.out.bel).mono ?_
            rintro e v2 ⟨qA, qn, qc, qA1, qn1, qc1, qA2, qn2, qc2, rfl, pe, pi_, po, hb⟩
            have XB2 := Lib.hid (XB1.out.on hb)
            have A7_2 := Lib.hid (A7_1.out.below hb A7_1.out.lt)
            have RQ2 : Hid (Rw v2 mx qA qn qc qA1 qn1 qc1 qA2 qn2 qc2) := Lib.hid ⟨pe.down (Nat.zero_le _), World.ownsRow.down pi_ (Nat.zero_le _), po.down (Nat.zero_le _)⟩
            clear pe pi_ po hb
            refine hK.out _ _ XB2.out.cells (fun hHeld => ?_)
            clear hK K
            try simp only [Act.put, List.setIfInBounds_toArray, List.set_cons_zero, List.set_cons_succ]
            refine wpAnyH_ready (rs := [3, 5]) (by kernel_rfl) (by simp) ?_
            refine AllReadyH.cons rfl (fun K hK => ?_) (AllReadyH.cons rfl (fun K hK => ?_) AllReadyH.nil)
            · skip
              go_simp
              refine (FW.out _ XB2.out.bel).mono ?_
              rintro e v3 ⟨rA, rn, rc, rA1, rn1, rc1, rA2, rn2, rc2, rfl, pe, pi_, po, hb⟩
              have XB3 := Lib.hid (XB2.out.on hb)
              have RQ3 := Lib.hid (RQ2.out.below hb)
              have A7_3 := Lib.hid (A7_2.out.below hb A7_2.out.lt)
              have RR3 : Hid (Rw v3 mx rA rn rc rA1 rn1 rc1 rA2 rn2 rc2) := Lib.hid ⟨pe.down (Nat.zero_le _), World.ownsRow.down pi_ (Nat.zero_le _), po.down (Nat.zero_le _)⟩
              clear pe pi_ po hb
              refine hK.out _ _ XB3.out.cells (fun hHeld => ?_)
              clear hK K
              try simp only [Act.put, List.setIfInBounds_toArray, List.set_cons_zero, List.set_cons_succ]
              refine wpAnyH_ready (rs := [5]) (by kernel_rfl) (by simp) ?_
              refine AllReadyH.cons rfl (fun K hK => ?_) AllReadyH.nil
              go_simp
              have hbb : Below v3.heap.size v3 (v3.alloc (.cells #[.int .i64 0, .int .i64 0, .int .i64 0, .int .u64 0, .int .u64 0, .int .u64 0, .slice none 0 0, .int .u64 0, .bool false, .slice none 0 0, .slice none 0 0] 31)) := (Below.refl _ _).alloc (Nat.le_refl _) _
              have XB4 := Lib.hid (XB3.out.on hbb)
              have A8_4 : Hid (Blk (v3.alloc (.cells #[.int .i64 0, .int .i64 0, .int .i64 0, .int .u64 0, .int .u64 0, .int .u64 0, .slice none 0 0, .int .u64 0, .bool false, .slice none 0 0, .slice none 0 0] 31)) v3.heap.size 31 #[.int .i64 0, .int .i64 0, .int .i64 0, .int .u64 0, .int .u64 0, .int .u64 0, .slice none 0 0, .int .u64 0, .bool false, .slice none 0 0, .slice none 0 0]) := Lib.hid (Blk.new _ _ _)
              have Gp8 : Hid (wr.heap.size < v3.heap.size) := Lib.hid XB3.out.blk.lt
              have NE : Hid (p7 < v3.heap.size) := Lib.hid A7_3.out.lt
              have RQ4 := Lib.hid (RQ3.out.below hbb)
              have RR4 := Lib.hid (RR3.out.below hbb)
              have A7_4 := Lib.hid (A7_3.out.below hbb A7_3.out.lt)
              refine hK.out _ _ XB4.out.cells (fun hHeld => ?_)
              clear hK K hbb
              generalize (v3.alloc (.cells #[.int .i64 0, .int .i64 0, .int .i64 0, .int .u64 0, .int .u64 0, .int .u64 0, .slice none 0 0, .int .u64 0, .bool false, .slice none 0 0, .slice none 0 0] 31)) = v4 at *
              generalize v3.heap.size = p8 at *
              try simp only [Act.put, List.setIfInBounds_toArray, List.set_cons_zero, List.set_cons_succ]
              refine wpAnyH_ready (rs := [6]) (by kernel_rfl) (by simp) ?_
              refine AllReadyH.cons rfl (fun K hK => ?_) AllReadyH.nil
              refine wp_store_nine rfl 31 _ _ rfl p7 #[.int .i64 0, .int .i64 0, .int .i64 0, .int .u64 0, .int .u64 0, .int .u64 0, .slice none 0 0, .int .u64 0, .bool false, .slice none 0 0, .slice none 0 0] 31 [.int .i64 mx.kind, .int .i64 mx.fr, .int .i64 mx.to, .int .u64 mx.t, .int .u64 mx.pi, .int .u64 mx.pt, .slice qA qn qc, .int .u64 mx.co, .bool mx.ok, .slice qA1 qn1 qc1, .slice qA2 qn2 qc2] rfl rfl A7_4.out rfl Tryd.i31 (by simp [Value.oneCell']) ?_
              intro v5 hb7 ho7
              have XB5 : Hid (Bx wr wr.heap.size xkind xfr xto xt xpi xpt xco xok xA xn xc xA1 xn1 xc1 xA2 xn2 xc2 v5) := Lib.hid ⟨ho7.keep XB4.out.blk (by have := Gp7.out; omega), XB4.out.bel.trans (ho7.below (by have := Gp7.out; omega)), XB4.out.low⟩
              have RQ5 := Lib.hid (RQ4.out.only A7_4.out ho7)
              have RR5 := Lib.hid (RR4.out.only A7_4.out ho7)
              have A8_5 := Lib.hid (ho7.keep A8_4.out (by have := NE.out; omega))
              have A7_5 : Hid (Blk v5 p7 31 #[.int .i64 mx.kind, .int .i64 mx.fr, .int .i64 mx.to, .int .u64 mx.t, .int .u64 mx.pi, .int .u64 mx.pt, .slice qA qn qc, .int .u64 mx.co, .bool mx.ok, .slice qA1 qn1 qc1, .slice qA2 qn2 qc2]) := Lib.hid hb7
              clear hb7 ho7
              refine hK.out _ _ XB5.out.cells (fun hHeld => ?_)
              clear hK K
              try simp only [Act.put, List.setIfInBounds_toArray, List.set_cons_zero, List.set_cons_succ]
              refine wpAnyH_ready (rs := [7]) (by kernel_rfl) (by simp) ?_
              refine AllReadyH.cons rfl (fun K hK => ?_) AllReadyH.nil
              refine wp_store_nine rfl 31 _ _ rfl p8 #[.int .i64 0, .int .i64 0, .int .i64 0, .int .u64 0, .int .u64 0, .int .u64 0, .slice none 0 0, .int .u64 0, .bool false, .slice none 0 0, .slice none 0 0] 31 [.int .i64 mx.kind, .int .i64 mx.fr, .int .i64 mx.to, .int .u64 mx.t, .int .u64 mx.pi, .int .u64 mx.pt, .slice rA rn rc, .int .u64 mx.co, .bool mx.ok, .slice rA1 rn1 rc1, .slice rA2 rn2 rc2] rfl rfl A8_5.out rfl Tryd.i31 (by simp [Value.oneCell']) ?_
              intro v6 hb7 ho7
              have XB6 : Hid (Bx wr wr.heap.size xkind xfr xto xt xpi xpt xco xok xA xn xc xA1 xn1 xc1 xA2 xn2 xc2 v6) := Lib.hid ⟨ho7.keep XB5.out.blk (by have := Gp8.out; omega), XB5.out.bel.trans (ho7.below (by have := Gp8.out; omega)), XB5.out.low⟩
              have RQ6 := Lib.hid (RQ5.out.only A8_5.out ho7)
              have RR6 := Lib.hid (RR5.out.only A8_5.out ho7)
              have A7_6 := Lib.hid (ho7.keep A7_5.out (by have := NE.out; omega))
              have A8_6 : Hid (Blk v6 p8 31 #[.int .i64 mx.kind, .int .i64 mx.fr, .int .i64 mx.to, .int .u64 mx.t, .int .u64 mx.pi, .int .u64 mx.pt, .slice rA rn rc, .int .u64 mx.co, .bool mx.ok, .slice rA1 rn1 rc1, .slice rA2 rn2 rc2]) := Lib.hid hb7
              clear hb7 ho7
              refine hK.out _ _ XB6.out.cells (fun hHeld => ?_)
              clear hK K
              try simp only [Act.put, List.setIfInBounds_toArray, List.set_cons_zero, List.set_cons_succ]
              refine wpAnyH_done (by kernel_rfl) ?_ _
              refine NoPanic.normal ?_
              go_wp2_with fail
              go_meet
              case rel => exact ⟨p7, p8, qA, qn, qc, qA1, qn1, qc1, qA2, qn2, qc2, rA, rn, rc, rA1, rn1, rc1, rA2, rn2, rc2, rfl, rfl, by have := NE.out; omega, by have := Gp7.out; omega, by have := Gp8.out; omega, A7_6.out, A8_6.out, RQ6.out, RR6.out, XB6.out.bel⟩
            · skip
              go_simp
              have hbb : Below v2.heap.size v2 (v2.alloc (.cells #[.int .i64 0, .int .i64 0, .int .i64 0, .int .u64 0, .int .u64 0, .int .u64 0, .slice none 0 0, .int .u64 0, .bool false, .slice none 0 0, .slice none 0 0] 31)) := (Below.refl _ _).alloc (Nat.le_refl _) _
              have XB3 := Lib.hid (XB2.out.on hbb)
              have A8_3 : Hid (Blk (v2.alloc (.cells #[.int .i64 0, .int .i64 0, .int .i64 0, .int .u64 0, .int .u64 0, .int .u64 0, .slice none 0 0, .int .u64 0, .bool false, .slice none 0 0, .slice none 0 0] 31)) v2.heap.size 31 #[.int .i64 0, .int .i64 0, .int .i64 0, .int .u64 0, .int .u64 0, .int .u64 0, .slice none 0 0, .int .u64 0, .bool false, .slice none 0 0, .slice none 0 0]) := Lib.hid (Blk.new _ _ _)
              have Gp8 : Hid (wr.heap.size < v2.heap.size) := Lib.hid XB2.out.blk.lt
              have NE : Hid (p7 < v2.heap.size) := Lib.hid A7_2.out.lt
              have RQ3 := Lib.hid (RQ2.out.below hbb)
              have A7_3 := Lib.hid (A7_2.out.below hbb A7_2.out.lt)
              refine hK.out _ _ XB3.out.cells (fun hHeld => ?_)
              clear hK K hbb
              generalize (v2.alloc (.cells #[.int .i64 0, .int .i64 0, .int .i64 0, .int .u64 0, .int .u64 0, .int .u64 0, .slice none 0 0, .int .u64 0, .bool false, .slice none 0 0, .slice none 0 0] 31)) = v3 at *
              generalize v2.heap.size = p8 at *
              try simp only [Act.put, List.setIfInBounds_toArray, List.set_cons_zero, List.set_cons_succ]
              refine wpAnyH_ready (rs := [3]) (by kernel_rfl) (by simp) ?_
              refine AllReadyH.cons rfl (fun K hK => ?_) AllReadyH.nil
              go_simp
              refine (FW.out _ XB3.out.bel).mono ?_
              rintro e v4 ⟨rA, rn, rc, rA1, rn1, rc1, rA2, rn2, rc2, rfl, pe, pi_, po, hb⟩
              have XB4 := Lib.hid (XB3.out.on hb)
              have RQ4 := Lib.hid (RQ3.out.below hb)
              have A7_4 := Lib.hid (A7_3.out.below hb A7_3.out.lt)
              have A8_4 := Lib.hid (A8_3.out.below hb A8_3.out.lt)
              have RR4 : Hid (Rw v4 mx rA rn rc rA1 rn1 rc1 rA2 rn2 rc2) := Lib.hid ⟨pe.down (Nat.zero_le _), World.ownsRow.down pi_ (Nat.zero_le _), po.down (Nat.zero_le _)⟩
              clear pe pi_ po hb
              refine hK.out _ _ XB4.out.cells (fun hHeld => ?_)
              clear hK K
              try simp only [Act.put, List.setIfInBounds_toArray, List.set_cons_zero, List.set_cons_succ]
              refine wpAnyH_ready (rs := [6]) (by kernel_rfl) (by simp) ?_
              refine AllReadyH.cons rfl (fun K hK => ?_) AllReadyH.nil
              refine wp_store_nine rfl 31 _ _ rfl p7 #[.int .i64 0, .int .i64 0, .int .i64 0, .int .u64 0, .int .u64 0, .int .u64 0, .slice none 0 0, .int .u64 0, .bool false, .slice none 0 0, .slice none 0 0] 31 [.int .i64 mx.kind, .int .i64 mx.fr, .int .i64 mx.to, .int .u64 mx.t, .int .u64 mx.pi, .int .u64 mx.pt, .slice qA qn qc, .int .u64 mx.co, .bool mx.ok, .slice qA1 qn1 qc1, .slice qA2 qn2 qc2] rfl rfl A7_4.out rfl Tryd.i31 (by simp [Value.oneCell']) ?_
              intro v5 hb7 ho7
              have XB5 : Hid (Bx wr wr.heap.size xkind xfr xto xt xpi xpt xco xok xA xn xc xA1 xn1 xc1 xA2 xn2 xc2 v5) := Lib.hid ⟨ho7.keep XB4.out.blk (by have := Gp7.out; omega), XB4.out.bel.trans (ho7.below (by have := Gp7.out; omega)), XB4.out.low⟩
              have RQ5 := Lib.hid (RQ4.out.only A7_4.out ho7)
              have RR5 := Lib.hid (RR4.out.only A7_4.out ho7)
              have A8_5 := Lib.hid (ho7.keep A8_4.out (by have := NE.out; omega))
              have A7_5 : Hid (Blk v5 p7 31 #[.int .i64 mx.kind, .int .i64 mx.fr, .int .i64 mx.to, .int .u64 mx.t, .int .u64 mx.pi, .int .u64 mx.pt, .slice qA qn qc, .int .u64 mx.co, .bool mx.ok, .slice qA1 qn1 qc1, .slice qA2 qn2 qc2]) := Lib.hid hb7
              clear hb7 ho7
              refine hK.out _ _ XB5.out.cells (fun hHeld => ?_)
              clear hK K
              try simp only [Act.put, List.setIfInBounds_toArray, List.set_cons_zero, List.set_cons_succ]
              refine wpAnyH_ready (rs := [7]) (by kernel_rfl) (by simp) ?_
              refine AllReadyH.cons rfl (fun K hK => ?_) AllReadyH.nil
              refine wp_store_nine rfl 31 _ _ rfl p8 #[.int .i64 0, .int .i64 0, .int .i64 0, .int .u64 0, .int .u64 0, .int .u64 0, .slice none 0 0, .int .u64 0, .bool false, .slice none 0 0, .slice none 0 0] 31 [.int .i64 mx.kind, .int .i64 mx.fr, .int .i64 mx.to, .int .u64 mx.t, .int .u64 mx.pi, .int .u64 mx.pt, .slice rA rn rc, .int .u64 mx.co, .bool mx.ok, .slice rA1 rn1 rc1, .slice rA2 rn2 rc2] rfl rfl A8_5.out rfl Tryd.i31 (by simp [Value.oneCell']) ?_
              intro v6 hb7 ho7
              have XB6 : Hid (Bx wr wr.heap.size xkind xfr xto xt xpi xpt xco xok xA xn xc xA1 xn1 xc1 xA2 xn2 xc2 v6) := Lib.hid ⟨ho7.keep XB5.out.blk (by have := Gp8.out; omega), XB5.out.bel.trans (ho7.below (by have := Gp8.out; omega)), XB5.out.low⟩
              have RQ6 := Lib.hid (RQ5.out.only A8_5.out ho7)
              have RR6 := Lib.hid (RR5.out.only A8_5.out ho7)
              have A7_6 := Lib.hid (ho7.keep A7_5.out (by have := NE.out; omega))
              have A8_6 : Hid (Blk v6 p8 31 #[.int .i64 mx.kind, .int .i64 mx.fr, .int .i64 mx.to, .int .u64 mx.t, .int .u64 mx.pi, .int .u64 mx.pt, .slice rA rn rc, .int .u64 mx.co, .bool mx.ok, .slice rA1 rn1 rc1, .slice rA2 rn2 rc2]) := Lib.hid hb7
              clear hb7 ho7
              refine hK.out _ _ XB6.out.cells (fun hHeld => ?_)
              clear hK K
              try simp only [Act.put, List.setIfInBounds_toArray, List.set_cons_zero, List.set_cons_succ]
              refine wpAnyH_done (by kernel_rfl) ?_ _
              refine NoPanic.normal ?_
              go_wp2_with fail
              go_meet
              case rel => exact ⟨p7, p8, qA, qn, qc, qA1, qn1, qc1, qA2, qn2, qc2, rA, rn, rc, rA1, rn1, rc1, rA2, rn2, rc2, rfl, rfl, by have := NE.out; omega, by have := Gp7.out; omega, by have := Gp8.out; omega, A7_6.out, A8_6.out, RQ6.out, RR6.out, XB6.out.bel⟩
          · skip
            go_simp
            have hbb : Below v1.heap.size v1 (v1.alloc (.cells #[.int .i64 0, .int .i64 0, .int .i64 0, .int .u64 0, .int .u64 0, .int .u64 0, .slice none 0 0, .int .u64 0, .bool false, .slice none 0 0, .slice none 0 0] 31)) := (Below.refl _ _).alloc (Nat.le_refl _) _
            have XB2 := Lib.hid (XB1.out.on hbb)
            have A8_2 : Hid (Blk (v1.alloc (.cells #[.int .i64 0, .int .i64 0, .int .i64 0, .int .u64 0, .int .u64 0, .int .u64 0, .slice none 0 0, .int .u64 0, .bool false, .slice none 0 0, .slice none 0 0] 31)) v1.heap.size 31 #[.int .i64 0, .int .i64 0, .int .i64 0, .int .u64 0, .int .u64 0, .int .u64 0, .slice none 0 0, .int .u64 0, .bool false, .slice none 0 0, .slice none 0 0]) := Lib.hid (Blk.new _ _ _)
            have Gp8 : Hid (wr.heap.size < v1.heap.size) := Lib.hid XB1.out.blk.lt
            have NE : Hid (p7 < v1.heap.size) := Lib.hid A7_1.out.lt
            have A7_2 := Lib.hid (A7_1.out.below hbb A7_1.out.lt)
            refine hK.out _ _ XB2.out.cells (fun hHeld => ?_)
            clear hK K hbb
            generalize (v1.alloc (.cells #[.int .i64 0, .int .i64 0, .int .i64 0, .int .u64 0, .int .u64 0, .int .u64 0, .slice none 0 0, .int .u64 0, .bool false, .slice none 0 0, .slice none 0 0] 31)) = v2 at *
            generalize v1.heap.size = p8 at *
            try simp only [Act.put, List.setIfInBounds_toArray, List.set_cons_zero, List.set_cons_succ]
            refine wpAnyH_ready (rs := [1]) (by kernel_rfl) (by simp) ?_
            refine AllReadyH.cons rfl (fun K hK => ?_) AllReadyH.nil
            go_simp
            refine (FW.out _ XB2.out.bel).mono ?_
            rintro e v3 ⟨qA, qn, qc, qA1, qn1, qc1, qA2, qn2, qc2, rfl, pe, pi_, po, hb⟩
            have XB3 := Lib.hid (XB2.out.on hb)
            have A7_3 := Lib.hid (A7_2.out.below hb A7_2.out.lt)
            have A8_3 := Lib.hid (A8_2.out.below hb A8_2.out.lt)
            have RQ3 : Hid (Rw v3 mx qA qn qc qA1 qn1 qc1 qA2 qn2 qc2) := Lib.hid ⟨pe.down (Nat.zero_le _), World.ownsRow.down pi_ (Nat.zero_le _), po.down (Nat.zero_le _)⟩
            clear pe pi_ po hb
            refine hK.out _ _ XB3.out.cells (fun hHeld => ?_)
            clear hK K
            try simp only [Act.put, List.setIfInBounds_toArray, List.set_cons_zero, List.set_cons_succ]
            refine wpAnyH_ready (rs := [3]) (by kernel_rfl) (by simp) ?_
            refine AllReadyH.cons rfl (fun K hK => ?_) AllReadyH.nil
            go_simp
            refine (FW.out _ XB3.out.bel).mono ?_
            rintro e v4 ⟨rA, rn, rc, rA1, rn1, rc1, rA2, rn2, rc2, rfl, pe, pi_, po, hb⟩
            have XB4 := Lib.hid (XB3.out.on hb)
            have RQ4 := Lib.hid (RQ3.out.below hb)
            have A7_4 := Lib.hid (A7_3.out.below hb A7_3.out.lt)
            have A8_4 := Lib.hid (A8_3.out.below hb A8_3.out.lt)
            have RR4 : Hid (Rw v4 mx rA rn rc rA1 rn1 rc1 rA2 rn2 rc2) := Lib.hid ⟨pe.down (Nat.zero_le _), World.ownsRow.down pi_ (Nat.zero_le _), po.down (Nat.zero_le _)⟩
            clear pe pi_ po hb
            refine hK.out _ _ XB4.out.cells (fun hHeld => ?_)
            clear hK K
            try simp only [Act.put, List.setIfInBounds_toArray, List.set_cons_zero, List.set_cons_succ]
            refine wpAnyH_ready (rs := [6]) (by kernel_rfl) (by simp) ?_
            refine AllReadyH.cons rfl (fun K hK => ?_) AllReadyH.nil
            refine wp_store_nine rfl 31 _ _ rfl p7 #[.int .i64 0, .int .i64 0, .int .i64 0, .int .u64 0, .int .u64 0, .int .u64 0, .slice none 0 0, .int .u64 0, .bool false, .slice none 0 0, .slice none 0 0] 31 [.int .i64 mx.kind, .int .i64 mx.fr, .int .i64 mx.to, .int .u64 mx.t, .int .u64 mx.pi, .int .u64 mx.pt, .slice qA qn qc, .int .u64 mx.co, .bool mx.ok, .slice qA1 qn1 qc1, .slice qA2 qn2 qc2] rfl rfl A7_4.out rfl Tryd.i31 (by simp [Value.oneCell']) ?_
            intro v5 hb7 ho7
            have XB5 : Hid (Bx wr wr.heap.size xkind xfr xto xt xpi xpt xco xok xA xn xc xA1 xn1 xc1 xA2 xn2 xc2 v5) := Lib.hid ⟨ho7.keep XB4.out.blk (by have := Gp7.out; omega), XB4.out.bel.trans (ho7.below (by have := Gp7.out; omega)), XB4.out.low⟩
            have RQ5 := Lib.hid (RQ4.out.only A7_4.out ho7)
            have RR5 := Lib.hid (RR4.out.only A7_4.out ho7)
            have A8_5 := Lib.hid (ho7.keep A8_4.out (by have := NE.out; omega))
            have A7_5 : Hid (Blk v5 p7 31 #[.int .i64 mx.kind, .int .i64 mx.fr, .int .i64 mx.to, .int .u64 mx.t, .int .u64 mx.pi, .int .u64 mx.pt, .slice qA qn qc, .int .u64 mx.co, .bool mx.ok, .slice qA1 qn1 qc1, .slice qA2 qn2 qc2]) := Lib.hid hb7
            clear hb7 ho7
            refine hK.out _ _ XB5.out.cells (fun hHeld => ?_)
            clear hK K
            try simp only [Act.put, List.setIfInBounds_toArray, List.set_cons_zero, List.set_cons_succ]
            refine wpAnyH_ready (rs := [7]) (by kernel_rfl) (by simp) ?_
            refine AllReadyH.cons rfl (fun K hK => ?_) AllReadyH.nil
            refine wp_store_nine rfl 31 _ _ rfl p8 #[.int .i64 0, .int .i64 0, .int .i64 0, .int .u64 0, .int .u64 0, .int .u64 0, .slice none 0 0, .int .u64 0, .bool false, .slice none 0 0, .slice none 0 0] 31 [.int .i64 mx.kind, .int .i64 mx.fr, .int .i64 mx.to, .int .u64 mx.t, .int .u64 mx.pi, .int .u64 mx.pt, .slice rA rn rc, .int .u64 mx.co, .bool mx.ok, .slice rA1 rn1 rc1, .slice rA2 rn2 rc2] rfl rfl A8_5.out rfl Tryd.i31 (by simp [Value.oneCell']) ?_
            intro v6 hb7 ho7
            have XB6 : Hid (Bx wr wr.heap.size xkind xfr xto xt xpi xpt xco xok xA xn xc xA1 xn1 xc1 xA2 xn2 xc2 v6) := Lib.hid ⟨ho7.keep XB5.out.blk (by have := Gp8.out; omega), XB5.out.bel.trans (ho7.below (by have := Gp8.out; omega)), XB5.out.low⟩
            have RQ6 := Lib.hid (RQ5.out.only A8_5.out ho7)
            have RR6 := Lib.hid (RR5.out.only A8_5.out ho7)
            have A7_6 := Lib.hid (ho7.keep A7_5.out (by have := NE.out; omega))
            have A8_6 : Hid (Blk v6 p8 31 #[.int .i64 mx.kind, .int .i64 mx.fr, .int .i64 mx.to, .int .u64 mx.t, .int .u64 mx.pi, .int .u64 mx.pt, .slice rA rn rc, .int .u64 mx.co, .bool mx.ok, .slice rA1 rn1 rc1, .slice rA2 rn2 rc2]) := Lib.hid hb7
            clear hb7 ho7
            refine hK.out _ _ XB6.out.cells (fun hHeld => ?_)
            clear hK K
            try simp only [Act.put, List.setIfInBounds_toArray, List.set_cons_zero, List.set_cons_succ]
            refine wpAnyH_done (by kernel_rfl) ?_ _
            refine NoPanic.normal ?_
            go_wp2_with fail
            go_meet
            case rel => exact ⟨p7, p8, qA, qn, qc, qA1, qn1, qc1, qA2, qn2, qc2, rA, rn, rc, rA1, rn1, rc1, rA2, rn2, rc2, rfl, rfl, by have := NE.out; omega, by have := Gp7.out; omega, by have := Gp8.out; omega, A7_6.out, A8_6.out, RQ6.out, RR6.out, XB6.out.bel⟩
        · skip
          go_simp
          have hbb : Below v0.heap.size v0 (v0.alloc (.cells #[.int .i64 0, .int .i64 0, .int .i64 0, .int .u64 0, .int .u64 0, .int .u64 0, .slice none 0 0, .int .u64 0, .bool false, .slice none 0 0, .slice none 0 0] 31)) := (Below.refl _ _).alloc (Nat.le_refl _) _
          have XB1 := Lib.hid (XB0.out.on hbb)
          have A8_1 : Hid (Blk (v0.alloc (.cells #[.int .i64 0, .int .i64 0, .int .i64 0, .int .u64 0, .int .u64 0, .int .u64 0, .slice none 0 0, .int .u64 0, .bool false, .slice none 0 0, .slice none 0 0] 31)) v0.heap.size 31 #[.int .i64 0, .int .i64 0, .int .i64 0, .int .u64 0, .int .u64 0, .int .u64 0, .slice none 0 0, .int .u64 0, .bool false, .slice none 0 0, .slice none 0 0]) := Lib.hid (Blk.new _ _ _)
          have Gp8 : Hid (wr.heap.size < v0.heap.size) := Lib.hid XB0.out.blk.lt
          refine hK.out _ _ XB1.out.cells (fun hHeld => ?_)
          clear hK K hbb
          generalize (v0.alloc (.cells #[.int .i64 0, .int .i64 0, .int .i64 0, .int .u64 0, .int .u64 0, .int .u64 0, .slice none 0 0, .int .u64 0, .bool false, .slice none 0 0, .slice none 0 0] 31)) = v1 at *
          generalize v0.heap.size = p8 at *
          try simp only [Act.put, List.setIfInBounds_toArray, List.set_cons_zero, List.set_cons_succ]
          refine wpAnyH_ready (rs := [1, 4]) (by kernel_rfl) (by simp) ?_
          refine AllReadyH.cons rfl (fun K hK => ?_) (AllReadyH.cons rfl (fun K hK => ?_) AllReadyH.nil)
          · skip
            go_simp
            refine (FW.out _ XB1.out.bel).mono ?_
            rintro e v2 ⟨qA, qn, qc, qA1, qn1, qc1, qA2, qn2, qc2, rfl, pe, pi_, po, hb⟩
            have XB2 := Lib.hid (XB1.out.on hb)
            have A8_2 := Lib.hid (A8_1.out.below hb A8_1.out.lt)
            have RQ2 : Hid (Rw v2 mx qA qn qc qA1 qn1 qc1 qA2 qn2 qc2) := Lib.hid ⟨pe.down (Nat.zero_le _), World.ownsRow.down pi_ (Nat.zero_le _), po.down (Nat.zero_le _)⟩
            clear pe pi_ po hb
            refine hK.out _ _ XB2.out.cells (fun hHeld => ?_)
            clear hK K
            try simp only [Act.put, List.setIfInBounds_toArray, List.set_cons_zero, List.set_cons_succ]
            refine wpAnyH_ready (rs := [3, 4]) (by kernel_rfl) (by simp) ?_
            refine AllReadyH.cons rfl (fun K hK => ?_) (AllReadyH.cons rfl (fun K hK => ?_) AllReadyH.nil)
            · skip
              go_simp
              refine (FW.out _ XB2.out.bel).mono ?_
              rintro e v3 ⟨rA, rn, rc, rA1, rn1, rc1, rA2, rn2, rc2, rfl, pe, pi_, po, hb⟩
              have XB3 := Lib.hid (XB2.out.on hb)
              have RQ3 := Lib.hid (RQ2.out.below hb)
              have A8_3 := Lib.hid (A8_2.out.below hb A8_2.out.lt)
              have RR3 : Hid (Rw v3 mx rA rn rc rA1 rn1 rc1 rA2 rn2 rc2) := Lib.hid ⟨pe.down (Nat.zero_le _), World.ownsRow.down pi_ (Nat.zero_le _), po.down (Nat.zero_le _)⟩
              clear pe pi_ po hb
              refine hK.out _ _ XB3.out.cells (fun hHeld => ?_)
              clear hK K
              try simp only [Act.put, List.setIfInBounds_toArray, List.set_cons_zero, List.set_cons_succ]
              refine wpAnyH_ready (rs := [4]) (by kernel_rfl) (by simp) ?_
              refine AllReadyH.cons rfl (fun K hK => ?_) AllReadyH.nil
              go_simp
              have hbb : Below v3.heap.size v3 (v3.alloc (.cells #[.int .i64 0, .int .i64 0, .int .i64 0, .int .u64 0, .int .u64 0, .int .u64 0, .slice none 0 0, .int .u64 0, .bool false, .slice none 0 0, .slice none 0 0] 31)) := (Below.refl _ _).alloc (Nat.le_refl _) _
              have XB4 := Lib.hid (XB3.out.on hbb)
              have A7_4 : Hid (Blk (v3.alloc (.cells #[.int .i64 0, .int .i64 0, .int .i64 0, .int .u64 0, .int .u64 0, .int .u64 0, .slice none 0 0, .int .u64 0, .bool false, .slice none 0 0, .slice none 0 0] 31)) v3.heap.size 31 #[.int .i64 0, .int .i64 0, .int .i64 0, .int .u64 0, .int .u64 0, .int .u64 0, .slice none 0 0, .int .u64 0, .bool false, .slice none 0 0, .slice none 0 0]) := Lib.hid (Blk.new _ _ _)
              have Gp7 : Hid (wr.heap.size < v3.heap.size) := Lib.hid XB3.out.blk.lt
              have NE : Hid (p8 < v3.heap.size) := Lib.hid A8_3.out.lt
              have RQ4 := Lib.hid (RQ3.out.below hbb)
              have RR4 := Lib.hid (RR3.out.below hbb)
              have A8_4 := Lib.hid (A8_3.out.below hbb A8_3.out.lt)
              refine hK.out _ _ XB4.out.cells (fun hHeld => ?_)
              clear hK K hbb
              generalize (v3.alloc (.cells #[.int .i64 0, .int .i64 0, .int .i64 0, .int .u64 0, .int .u64 0, .int .u64 0, .slice none 0 0, .int .u64 0, .bool false, .slice none 0 0, .slice none 0 0] 31)) = v4 at *
              generalize v3.heap.size = p7 at *
              try simp only [Act.put, List.setIfInBounds_toArray, List.set_cons_zero, List.set_cons_succ]
              refine wpAnyH_ready (rs := [6]) (by kernel_rfl) (by simp) ?_
              refine AllReadyH.cons rfl (fun K hK => ?_) AllReadyH.nil
              refine wp_store_nine rfl 31 _ _ rfl p7 #[.int .i64 0, .int .i64 0, .int .i64 0, .int .u64 0, .int .u64 0, .int .u64 0, .slice none 0 0, .int .u64 0, .bool false, .slice none 0 0, .slice none 0 0] 31 [.int .i64 mx.kind, .int .i64 mx.fr, .int .i64 mx.to, .int .u64 mx.t, .int .u64 mx.pi, .int .u64 mx.pt, .slice qA qn qc, .int .u64 mx.co, .bool mx.ok, .slice qA1 qn1 qc1, .slice qA2 qn2 qc2] rfl rfl A7_4.out rfl Tryd.i31 (by simp [Value.oneCell']) ?_
              intro v5 hb7 ho7
              have XB5 : Hid (Bx wr wr.heap.size xkind xfr xto xt xpi xpt xco xok xA xn xc xA1 xn1 xc1 xA2 xn2 xc2 v5) := Lib.hid ⟨ho7.keep XB4.out.blk (by have := Gp7.out; omega), XB4.out.bel.trans (ho7.below (by have := Gp7.out; omega)), XB4.out.low⟩
              have RQ5 := Lib.hid (RQ4.out.only A7_4.out ho7)
              have RR5 := Lib.hid (RR4.out.only A7_4.out ho7)
              have A8_5 := Lib.hid (ho7.keep A8_4.out (by have := NE.out; omega))
              have A7_5 : Hid (Blk v5 p7 31 #[.int .i64 mx.kind, .int .i64 mx.fr, .int .i64 mx.to, .int .u64 mx.t, .int .u64 mx.pi, .int .u64 mx.pt, .slice qA qn qc, .int .u64 mx.co, .bool mx.ok, .slice qA1 qn1 qc1, .slice qA2 qn2 qc2]) := Lib.hid hb7
              clear hb7 ho7
              refine hK.out _ _ XB5.out.cells (fun hHeld => ?_)
              clear hK K
              try simp only [Act.put, List.setIfInBounds_toArray, List.set_cons_zero, List.set_cons_succ]
              refine wpAnyH_ready (rs := [7]) (by kernel_rfl) (by simp) ?_
              refine AllReadyH.cons rfl (fun K hK => ?_) AllReadyH.nil
              refine wp_store_nine rfl 31 _ _ rfl p8 #[.int .i64 0, .int .i64 0, .int .i64 0, .int .u64 0, .int .u64 0, .int .u64 0, .slice none 0 0, .int .u64 0, .bool false, .slice none 0 0, .slice none 0 0] 31 [.int .i64 mx.kind, .int .i64 mx.fr, .int .i64 mx.to, .int .u64 mx.t, .int .u64 mx.pi, .int .u64 mx.pt, .slice rA rn rc, .int .u64 mx.co, .bool mx.ok, .slice rA1 rn1 rc1, .slice rA2 rn2 rc2] rfl rfl A8_5.out rfl Tryd.i31 (by simp [Value.oneCell']) ?_
              intro v6 hb7 ho7
              have XB6 : Hid (Bx wr wr.heap.size xkind xfr xto xt xpi xpt xco xok xA xn xc xA1 xn1 xc1 xA2 xn2 xc2 v6) := Lib.hid ⟨ho7.keep XB5.out.blk (by have := Gp8.out; omega), XB5.out.bel.trans (ho7.below (by have := Gp8.out; omega)), XB5.out.low⟩
              have RQ6 := Lib.hid (RQ5.out.only A8_5.out ho7)
              have RR6 := Lib.hid (RR5.out.only A8_5.out ho7)
              have A7_6 := Lib.hid (ho7.keep A7_5.out (by have := NE.out; omega))
              have A8_6 : Hid (Blk v6 p8 31 #[.int .i64 mx.kind, .int .i64 mx.fr, .int .i64 mx.to, .int .u64 mx.t, .int .u64 mx.pi, .int .u64 mx.pt, .slice rA rn rc, .int .u64 mx.co, .bool mx.ok, .slice rA1 rn1 rc1, .slice rA2 rn2 rc2]) := Lib.hid hb7
              clear hb7 ho7
              refine hK.out _ _ XB6.out.cells (fun hHeld => ?_)
              clear hK K
              try simp only [Act.put, List.setIfInBounds_toArray, List.set_cons_zero, List.set_cons_succ]
              refine wpAnyH_done (by kernel_rfl) ?_ _
              refine NoPanic.normal ?_
              go_wp2_with fail
              go_meet
              case rel => exact ⟨p7, p8, qA, qn, qc, qA1, qn1, qc1, qA2, qn2, qc2, rA, rn, rc, rA1, rn1, rc1, rA2, rn2, rc2, rfl, rfl, by have := NE.out; omega, by have := Gp7.out; omega, by have := Gp8.out; omega, A7_6.out, A8_6.out, RQ6.out, RR6.out, XB6.out.bel⟩
            · skip
              go_simp
              have hbb : Below v2.heap.size v2 (v2.alloc (.cells #[.int .i64 0, .int .i64 0, .int .i64 0, .int .u64 0, .int .u64 0, .int .u64 0, .slice none 0 0, .int .u64 0, .bool false, .slice none 0 0, .slice none 0 0] 31)) := (Below.refl _ _).alloc (Nat.le_refl _) _
              have XB3 := Lib.hid (XB2.out.on hbb)
              have A7_3 : Hid (Blk (v2.alloc (.cells #[.int .i64 0, .int .i64 0, .int .i64 0, .int .u64 0, .int .u64 0, .int .u64 0, .slice none 0 0, .int .u64 0, .bool false, .slice none 0 0, .slice none 0 0] 31)) v2.heap.size 31 #[.int .i64 0, .int .i64 0, .int .i64 0, .int .u64 0, .int .u64 0, .int .u64 0, .slice none 0 0, .int .u64 0, .bool false, .slice none 0 0, .slice none 0 0]) := Lib.hid (Blk.new _ _ _)
              have Gp7 : Hid (wr.heap.size < v2.heap.size) := Lib.hid XB2.out.blk.lt
              have NE : Hid (p8 < v2.heap.size) := Lib.hid A8_2.out.lt
              have RQ3 := Lib.hid (RQ2.out.below hbb)
              have A8_3 := Lib.hid (A8_2.out.below hbb A8_2.out.lt)
              refine hK.out _ _ XB3.out.cells (fun hHeld => ?_)
              clear hK K hbb
              generalize (v2.alloc (.cells #[.int .i64 0, .int .i64 0, .int .i64 0, .int .u64 0, .int .u64 0, .int .u64 0, .slice none 0 0, .int .u64 0, .bool false, .slice none 0 0, .slice none 0 0] 31)) = v3 at *
              generalize v2.heap.size = p7 at *
              try simp only [Act.put, List.setIfInBounds_toArray, List.set_cons_zero, List.set_cons_succ]
              refine wpAnyH_ready (rs := [3]) (by kernel_rfl) (by simp) ?_
              refine AllReadyH.cons rfl (fun K hK => ?_) AllReadyH.nil
              go_simp
              refine (FW.out _ XB3.out.bel).mono ?_
              rintro e v4 ⟨rA, rn, rc, rA1, rn1, rc1, rA2, rn2, rc2, rfl, pe, pi_, po, hb⟩
              have XB4 := Lib.hid (XB3.out.on hb)
              have RQ4 := Lib.hid (RQ3.out.below hb)
              have A7_4 := Lib.hid (A7_3.out.below hb A7_3.out.lt)
              have A8_4 := Lib.hid (A8_3.out.below hb A8_3.out.lt)
              have RR4 : Hid (Rw v4 mx rA rn rc rA1 rn1 rc1 rA2 rn2 rc2) := Lib.hid ⟨pe.down (Nat.zero_le _), World.ownsRow.down pi_ (Nat.zero_le _), po.down (Nat.zero_le _)⟩
              clear pe pi_ po hb
              refine hK.out _ _ XB4.out.cells (fun hHeld => ?_)
              clear hK K
              try simp only [Act.put, List.setIfInBounds_toArray, List.set_cons_zero, List.set_cons_succ]
              refine wpAnyH_ready (rs := [6]) (by kernel_rfl) (by simp) ?_
              refine AllReadyH.cons rfl (fun K hK => ?_) AllReadyH.nil
              refine wp_store_nine rfl 31 _ _ rfl p7 #[.int .i64 0, .int .i64 0, .int .i64 0, .int .u64 0, .int .u64 0, .int .u64 0, .slice none 0 0, .int .u64 0, .bool false, .slice none 0 0, .slice none 0 0] 31 [.int .i64 mx.kind, .int .i64 mx.fr, .int .i64 mx.to, .int .u64 mx.t, .int .u64 mx.pi, .int .u64 mx.pt, .slice qA qn qc, .int .u64 mx.co, .bool mx.ok, .slice qA1 qn1 qc1, .slice qA2 qn2 qc2] rfl rfl A7_4.out rfl Tryd.i31 (by simp [Value.oneCell']) ?_
              intro v5 hb7 ho7
              have XB5 : Hid (Bx wr wr.heap.size xkind xfr xto xt xpi xpt xco xok xA xn xc xA1 xn1 xc1 xA2 xn2 xc2 v5) := Lib.hid ⟨ho7.keep XB4.out.blk (by have := Gp7.out; omega), XB4.out.bel.trans (ho7.below (by have := Gp7.out; omega)), XB4.out.low⟩
              have RQ5 := Lib.hid (RQ4.out.only A7_4.out ho7)
              have RR5 := Lib.hid (RR4.out.only A7_4.out ho7)
              have A8_5 := Lib.hid (ho7.keep A8_4.out (by have := NE.out; omega))
              have A7_5 : Hid (Blk v5 p7 31 #[.int .i64 mx.kind, .int .i64 mx.fr, .int .i64 mx.to, .int .u64 mx.t, .int .u64 mx.pi, .int .u64 mx.pt, .slice qA qn qc, .int .u64 mx.co, .bool mx.ok, .slice qA1 qn1 qc1, .slice qA2 qn2 qc2]) := Lib.hid hb7
              clear hb7 ho7
              refine hK.out _ _ XB5.out.cells (fun hHeld => ?_)
              clear hK K
              try simp only [Act.put, List.setIfInBounds_toArray, List.set_cons_zero, List.set_cons_succ]
              refine wpAnyH_ready (rs := [7]) (by kernel_rfl) (by simp) ?_
              refine AllReadyH.cons rfl (fun K hK => ?_) AllReadyH.nil
              refine wp_store_nine rfl 31 _ _ rfl p8 #[.int .i64 0, .int .i64 0, .int .i64 0, .int .u64 0, .int .u64 0, .int .u64 0, .slice none 0 0, .int .u64 0, .bool false, .slice none 0 0, .slice none 0 0] 31 [.int .i64 mx.kind, .int .i64 mx.fr, .int .i64 mx.to, .int .u64 mx.t, .int .u64 mx.pi, .int .u64 mx.pt, .slice rA rn rc, .int .u64 mx.co, .bool mx.ok, .slice rA1 rn1 rc1, .slice rA2 rn2 rc2] rfl rfl A8_5.out rfl Tryd.i31 (by simp [Value.oneCell']) ?_
              intro v6 hb7 ho7
              have XB6 : Hid (Bx wr wr.heap.size xkind xfr xto xt xpi xpt xco xok xA xn xc xA1 xn1 xc1 xA2 xn2 xc2 v6) := Lib.hid ⟨ho7.keep XB5.out.blk (by have := Gp8.out; omega), XB5.out.bel.trans (ho7.below (by have := Gp8.out; omega)), XB5.out.low⟩
              have RQ6 := Lib.hid (RQ5.out.only A8_5.out ho7)
              have RR6 := Lib.hid (RR5.out.only A8_5.out ho7)
              have A7_6 := Lib.hid (ho7.keep A7_5.out (by have := NE.out; omega))
              have A8_6 : Hid (Blk v6 p8 31 #[.int .i64 mx.kind, .int .i64 mx.fr, .int .i64 mx.to, .int .u64 mx.t, .int .u64 mx.pi, .int .u64 mx.pt, .slice rA rn rc, .int .u64 mx.co, .bool mx.ok, .slice rA1 rn1 rc1, .slice rA2 rn2 rc2]) := Lib.hid hb7
              clear hb7 ho7
              refine hK.out _ _ XB6.out.cells (fun hHeld => ?_)
              clear hK K
              try simp only [Act.put, List.setIfInBounds_toArray, List.set_cons_zero, List.set_cons_succ]
              refine wpAnyH_done (by kernel_rfl) ?_ _
              refine NoPanic.normal ?_
              go_wp2_with fail
              go_meet
              case rel => exact ⟨p7, p8, qA, qn, qc, qA1, qn1, qc1, qA2, qn2, qc2, rA, rn, rc, rA1, rn1, rc1, rA2, rn2, rc2, rfl, rfl, by have := NE.out; omega, by have := Gp7.out; omega, by have := Gp8.out; omega, A7_6.out, A8_6.out, RQ6.out, RR6.out, XB6.out.bel⟩
          · skip
            go_simp
            have hbb : Below v1.heap.size v1 (v1.alloc (.cells #[.int .i64 0, .int .i64 0, .int .i64 0, .int .u64 0, .int .u64 0, .int .u64 0, .slice none 0 0, .int .u64 0, .bool false, .slice none 0 0, .slice none 0 0] 31)) := (Below.refl _ _).alloc (Nat.le_refl _) _
            have XB2 := Lib.hid (XB1.out.on hbb)
            have A7_2 : Hid (Blk (v1.alloc (.cells #[.int .i64 0, .int .i64 0, .int .i64 0, .int .u64 0, .int .u64 0, .int .u64 0, .slice none 0 0, .int .u64 0, .bool false, .slice none 0 0, .slice none 0 0] 31)) v1.heap.size 31 #[.int .i64 0, .int .i64 0, .int .i64 0, .int .u64 0, .int .u64 0, .int .u64 0, .slice none 0 0, .int .u64 0, .bool false, .slice none 0 0, .slice none 0 0]) := Lib.hid (Blk.new _ _ _)
            have Gp7 : Hid (wr.heap.size < v1.heap.size) := Lib.hid XB1.out.blk.lt
            have NE : Hid (p8 < v1.heap.size) := Lib.hid A8_1.out.lt
            have A8_2 := Lib.hid (A8_1.out.below hbb A8_1.out.lt)
            refine hK.out _ _ XB2.out.cells (fun hHeld => ?_)
            clear hK K hbb
            generalize (v1.alloc (.cells #[.int .i64 0, .int .i64 0, .int .i64 0, .int .u64 0, .int .u64 0, .int .u64 0, .slice none 0 0, .int .u64 0, .bool false, .slice none 0 0, .slice none 0 0] 31)) = v2 at *
            generalize v1.heap.size = p7 at *
            try simp only [Act.put, List.setIfInBounds_toArray, List.set_cons_zero, List.set_cons_succ]
            refine wpAnyH_ready (rs := [1]) (by kernel_rfl) (by simp) ?_
            refine AllReadyH.cons rfl (fun K hK => ?_) AllReadyH.nil
            go_simp
            refine (FW.out _ XB2.out.bel).mono ?_
            rintro e v3 ⟨qA, qn, qc, qA1, qn1, qc1, qA2, qn2, qc2, rfl, pe, pi_, po, hb⟩
            have XB3 := Lib.hid (XB2.out.on hb)
            have A7_3 := Lib.hid (A7_2.out.below hb A7_2.out.lt)
            have A8_3 := Lib.hid (A8_2.out.below hb A8_2.out.lt)
            have RQ3 : Hid (Rw v3 mx qA qn qc qA1 qn1 qc1 qA2 qn2 qc2) := Lib.hid ⟨pe.down (Nat.zero_le _), World.ownsRow.down pi_ (Nat.zero_le _), po.down (Nat.zero_le _)⟩
            clear pe pi_ po hb
            refine hK.out _ _ XB3.out.cells (fun hHeld => ?_)
            clear hK K
            try simp only [Act.put, List.setIfInBounds_toArray, List.set_cons_zero, List.set_cons_succ]
            refine wpAnyH_ready (rs := [3]) (by kernel_rfl) (by simp) ?_
            refine AllReadyH.cons rfl (fun K hK => ?_) AllReadyH.nil
            go_simp
            refine (FW.out _ XB3.out.bel).mono ?_
            rintro e v4 ⟨rA, rn, rc, rA1, rn1, rc1, rA2, rn2, rc2, rfl, pe, pi_, po, hb⟩
            have XB4 := Lib.hid (XB3.out.on hb)
            have RQ4 := Lib.hid (RQ3.out.below hb)
            have A7_4 := Lib.hid (A7_3.out.below hb A7_3.out.lt)
            have A8_4 := Lib.hid (A8_3.out.below hb A8_3.out.lt)
            have RR4 : Hid (Rw v4 mx rA rn rc rA1 rn1 rc1 rA2 rn2 rc2) := Lib.hid ⟨pe.down (Nat.zero_le _), World.ownsRow.down pi_ (Nat.zero_le _), po.down (Nat.zero_le _)⟩
            clear pe pi_ po hb
            refine hK.out _ _ XB4.out.cells (fun hHeld => ?_)
            clear hK K
            try simp only [Act.put, List.setIfInBounds_toArray, List.set_cons_zero, List.set_cons_succ]
            refine wpAnyH_ready (rs := [6]) (by kernel_rfl) (by simp) ?_
            refine AllReadyH.cons rfl (fun K hK => ?_) AllReadyH.nil
            refine wp_store_nine rfl 31 _ _ rfl p7 #[.int .i64 0, .int .i64 0, .int .i64 0, .int .u64 0, .int .u64 0, .int .u64 0, .slice none 0 0, .int .u64 0, .bool false, .slice none 0 0, .slice none 0 0] 31 [.int .i64 mx.kind, .int .i64 mx.fr, .int .i64 mx.to, .int .u64 mx.t, .int .u64 mx.pi, .int .u64 mx.pt, .slice qA qn qc, .int .u64 mx.co, .bool mx.ok, .slice qA1 qn1 qc1, .slice qA2 qn2 qc2] rfl rfl A7_4.out rfl Tryd.i31 (by simp [Value.oneCell']) ?_
            intro v5 hb7 ho7
            have XB5 : Hid (Bx wr wr.heap.size xkind xfr xto xt xpi xpt xco xok xA xn xc xA1 xn1 xc1 xA2 xn2 xc2 v5) := Lib.hid ⟨ho7.keep XB4.out.blk (by have := Gp7.out; omega), XB4.out.bel.trans (ho7.below (by have := Gp7.out; omega)), XB4.out.low⟩
            have RQ5 := Lib.hid (RQ4.out.only A7_4.out ho7)
            have RR5 := Lib.hid (RR4.out.only A7_4.out ho7)
            have A8_5 := Lib.hid (ho7.keep A8_4.out (by have := NE.out; omega))
            have A7_5 : Hid (Blk v5 p7 31 #[.int .i64 mx.kind, .int .i64 mx.fr, .int .i64 mx.to, .int .u64 mx.t, .int .u64 mx.pi, .int .u64 mx.pt, .slice qA qn qc, .int .u64 mx.co, .bool mx.ok, .slice qA1 qn1 qc1, .slice qA2 qn2 qc2]) := Lib.hid hb7
            clear hb7 ho7
            refine hK.out _ _ XB5.out.cells (fun hHeld => ?_)
            clear hK K
            try simp only [Act.put, List.setIfInBounds_toArray, List.set_cons_zero, List.set_cons_succ]
            refine wpAnyH_ready (rs := [7]) (by kernel_rfl) (by simp) ?_
            refine AllReadyH.cons rfl (fun K hK => ?_) AllReadyH.nil
            refine wp_store_nine rfl 31 _ _ rfl p8 #[.int .i64 0, .int .i64 0, .int .i64 0, .int .u64 0, .int .u64 0, .int .u64 0, .slice none 0 0, .int .u64 0, .bool false, .slice none 0 0, .slice none 0 0] 31 [.int .i64 mx.kind, .int .i64 mx.fr, .int .i64 mx.to, .int .u64 mx.t, .int .u64 mx.pi, .int .u64 mx.pt, .slice rA rn rc, .int .u64 mx.co, .bool mx.ok, .slice rA1 rn1 rc1, .slice rA2 rn2 rc2] rfl rfl A8_5.out rfl Tryd.i31 (by simp [Value.oneCell']) ?_
            intro v6 hb7 ho7
            have XB6 : Hid (Bx wr wr.heap.size xkind xfr xto xt xpi xpt xco xok xA xn xc xA1 xn1 xc1 xA2 xn2 xc2 v6) := Lib.hid ⟨ho7.keep XB5.out.blk (by have := Gp8.out; omega), XB5.out.bel.trans (ho7.below (by have := Gp8.out; omega)), XB5.out.low⟩
            have RQ6 := Lib.hid (RQ5.out.only A8_5.out ho7)
            have RR6 := Lib.hid (RR5.out.only A8_5.out ho7)
            have A7_6 := Lib.hid (ho7.keep A7_5.out (by have := NE.out; omega))
            have A8_6 : Hid (Blk v6 p8 31 #[.int .i64 mx.kind, .int .i64 mx.fr, .int .i64 mx.to, .int .u64 mx.t, .int .u64 mx.pi, .int .u64 mx.pt, .slice rA rn rc, .int .u64 mx.co, .bool mx.ok, .slice rA1 rn1 rc1, .slice rA2 rn2 rc2]) := Lib.hid hb7
            clear hb7 ho7
            refine hK.out _ _ XB6.out.cells (fun hHeld => ?_)
            clear hK K
            try simp only [Act.put, List.setIfInBounds_toArray, List.set_cons_zero, List.set_cons_succ]
            refine wpAnyH_done (by kernel_rfl) ?_ _
            refine NoPanic.normal ?_
            go_wp2_with fail
            go_meet
            case rel => exact ⟨p7, p8, qA, qn, qc, qA1, qn1, qc1, qA2, qn2, qc2, rA, rn, rc, rA1, rn1, rc1, rA2, rn2, rc2, rfl, rfl, by have := NE.out; omega, by have := Gp7.out; omega, by have := Gp8.out; omega, A7_6.out, A8_6.out, RQ6.out, RR6.out, XB6.out.bel⟩
      case rest =>
        obtain ⟨p7, p8, qA, qn, qc, qA1, qn1, qc1, qA2, qn2, qc2, rA, rn, rc, rA1, rn1, rc1, rA2, rn2, rc2, rfl, rfl, hpp, hp7, hp8, k7, k8, kq, kr, kb⟩ := hcut
        have A7 := Lib.hid k7
        have A8 := Lib.hid k8
        have RQ := Lib.hid kq
        have RR := Lib.hid kr
        have H0 : Hid (Below w.heap.size w wc) := Lib.hid (D2.bel.trans (kb.mono D2.bel.size))
        have H1 : Hid (Below w1.heap.size w1 wc) := Lib.hid (IB.out.trans (kb.mono IB.out.size))
        clear hpp hp7 hp8 k7 k8 kq kr kb FW XB0 I0 I1 d0 d1 d2 d3 d4 d5 d6 d7 d8 d9 d10 d11 d12 d13 d14 d15 d16 d17 d18 d19 d20 d21
        cases hR : rightM mx with
        | true =>
          have HCK : Hid (chkM mx = 0) := Lib.hid (by unfold chkM; rw [hR]; rfl)
          have HR := Lib.hid hR
          clear hR
          go_upto_region 8 with (first
            | ((with_reducible refine at_load (t := 31) ?_); refine wpList_load_mid rfl 31 _ rfl p7 0 rfl [.int .i64 mx.kind, .int .i64 mx.fr, .int .i64 mx.to, .int .u64 mx.t, .int .u64 mx.pi, .int .u64 mx.pt, .slice qA qn qc, .int .u64 mx.co, .bool mx.ok, .slice qA1 qn1 qc1, .slice qA2 qn2 qc2] _ (Blk.rng A7.out) Tryd.underlying31 rfl Tryd.i31 ?_)
            | (go_at_call 10; refine (encode_any mx qA qn qc qA1 qn1 qc1 qA2 qn2 qc2 _ wc (RQ.out.mr MX.out) (Nat.le_refl _) (GLH.out.on H0.out)).mono ?_; unfold Enc; rw [HCK.out, if_pos HR.out]; rintro e w4 ⟨y6, nn, cc, rfl, oo, hb⟩; have O4 := Lib.hid oo; have E4 := Lib.hid hb; clear oo hb))
          have B4 := Lib.hid (A7.out.below E4.out A7.out.lt)
          have R4 := Lib.hid (RQ.out.below E4.out)
          go_upto_region 9 with (first
            | ((with_reducible refine at_load (t := 31) ?_); refine wpList_load_mid rfl 31 _ rfl p7 0 rfl [.int .i64 mx.kind, .int .i64 mx.fr, .int .i64 mx.to, .int .u64 mx.t, .int .u64 mx.pi, .int .u64 mx.pt, .slice qA qn qc, .int .u64 mx.co, .bool mx.ok, .slice qA1 qn1 qc1, .slice qA2 qn2 qc2] _ (Blk.rng B4.out) Tryd.underlying31 rfl Tryd.i31 ?_)
            | (go_at_call 11; refine (check_any mx qA qn qc qA1 qn1 qc1 qA2 qn2 qc2 _ w4 (R4.out.mr MX.out) (Nat.le_refl _)).mono ?_; rw [HCK.out]; rintro e w5 ⟨rfl, hb⟩; have O5 := Lib.hid (O4.out.below hb); have E5 := Lib.hid (E4.out.trans (hb.mono E4.out.size)); clear hb))
          clear B4 R4 O4 E4
          have B5 := Lib.hid (A8.out.below E5.out A8.out.lt)
          have R5 := Lib.hid (RR.out.below E5.out)
          go_upto_region 10 with (first
            | ((with_reducible refine at_load (t := 31) ?_); refine wpList_load_mid rfl 31 _ rfl p8 0 rfl [.int .i64 mx.kind, .int .i64 mx.fr, .int .i64 mx.to, .int .u64 mx.t, .int .u64 mx.pi, .int .u64 mx.pt, .slice rA rn rc, .int .u64 mx.co, .bool mx.ok, .slice rA1 rn1 rc1, .slice rA2 rn2 rc2] _ (Blk.rng B5.out) Tryd.underlying31 rfl Tryd.i31 ?_)
            | (go_at_call 12; refine (refright_any mx rA rn rc rA1 rn1 rc1 rA2 rn2 rc2 _ w5 (R5.out.mr MX.out) (Nat.le_refl _)).mono ?_; rw [HR.out]; rintro e w6 ⟨rfl, hb⟩; have O6 := Lib.hid (O5.out.below hb); have E6 := Lib.hid (E5.out.trans (hb.mono E5.out.size)); clear hb))
          clear B5 R5 O5 E5
          have B6 := Lib.hid (A8.out.below E6.out A8.out.lt)
          have R6 := Lib.hid (RR.out.below E6.out)
          have IN6 := Lib.hid (R6.out.mr MX.out).in_
          have PL := Lib.hid (plain_len HR.out IN6.out)
          have LE := Lib.hid (encB_len mx)
          have LY : Hid (nn = (encB mx).length) := Lib.hid O6.out.len.symm
          have BY7 := Lib.hid (fun W (hW : Below w6.heap.size w6 W) => bytes7_any mx rA rn rc rA1 rn1 rc1 rA2 rn2 rc2 _ W ((R6.out.below hW).mr MX.out) (Nat.le_refl _) HR.out)
          generalize encB mx = EN at *
          go_upto_region 14 with (first
            | (refine wpList_load_if (by kernel_rfl) 31 _ rfl p8 0 rfl [.int .i64 mx.kind, .int .i64 mx.fr, .int .i64 mx.to, .int .u64 mx.t, .int .u64 mx.pi, .int .u64 mx.pt, .slice rA rn rc, .int .u64 mx.co, .bool mx.ok, .slice rA1 rn1 rc1, .slice rA2 rn2 rc2] _ (Blk.rng B6.out) Tryd.underlying31 rfl Tryd.i31 ?_)
            | (go_at_call 14; refine (BY7.out w6 (Below.refl _ _)).mono ?_; rintro e w7 ⟨z6, zc, rfl, oo, hb⟩; have Z7 := Lib.hid oo; have O7 := Lib.hid (O6.out.below hb); have E7 := Lib.hid (E6.out.trans (hb.mono E6.out.size)); clear oo hb)
            | (go_at_call 13; refine (same_any y6 z6 nn cc EN.length zc EN EN w7 _ _ O7.out.by Z7.out.by (by have := PL.out; have := LE.out; have := LY.out; omega) (by have := PL.out; have := LE.out; omega)).mono ?_; rw [show (EN == EN) = true from beq_self_eq_true EN]; rintro e w8 ⟨rfl, qq, rfl⟩))
          have O8 := Lib.hid (O7.out.below (below_drewN (Below.refl w7.heap.size w7) qq))
          have E8 := Lib.hid (below_drewN E7.out qq)
          clear Z7 O7 E7 O6 E6 B6 R6 IN6 PL LE LY BY7
          generalize w7.drewN qq = w9 at *
          have C8 := O8.out.cap
          have M8 := O8.out.capmax
          go_wp2_with fail
          go_loopw [60] (fun iv wx => ∃ k : Nat, k ≤ nn ∧ iv = .int .i64 (k : Int) ∧ ∃ zs, Hid (Own wx wc.heap.size y6 nn cc zs) ∧ Hid (Below wc.heap.size wc wx)) (fun iv _ => nn - (intOf iv).toNat)
          case atStart => exact ⟨0, Nat.zero_le _, rfl, _, O8, E8⟩
          case round =>
            obtain ⟨k, hk, rfl, zs, OZ, EZ⟩ := hrel
            by_cases hlt : k < nn
            · obtain ⟨g, hg⟩ : ∃ g, y6 = some ⟨g, 0, none⟩ := by
                rcases OZ.out.form with ⟨_, h, _⟩ | ⟨g, h, _⟩
                · omega
                · exact ⟨g, h⟩
              subst hg
              have gb : wc.heap.size ≤ g := by
                rcases OZ.out.form with ⟨h, _⟩ | ⟨g', h, h1, _⟩
                · cases h
                · injection h with h
                  injection h with h
                  omega
              have c0 := OZ.out.at_ rfl k hlt
              have f0 : World.frozen? _ ⟨g, k, none⟩ = false := OZ.out.1.frozenAt k
              have OY := Lib.hid (fun v h0 h1 => OZ.out.set_ k v hlt h0 h1)
              have EY := Lib.hid (fun v => EZ.out.setCell (p := ⟨g, k, none⟩) gb v)
              generalize zs.getD k 0 = z at *
              have k0 : (0 : Int) ≤ (k : Int) := by omega
              have kn : (k : Int) < (nn : Int) := by omega
              have km : (k : Int) + 1 ≤ 9223372036854775807 := by omega
              clear O8 E8
              go_wp2_with fail
              go_roundw
              case rel => exact ⟨k + 1, by omega, by go_num, _, Lib.hid (OY.out _ (by omega) (by omega)), Lib.hid (EY.out _)⟩
              case measure => simp [intOf]; omega
            · obtain rfl : k = nn := by omega
              have B9 := Lib.hid (A7.out.below EZ.out A7.out.lt)
              have C9 := Lib.hid (A8.out.below EZ.out A8.out.lt)
              have R9 := Lib.hid (RQ.out.below EZ.out)
              have S9 := Lib.hid (RR.out.below EZ.out)
              clear O8 E8
              go_wp2_with (first
                | ((with_reducible refine at_load (t := 31) ?_); refine wpList_load_mid rfl 31 _ rfl p7 0 rfl [.int .i64 mx.kind, .int .i64 mx.fr, .int .i64 mx.to, .int .u64 mx.t, .int .u64 mx.pi, .int .u64 mx.pt, .slice qA qn qc, .int .u64 mx.co, .bool mx.ok, .slice qA1 qn1 qc1, .slice qA2 qn2 qc2] _ (Blk.rng B9.out) Tryd.underlying31 rfl Tryd.i31 ?_)
                | ((with_reducible refine at_load (t := 31) ?_); refine wpList_load_mid rfl 31 _ rfl p8 0 rfl [.int .i64 mx.kind, .int .i64 mx.fr, .int .i64 mx.to, .int .u64 mx.t, .int .u64 mx.pi, .int .u64 mx.pt, .slice rA rn rc, .int .u64 mx.co, .bool mx.ok, .slice rA1 rn1 rc1, .slice rA2 rn2 rc2] _ (Blk.rng C9.out) Tryd.underlying31 rfl Tryd.i31 ?_)
                | (go_at_call 15; refine (refmsame_any mx mx qA qn qc qA1 qn1 qc1 qA2 qn2 qc2 rA rn rc rA1 rn1 rc1 rA2 rn2 rc2 _ _ (R9.out.mr MX.out) (S9.out.mr MX.out) (Nat.le_refl _)).mono ?_; rw [show decide (mx = mx) = true from decide_eq_true rfl]; rintro e w8 ⟨rfl, hb⟩; have E9 := Lib.hid (H1.out.trans ((EZ.out.trans (hb.mono EZ.out.size)).mono H1.out.size)); clear hb))
              go_roundw
              case rel => exact ⟨.inr (.inl rfl), E9⟩
              case measure => simp [intOf]
        | false =>
          have HCK : Hid (chkM mx = 170) := Lib.hid (by unfold chkM; rw [hR]; rfl)
          have HR := Lib.hid hR
          clear hR
          go_upto_region 8 with (first
            | ((with_reducible refine at_load (t := 31) ?_); refine wpList_load_mid rfl 31 _ rfl p7 0 rfl [.int .i64 mx.kind, .int .i64 mx.fr, .int .i64 mx.to, .int .u64 mx.t, .int .u64 mx.pi, .int .u64 mx.pt, .slice qA qn qc, .int .u64 mx.co, .bool mx.ok, .slice qA1 qn1 qc1, .slice qA2 qn2 qc2] _ (Blk.rng A7.out) Tryd.underlying31 rfl Tryd.i31 ?_)
            | (go_at_call 10; refine (encode_any mx qA qn qc qA1 qn1 qc1 qA2 qn2 qc2 _ wc (RQ.out.mr MX.out) (Nat.le_refl _) (GLH.out.on H0.out)).mono ?_; unfold Enc; rw [HCK.out, HR.out]; rintro e w4 ⟨y6, nn, cc, rfl, oo, hb⟩; have O4 : Hid (Own w4 wc.heap.size y6 nn cc []) := Lib.hid oo; have E4 := Lib.hid hb; clear oo hb))
          have B4 := Lib.hid (A7.out.below E4.out A7.out.lt)
          have R4 := Lib.hid (RQ.out.below E4.out)
          go_upto_region 9 with (first
            | ((with_reducible refine at_load (t := 31) ?_); refine wpList_load_mid rfl 31 _ rfl p7 0 rfl [.int .i64 mx.kind, .int .i64 mx.fr, .int .i64 mx.to, .int .u64 mx.t, .int .u64 mx.pi, .int .u64 mx.pt, .slice qA qn qc, .int .u64 mx.co, .bool mx.ok, .slice qA1 qn1 qc1, .slice qA2 qn2 qc2] _ (Blk.rng B4.out) Tryd.underlying31 rfl Tryd.i31 ?_)
            | (go_at_call 11; refine (check_any mx qA qn qc qA1 qn1 qc1 qA2 qn2 qc2 _ w4 (R4.out.mr MX.out) (Nat.le_refl _)).mono ?_; rw [HCK.out]; rintro e w5 ⟨rfl, hb⟩; have O5 := Lib.hid (O4.out.below hb); have E5 := Lib.hid (E4.out.trans (hb.mono E4.out.size)); clear hb))
          clear B4 R4 O4 E4
          have B5 := Lib.hid (A8.out.below E5.out A8.out.lt)
          have R5 := Lib.hid (RR.out.below E5.out)
          go_upto_region 12 with (first
            | ((with_reducible refine at_load (t := 31) ?_); refine wpList_load_mid rfl 31 _ rfl p8 0 rfl [.int .i64 mx.kind, .int .i64 mx.fr, .int .i64 mx.to, .int .u64 mx.t, .int .u64 mx.pi, .int .u64 mx.pt, .slice rA rn rc, .int .u64 mx.co, .bool mx.ok, .slice rA1 rn1 rc1, .slice rA2 rn2 rc2] _ (Blk.rng B5.out) Tryd.underlying31 rfl Tryd.i31 ?_)
            | (go_at_call 12; refine (refright_any mx rA rn rc rA1 rn1 rc1 rA2 rn2 rc2 _ w5 (R5.out.mr MX.out) (Nat.le_refl _)).mono ?_; rw [HR.out]; rintro e w6 ⟨rfl, hb⟩; have O6 := Lib.hid (O5.out.below hb); have E6 := Lib.hid (E5.out.trans (hb.mono E5.out.size)); clear hb))
          clear B5 R5 O5 E5
          have yn0 : nn = 0 := by have := O6.out.len; simpa using this.symm
          subst yn0
          go_upto_region 14 with (fail)
          have O8 := O6
          have E8 := E6
          clear O6 E6
          generalize w6 = w9 at *
          have C8 := O8.out.cap
          have M8 := O8.out.capmax
          go_wp2_with fail
          go_loopw [60] (fun iv wx => ∃ k : Nat, k ≤ 0 ∧ iv = .int .i64 (k : Int) ∧ ∃ zs, Hid (Own wx wc.heap.size y6 0 cc zs) ∧ Hid (Below wc.heap.size wc wx)) (fun iv _ => 0 - (intOf iv).toNat)
          case atStart => exact ⟨0, Nat.zero_le _, rfl, _, O8, E8⟩
          case round =>
            obtain ⟨k, hk, rfl, zs, OZ, EZ⟩ := hrel
            by_cases hlt : k < 0
            · omega
            · obtain rfl : k = 0 := by omega
              have B9 := Lib.hid (A7.out.below EZ.out A7.out.lt)
              have C9 := Lib.hid (A8.out.below EZ.out A8.out.lt)
              have R9 := Lib.hid (RQ.out.below EZ.out)
              have S9 := Lib.hid (RR.out.below EZ.out)
              clear O8 E8
              go_wp2_with (first
                | ((with_reducible refine at_load (t := 31) ?_); refine wpList_load_mid rfl 31 _ rfl p7 0 rfl [.int .i64 mx.kind, .int .i64 mx.fr, .int .i64 mx.to, .int .u64 mx.t, .int .u64 mx.pi, .int .u64 mx.pt, .slice qA qn qc, .int .u64 mx.co, .bool mx.ok, .slice qA1 qn1 qc1, .slice qA2 qn2 qc2] _ (Blk.rng B9.out) Tryd.underlying31 rfl Tryd.i31 ?_)
                | ((with_reducible refine at_load (t := 31) ?_); refine wpList_load_mid rfl 31 _ rfl p8 0 rfl [.int .i64 mx.kind, .int .i64 mx.fr, .int .i64 mx.to, .int .u64 mx.t, .int .u64 mx.pi, .int .u64 mx.pt, .slice rA rn rc, .int .u64 mx.co, .bool mx.ok, .slice rA1 rn1 rc1, .slice rA2 rn2 rc2] _ (Blk.rng C9.out) Tryd.underlying31 rfl Tryd.i31 ?_)
                | (go_at_call 15; refine (refmsame_any mx mx qA qn qc qA1 qn1 qc1 qA2 qn2 qc2 rA rn rc rA1 rn1 rc1 rA2 rn2 rc2 _ _ (R9.out.mr MX.out) (S9.out.mr MX.out) (Nat.le_refl _)).mono ?_; rw [show decide (mx = mx) = true from decide_eq_true rfl]; rintro e w8 ⟨rfl, hb⟩; have E9 := Lib.hid (H1.out.trans ((EZ.out.trans (hb.mono EZ.out.size)).mono H1.out.size)); clear hb))
              go_roundw
              case rel => exact ⟨.inr (.inl rfl), E9⟩
              case measure => simp [intOf]
    · go_upto_region 6 with (fail)
      have XB0 := Lib.hid (Bx.new_ ykind yfr yto yt ypi ypt yco yok yA yn yc yA1 yn1 yc1 yA2 yn2 yc2 wr).drew
      have FW := Lib.hid (fun W (hW : Below wr.heap.size wr W) => HY.out W (D2.bel.trans (hW.mono D2.bel.size)))
      go_cut [7, 8] from 21 to 25 (fun v7 v8 wx => Two wr my v7 v8 wx)
      case first =>
        refine wp_region_noPanic ?_
        refine wp_region_held_drew (S := fun w' => w'.cell? ⟨wr.heap.size, 0, none⟩ = some (.int .i64 ykind) ∧ w'.cell? ⟨wr.heap.size, 1, none⟩ = some (.int .i64 yfr) ∧ w'.cell? ⟨wr.heap.size, 2, none⟩ = some (.int .i64 yto) ∧ w'.cell? ⟨wr.heap.size, 3, none⟩ = some (.int .u64 yt) ∧ w'.cell? ⟨wr.heap.size, 4, none⟩ = some (.int .u64 ypi) ∧ w'.cell? ⟨wr.heap.size, 5, none⟩ = some (.int .u64 ypt) ∧ w'.cell? ⟨wr.heap.size, 6, none⟩ = some (.slice yA yn yc) ∧ w'.cell? ⟨wr.heap.size, 7, none⟩ = some (.int .u64 yco) ∧ w'.cell? ⟨wr.heap.size, 8, none⟩ = some (.bool yok) ∧ w'.cell? ⟨wr.heap.size, 9, none⟩ = some (.slice yA1 yn1 yc1) ∧ w'.cell? ⟨wr.heap.size, 10, none⟩ = some (.slice yA2 yn2 yc2)) (by kernel_rfl) XB0.out.cells (fun hHeld => ?_)
        generalize (wr.alloc (.cells #[.int .i64 ykind, .int .i64 yfr, .int .i64 yto, .int .u64 yt, .int .u64 ypi, .int .u64 ypt, .slice yA yn yc, .int .u64 yco, .bool yok, .slice yA1 yn1 yc1, .slice yA2 yn2 yc2] 31)).drew = v0 at *
        refine take_d (i := 0) (d := 21) (v := .agg #[.int .i64 ykind, .int .i64 yfr, .int .i64 yto, .int .u64 yt, .int .u64 ypi, .int .u64 ypt, .slice yA yn yc, .int .u64 yco, .bool yok, .slice yA1 yn1 yc1, .slice yA2 yn2 yc2]) rfl rfl (by kernel_rfl) (by kernel_rfl) (by kernel_rfl) (fun _ _ _ h => h) (Or.inl ⟨by kernel_rfl, ?z3h⟩) hHeld ?_
        case z3h => (intro w hSw; (try dsimp only at hSw); go_split_ands; go_simp)
        try simp only [Act.put, List.setIfInBounds_toArray, List.set_cons_zero, List.set_cons_succ]
        refine take_d (i := 2) (d := 23) (v := .agg #[.int .i64 ykind, .int .i64 yfr, .int .i64 yto, .int .u64 yt, .int .u64 ypi, .int .u64 ypt, .slice yA yn yc, .int .u64 yco, .bool yok, .slice yA1 yn1 yc1, .slice yA2 yn2 yc2]) rfl rfl (by kernel_rfl) (by kernel_rfl) (by kernel_rfl) (fun _ _ _ h => h) (Or.inl ⟨by kernel_rfl, ?z4h⟩) hHeld ?_
        case z4h => (intro w hSw; (try dsimp only at hSw); go_split_ands; go_simp)
        try simp only [Act.put, List.setIfInBounds_toArray, List.set_cons_zero, List.set_cons_succ]
        refine wpAnyH_ready (rs := [1, 4, 5]) (by kernel_rfl) (by simp) ?_
        refine AllReadyH.cons rfl (fun K hK => ?_) (AllReadyH.cons rfl (fun K hK => ?_) (AllReadyH.cons rfl (fun K hK => ?_) AllReadyH.nil))
        · skip
          go_simp
          refine (FW.out _ XB0.out.bel).mono ?_
          rintro e v1 ⟨qA, qn, qc, qA1, qn1, qc1, qA2, qn2, qc2, rfl, pe, pi_, po, hb⟩
          have XB1 := Lib.hid (XB0.out.on hb)
          have RQ1 : Hid (Rw v1 my qA qn qc qA1 qn1 qc1 qA2 qn2 qc2) := Lib.hid ⟨pe.down (Nat.zero_le _), World.ownsRow.down pi_ (Nat.zero_le _), po.down (Nat.zero_le _)⟩
          clear pe pi_ po hb
          refine hK.out _ _ XB1.out.cells (fun hHeld => ?_)
          clear hK K
          try simp only [Act.put, List.setIfInBounds_toArray, List.set_cons_zero, List.set_cons_succ]
          refine wpAnyH_ready (rs := [3, 4, 5]) (by kernel_rfl) (by simp) ?_
          refine AllReadyH.cons rfl (fun K hK => ?_) (AllReadyH.cons rfl (fun K hK => ?_) (AllReadyH.cons rfl (fun K hK => ?_) AllReadyH.nil))
          · skip
            go_simp
            refine (FW.out _ XB1.out.bel).mono ?_
            rintro e v2 ⟨rA, rn, rc, rA1, rn1, rc1, rA2, rn2, rc2, rfl, pe, pi_, po, hb⟩
            have XB2 := Lib.hid (XB1.out.on hb)
            have RQ2 := Lib.hid (RQ1.out.below hb)
            have RR2 : Hid (Rw v2 my rA rn rc rA1 rn1 rc1 rA2 rn2 rc2) := Lib.hid ⟨pe.down (Nat.zero_le _), World.ownsRow.down pi_ (Nat.zero_le _), po.down (Nat.zero_le _)⟩
            clear pe pi_ po hb
            refine hK.out _ _ XB2.out.cells (fun hHeld => ?_)
            clear hK K
            try simp only [Act.put, List.setIfInBounds_toArray, List.set_cons_zero, List.set_cons_succ]
            refine wpAnyH_ready (rs := [4, 5]) (by kernel_rfl) (by simp) ?_
            refine AllReadyH.cons rfl (fun K hK => ?_) (AllReadyH.cons rfl (fun K hK => ?_) AllReadyH.nil)
            · skip
              go_simp
              have hbb : Below v2.heap.size v2 (v2.alloc (.cells #[.int .i64 0, .int .i64 0, .int .i64 0, .int .u64 0, .int .u64 0, .int .u64 0, .slice none 0 0, .int .u64 0, .bool false, .slice none 0 0, .slice none 0 0] 31)) := (Below.refl _ _).alloc (Nat.le_refl _) _
              have XB3 := Lib.hid (XB2.out.on hbb)
              have A7_3 : Hid (Blk (v2.alloc (.cells #[.int .i64 0, .int .i64 0, .int .i64 0, .int .u64 0, .int .u64 0, .int .u64 0, .slice none 0 0, .int .u64 0, .bool false, .slice none 0 0, .slice none 0 0] 31)) v2.heap.size 31 #[.int .i64 0, .int .i64 0, .int .i64 0, .int .u64 0, .int .u64 0, .int .u64 0, .slice none 0 0, .int .u64 0, .bool false, .slice none 0 0, .slice none 0 0]) := Lib.hid (Blk.new _ _ _)
              have Gp7 : Hid (wr.heap.size < v2.heap.size) := Lib.hid XB2.out.blk.lt
              have RQ3 := Lib.hid (RQ2.out.below hbb)
              have RR3 := Lib.hid (RR2.out.below hbb)
              refine hK.out _ _ XB3.out.cells (fun hHeld => ?_)
              clear hK K hbb
              generalize (v2.alloc (.cells #[.int .i64 0, .int .i64 0, .int .i64 0, .int .u64 0, .int .u64 0, .int .u64 0, .slice none 0 0, .int .u64 0, .bool false, .slice none 0 0, .slice none 0 0] 31)) = v3 at *
              generalize v2.heap.size = p7 at *
              try simp only [Act.put, List.setIfInBounds_toArray, List.set_cons_zero, List.set_cons_succ]
              refine wpAnyH_ready (rs := [5]) (by kernel_rfl) (by simp) ?_
              refine AllReadyH.cons rfl (fun K hK => ?_) AllReadyH.nil
              go_simp
              have hbb : Below v3.heap.size v3 (v3.alloc (.cells #[.int .i64 0, .int .i64 0, .int .i64 0, .int .u64 0, .int .u64 0, .int .u64 0, .slice none 0 0, .int .u64 0, .bool false, .slice none 0 0, .slice none 0 0] 31)) := (Below.refl _ _).alloc (Nat.le_refl _) _
              have XB4 := Lib.hid (XB3.out.on hbb)
              have A8_4 : Hid (Blk (v3.alloc (.cells #[.int .i64 0, .int .i64 0, .int .i64 0, .int .u64 0, .int .u64 0, .int .u64 0, .slice none 0 0, .int .u64 0, .bool false, .slice none 0 0, .slice none 0 0] 31)) v3.heap.size 31 #[.int .i64 0, .int .i64 0, .int .i64 0, .int .u64 0, .int .u64 0, .int .u64 0, .slice none 0 0, .int .u64 0, .bool false, .slice none 0 0, .slice none 0 0]) := Lib.hid (Blk.new _ _ _)
              have Gp8 : Hid (wr.heap.size < v3.heap.size) := Lib.hid XB3.out.blk.lt
              have NE : Hid (p7 < v3.heap.size) := Lib.hid A7_3.out.lt
              have RQ4 := Lib.hid (RQ3.out.below hbb)
              have RR4 := Lib.hid (RR3.out.below hbb)
              have A7_4 := Lib.hid (A7_3.out.below hbb A7_3.out.lt)
              refine hK.out _ _ XB4.out.cells (fun hHeld => ?_)
              clear hK K hbb
              generalize (v3.alloc (.cells #[.int .i64 0, .int .i64 0, .int .i64 0, .int .u64 0, .int .u64 0, .int .u64 0, .slice none 0 0, .int .u64 0, .bool false, .slice none 0 0, .slice none 0 0] 31)) = v4 at *
              generalize v3.heap.size = p8 at *
              try simp only [Act.put, List.setIfInBounds_toArray, List.set_cons_zero, List.set_cons_succ]
              refine wpAnyH_ready (rs := [6]) (by kernel_rfl) (by simp) ?_
              refine AllReadyH.cons rfl (fun K hK => ?_) AllReadyH.nil
              refine wp_store_nine rfl 31 _ _ rfl p7 #[.int .i64 0, .int .i64 0, .int .i64 0, .int .u64 0, .int .u64 0, .int .u64 0, .slice none 0 0, .int .u64 0, .bool false, .slice none 0 0, .slice none 0 0] 31 [.int .i64 my.kind, .int .i64 my.fr, .int .i64 my.to, .int .u64 my.t, .int .u64 my.pi, .int .u64 my.pt, .slice qA qn qc, .int .u64 my.co, .bool my.ok, .slice qA1 qn1 qc1, .slice qA2 qn2 qc2] rfl rfl A7_4.out rfl Tryd.i31 (by simp [Value.oneCell']) ?_
              intro v5 hb7 ho7
              have XB5 : Hid (Bx wr wr.heap.size ykind yfr yto yt ypi ypt yco yok yA yn yc yA1 yn1 yc1 yA2 yn2 yc2 v5) := Lib.hid ⟨ho7.keep XB4.out.blk (by have := Gp7.out; omega), XB4.out.bel.trans (ho7.below (by have := Gp7.out; omega)), XB4.out.low⟩
              have RQ5 := Lib.hid (RQ4.out.only A7_4.out ho7)
              have RR5 := Lib.hid (RR4.out.only A7_4.out ho7)
              have A8_5 := Lib.hid (ho7.keep A8_4.out (by have := NE.out; omega))
              have A7_5 : Hid (Blk v5 p7 31 #[.int .i64 my.kind, .int .i64 my.fr, .int .i64 my.to, .int .u64 my.t, .int .u64 my.pi, .int .u64 my.pt, .slice qA qn qc, .int .u64 my.co, .bool my.ok, .slice qA1 qn1 qc1, .slice qA2 qn2 qc2]) := Lib.hid hb7
              clear hb7 ho7
              refine hK.out _ _ XB5.out.cells (fun hHeld => ?_)
              clear hK K
              try simp only [Act.put, List.setIfInBounds_toArray, List.set_cons_zero, List.set_cons_succ]
              refine wpAnyH_ready (rs := [7]) (by kernel_rfl) (by simp) ?_
              refine AllReadyH.cons rfl (fun K hK => ?_) AllReadyH.nil
              refine wp_store_nine rfl 31 _ _ rfl p8 #[.int .i64 0, .int .i64 0, .int .i64 0, .int .u64 0, .int .u64 0, .int .u64 0, .slice none 0 0, .int .u64 0, .bool false, .slice none 0 0, .slice none 0 0] 31 [.int .i64 my.kind, .int .i64 my.fr, .int .i64 my.to, .int .u64 my.t, .int .u64 my.pi, .int .u64 my.pt, .slice rA rn rc, .int .u64 my.co, .bool my.ok, .slice rA1 rn1 rc1, .slice rA2 rn2 rc2] rfl rfl A8_5.out rfl Tryd.i31 (by simp [Value.oneCell']) ?_
              intro v6 hb7 ho7
              have XB6 : Hid (Bx wr wr.heap.size ykind yfr yto yt ypi ypt yco yok yA yn yc yA1 yn1 yc1 yA2 yn2 yc2 v6) := Lib.hid ⟨ho7.keep XB5.out.blk (by have := Gp8.out; omega), XB5.out.bel.trans (ho7.below (by have := Gp8.out; omega)), XB5.out.low⟩
              have RQ6 := Lib.hid (RQ5.out.only A8_5.out ho7)
              have RR6 := Lib.hid (RR5.out.only A8_5.out ho7)
              have A7_6 := Lib.hid (ho7.keep A7_5.out (by have := NE.out; omega))
              have A8_6 : Hid (Blk v6 p8 31 #[.int .i64 my.kind, .int .i64 my.fr, .int .i64 my.to, .int .u64 my.t, .int .u64 my.pi, .int .u64 my.pt, .slice rA rn rc, .int .u64 my.co, .bool my.ok, .slice rA1 rn1 rc1, .slice rA2 rn2 rc2]) := Lib.hid hb7
              clear hb7 ho7
              refine hK.out _ _ XB6.out.cells (fun hHeld => ?_)
              clear hK K
              try simp only [Act.put, List.setIfInBounds_toArray, List.set_cons_zero, List.set_cons_succ]
              refine wpAnyH_done (by kernel_rfl) ?_ _
              refine NoPanic.normal ?_
              go_wp2_with fail
              go_meet
              case rel => exact ⟨p7, p8, qA, qn, qc, qA1, qn1, qc1, qA2, qn2, qc2, rA, rn, rc, rA1, rn1, rc1, rA2, rn2, rc2, rfl, rfl, by have := NE.out; omega, by have := Gp7.out; omega, by have := Gp8.out; omega, A7_6.out, A8_6.out, RQ6.out, RR6.out, XB6.out.bel⟩
            · skip
              go_simp
              have hbb : Below v2.heap.size v2 (v2.alloc (.cells #[.int .i64 0, .int .i64 0, .int .i64 0, .int .u64 0, .int .u64 0, .int .u64 0, .slice none 0 0, .int .u64 0, .bool false, .slice none 0 0, .slice none 0 0] 31)) := (Below.refl _ _).alloc (Nat.le_refl _) _
              have XB3 := Lib.hid (XB2.out.on hbb)
              have A8_3 : Hid (Blk (v2.alloc (.cells #[.int .i64 0, .int .i64 0, .int .i64 0, .int .u64 0, .int .u64 0, .int .u64 0, .slice none 0 0, .int .u64 0, .bool false, .slice none 0 0, .slice none 0 0] 31)) v2.heap.size 31 #[.int .i64 0, .int .i64 0, .int .i64 0, .int .u64 0, .int .u64 0, .int .u64 0, .slice none 0 0, .int .u64 0, .bool false, .slice none 0 0, .slice none 0 0]) := Lib.hid (Blk.new _ _ _)
              have Gp8 : Hid (wr.heap.size < v2.heap.size) := Lib.hid XB2.out.blk.lt
              have RQ3 := Lib.hid (RQ2.out.below hbb)
              have RR3 := Lib.hid (RR2.out.below hbb)
              refine hK.out _ _ XB3.out.cells (fun hHeld => ?_)
              clear hK K hbb
              generalize (v2.alloc (.cells #[.int .i64 0, .int .i64 0, .int .i64 0, .int .u64 0, .int .u64 0, .int .u64 0, .slice none 0 0, .int .u64 0, .bool false, .slice none 0 0, .slice none 0 0] 31)) = v3 at *
              generalize v2.heap.size = p8 at *
              try simp only [Act.put, List.setIfInBounds_toArray, List.set_cons_zero, List.set_cons_succ]
              refine wpAnyH_ready (rs := [4]) (by kernel_rfl) (by simp) ?_
              refine AllReadyH.cons rfl (fun K hK => ?_) AllReadyH.nil
              go_simp
              have hbb : Below v3.heap.size v3 (v3.alloc (.cells #[.int .i64 0, .int .i64 0, .int .i64 0, .int .u64 0, .int .u64 0, .int .u64 0, .slice none 0 0, .int .u64 0, .bool false, .slice none 0 0, .slice none 0 0] 31)) := (Below.refl _ _).alloc (Nat.le_refl _) _
              have XB4 := Lib.hid (XB3.out.on hbb)
              have A7_4 : Hid (Blk (v3.alloc (.cells #[.int .i64 0, .int .i64 0, .int .i64 0, .int .u64 0, .int .u64 0, .int .u64 0, .slice none 0 0, .int .u64 0, .bool false, .slice none 0 0, .slice none 0 0] 31)) v3.heap.size 31 #[.int .i64 0, .int .i64 0, .int .i64 0, .int .u64 0, .int .u64 0, .int .u64 0, .slice none 0 0, .int .u64 0, .bool false, .slice none 0 0, .slice none 0 0]) := Lib.hid (Blk.new _ _ _)
              have Gp7 : Hid (wr.heap.size < v3.heap.size) := Lib.hid XB3.out.blk.lt
              have NE : Hid (p8 < v3.heap.size) := Lib.hid A8_3.out.lt
              have RQ4 := Lib.hid (RQ3.out.below hbb)
              have RR4 := Lib.hid (RR3.out.below hbb)
              have A8_4 := Lib.hid (A8_3.out.below hbb A8_3.out.lt)
              refine hK.out _ _ XB4.out.cells (fun hHeld => ?_)
              clear hK K hbb
              generalize (v3.alloc (.cells #[.int .i64 0, .int .i64 0, .int .i64 0, .int .u64 0, .int .u64 0, .int .u64 0, .slice none 0 0, .int .u64 0, .bool false, .slice none 0 0, .slice none 0 0] 31)) = v4 at *
              generalize v3.heap.size = p7 at *
              try simp only [Act.put, List.setIfInBounds_toArray, List.set_cons_zero, List.set_cons_succ]
              refine wpAnyH_ready (rs := [6]) (by kernel_rfl) (by simp) ?_
              refine AllReadyH.cons rfl (fun K hK => ?_) AllReadyH.nil
              refine wp_store_nine rfl 31 _ _ rfl p7 #[.int .i64 0, .int .i64 0, .int .i64 0, .int .u64 0, .int .u64 0, .int .u64 0, .slice none 0 0, .int .u64 0, .bool false, .slice none 0 0, .slice none 0 0] 31 [.int .i64 my.kind, .int .i64 my.fr, .int .i64 my.to, .int .u64 my.t, .int .u64 my.pi, .int .u64 my.pt, .slice qA qn qc, .int .u64 my.co, .bool my.ok, .slice qA1 qn1 qc1, .slice qA2 qn2 qc2] rfl rfl A7_4.out rfl Tryd.i31 (by simp [Value.oneCell']) ?_
              intro v5 hb7 ho7
              have XB5 : Hid (Bx wr wr.heap.size ykind yfr yto yt ypi ypt yco yok yA yn yc yA1 yn1 yc1 yA2 yn2 yc2 v5) := Lib.hid ⟨ho7.keep XB4.out.blk (by have := Gp7.out; omega), XB4.out.bel.trans (ho7.below (by have := Gp7.out; omega)), XB4.out.low⟩
              have RQ5 := Lib.hid (RQ4.out.only A7_4.out ho7)
              have RR5 := Lib.hid (RR4.out.only A7_4.out ho7)
              have A8_5 := Lib.hid (ho7.keep A8_4.out (by have := NE.out; omega))
              have A7_5 : Hid (Blk v5 p7 31 #[.int .i64 my.kind, .int .i64 my.fr, .int .i64 my.to, .int .u64 my.t, .int .u64 my.pi, .int .u64 my.pt, .slice qA qn qc, .int .u64 my.co, .bool my.ok, .slice qA1 qn1 qc1, .slice qA2 qn2 qc2]) := Lib.hid hb7
              clear hb7 ho7
              refine hK.out _ _ XB5.out.cells (fun hHeld => ?_)
              clear hK K
              try simp only [Act.put, List.setIfInBounds_toArray, List.set_cons_zero, List.set_cons_succ]
              refine wpAnyH_ready (rs := [7]) (by kernel_rfl) (by simp) ?_
              refine AllReadyH.cons rfl (fun K hK => ?_) AllReadyH.nil
              refine wp_store_nine rfl 31 _ _ rfl p8 #[.int .i64 0, .int .i64 0, .int .i64 0, .int .u64 0, .int .u64 0, .int .u64 0, .slice none 0 0, .int .u64 0, .bool false, .slice none 0 0, .slice none 0 0] 31 [.int .i64 my.kind, .int .i64 my.fr, .int .i64 my.to, .int .u64 my.t, .int .u64 my.pi, .int .u64 my.pt, .slice rA rn rc, .int .u64 my.co, .bool my.ok, .slice rA1 rn1 rc1, .slice rA2 rn2 rc2] rfl rfl A8_5.out rfl Tryd.i31 (by simp [Value.oneCell']) ?_
              intro v6 hb7 ho7
              have XB6 : Hid (Bx wr wr.heap.size ykind yfr yto yt ypi ypt yco yok yA yn yc yA1 yn1 yc1 yA2 yn2 yc2 v6) := Lib.hid ⟨ho7.keep XB5.out.blk (by have := Gp8.out; omega), XB5.out.bel.trans (ho7.below (by have := Gp8.out; omega)), XB5.out.low⟩
              have RQ6 := Lib.hid (RQ5.out.only A8_5.out ho7)
              have RR6 := Lib.hid (RR5.out.only A8_5.out ho7)
              have A7_6 := Lib.hid (ho7.keep A7_5.out (by have := NE.out; omega))
              have A8_6 : Hid (Blk v6 p8 31 #[.int .i64 my.kind, .int .i64 my.fr, .int .i64 my.to, .int .u64 my.t, .int .u64 my.pi, .int .u64 my.pt, .slice rA rn rc, .int .u64 my.co, .bool my.ok, .slice rA1 rn1 rc1, .slice rA2 rn2 rc2]) := Lib.hid hb7
              clear hb7 ho7
              refine hK.out _ _ XB6.out.cells (fun hHeld => ?_)
              clear hK K
              try simp only [Act.put, List.setIfInBounds_toArray, List.set_cons_zero, List.set_cons_succ]
              refine wpAnyH_done (by kernel_rfl) ?_ _
              refine NoPanic.normal ?_
              go_wp2_with fail
              go_meet
              case rel => exact ⟨p7, p8, qA, qn, qc, qA1, qn1, qc1, qA2, qn2, qc2, rA, rn, rc, rA1, rn1, rc1, rA2, rn2, rc2, rfl, rfl, by have := NE.out; omega, by have := Gp7.out; omega, by have := Gp8.out; omega, A7_6.out, A8_6.out, RQ6.out, RR6.out, XB6.out.bel⟩
          · skip
            go_simp
            have hbb : Below v1.heap.size v1 (v1.alloc (.cells #[.int .i64 0, .int .i64 0, .int .i64 0, .int .u64 0, .int .u64 0, .int .u64 0, .slice none 0 0, .int .u64 0, .bool false, .slice none 0 0, .slice none 0 0] 31)) := (Below.refl _ _).alloc (Nat.le_refl _) _
            have XB2 := Lib.hid (XB1.out.on hbb)
            have A7_2 : Hid (Blk (v1.alloc (.cells #[.int .i64 0, .int .i64 0, .int .i64 0, .int .u64 0, .int .u64 0, .int .u64 0, .slice none 0 0, .int .u64 0, .bool false, .slice none 0 0, .slice none 0 0] 31)) v1.heap.size 31 #[.int .i64 0, .int .i64 0, .int .i64 0, .int .u64 0, .int .u64 0, .int .u64 0, .slice none 0 0, .int .u64 0, .bool false, .slice none 0 0, .slice none 0 0]) := Lib.hid (Blk.new _ _ _)
            have Gp7 : Hid (wr.heap.size < v1.heap.size) := Lib.hid XB1.out.blk.lt
            have RQ2 := Lib.hid (RQ1.out.below hbb)
            refine hK.out _ _ XB2.out.cells (fun hHeld => ?_)
            clear hK K hbb
            generalize (v1.alloc (.cells #[.int .i64 0, .int .i64 0, .int .i64 0, .int .u64 0, .int .u64 0, .int .u64 0, .slice none 0 0, .int .u64 0, .bool false, .slice none 0 0, .slice none 0 0] 31)) = v2 at *
            generalize v1.heap.size = p7 at *
            try simp only [Act.put, List.setIfInBounds_toArray, List.set_cons_zero, List.set_cons_succ]
            refine wpAnyH_ready (rs := [3, 5]) (by kernel_rfl) (by simp) ?_
            refine AllReadyH.cons rfl (fun K hK => ?_) (AllReadyH.cons rfl (fun K hK => ?_) AllReadyH.nil)
            · skip
              go_simp
              refine (FW.out _ XB2.out.bel).mono ?_
              rintro e v3 ⟨rA, rn, rc, rA1, rn1, rc1, rA2, rn2, rc2, rfl, pe, pi_, po, hb⟩
              have XB3 := Lib.hid (XB2.out.on hb)
              have RQ3 := Lib.hid (RQ2.out.below hb)
              have A7_3 := Lib.hid (A7_2.out.below hb A7_2.out.lt)
              have RR3 : Hid (Rw v3 my rA rn rc rA1 rn1 rc1 rA2 rn2 rc2) := Lib.hid ⟨pe.down (Nat.zero_le _), World.ownsRow.down pi_ (Nat.zero_le _), po.down (Nat.zero_le _)⟩
              clear pe pi_ po hb
              refine hK.out _ _ XB3.out.cells (fun hHeld => ?_)
              clear hK K
              try simp only [Act.put, List.setIfInBounds_toArray, List.set_cons_zero, List.set_cons_succ]
              refine wpAnyH_ready (rs := [5]) (by kernel_rfl) (by simp) ?_
              refine AllReadyH.cons rfl (fun K hK => ?_) AllReadyH.nil
              go_simp
              have hbb : Below v3.heap.size v3 (v3.alloc (.cells #[.int .i64 0, .int .i64 0, .int .i64 0, .int .u64 0, .int .u64 0, .int .u64 0, .slice none 0 0, .int .u64 0, .bool false, .slice none 0 0, .slice none 0 0] 31)) := (Below.refl _ _).alloc (Nat.le_refl _) _
              have XB4 := Lib.hid (XB3.out.on hbb)
              have A8_4 : Hid (Blk (v3.alloc (.cells #[.int .i64 0, .int .i64 0, .int .i64 0, .int .u64 0, .int .u64 0, .int .u64 0, .slice none 0 0, .int .u64 0, .bool false, .slice none 0 0, .slice none 0 0] 31)) v3.heap.size 31 #[.int .i64 0, .int .i64 0, .int .i64 0, .int .u64 0, .int .u64 0, .int .u64 0, .slice none 0 0, .int .u64 0, .bool false, .slice none 0 0, .slice none 0 0]) := Lib.hid (Blk.new _ _ _)
              have Gp8 : Hid (wr.heap.size < v3.heap.size) := Lib.hid XB3.out.blk.lt
              have NE : Hid (p7 < v3.heap.size) := Lib.hid A7_3.out.lt
              have RQ4 := Lib.hid (RQ3.out.below hbb)
              have RR4 := Lib.hid (RR3.out.below hbb)
              have A7_4 := Lib.hid (A7_3.out.below hbb A7_3.out.lt)
              refine hK.out _ _ XB4.out.cells (fun hHeld => ?_)
              clear hK K hbb
              generalize (v3.alloc (.cells #[.int .i64 0, .int .i64 0, .int .i64 0, .int .u64 0, .int .u64 0, .int .u64 0, .slice none 0 0, .int .u64 0, .bool false, .slice none 0 0, .slice none 0 0] 31)) = v4 at *
              generalize v3.heap.size = p8 at *
              try simp only [Act.put, List.setIfInBounds_toArray, List.set_cons_zero, List.set_cons_succ]
              refine wpAnyH_ready (rs := [6]) (by kernel_rfl) (by simp) ?_
              refine AllReadyH.cons rfl (fun K hK => ?_) AllReadyH.nil
              refine wp_store_nine rfl 31 _ _ rfl p7 #[.int .i64 0, .int .i64 0, .int .i64 0, .int .u64 0, .int .u64 0, .int .u64 0, .slice none 0 0, .int .u64 0, .bool false, .slice none 0 0, .slice none 0 0] 31 [.int .i64 my.kind, .int .i64 my.fr, .int .i64 my.to, .int .u64 my.t, .int .u64 my.pi, .int .u64 my.pt, .slice qA qn qc, .int .u64 my.co, .bool my.ok, .slice qA1 qn1 qc1, .slice qA2 qn2 qc2] rfl rfl A7_4.out rfl Tryd.i31 (by simp [Value.oneCell']) ?_
              intro v5 hb7 ho7
              have XB5 : Hid (Bx wr wr.heap.size ykind yfr yto yt ypi ypt yco yok yA yn yc yA1 yn1 yc1 yA2 yn2 yc2 v5) := Lib.hid ⟨ho7.keep XB4.out.blk (by have := Gp7.out; omega), XB4.out.bel.trans (ho7.below (by have := Gp7.out; omega)), XB4.out.low⟩
              have RQ5 := Lib.hid (RQ4.out.only A7_4.out ho7)
              have RR5 := Lib.hid (RR4.out.only A7_4.out ho7)
              have A8_5 := Lib.hid (ho7.keep A8_4.out (by have := NE.out; omega))
              have A7_5 : Hid (Blk v5 p7 31 #[.int .i64 my.kind, .int .i64 my.fr, .int .i64 my.to, .int .u64 my.t, .int .u64 my.pi, .int .u64 my.pt, .slice qA qn qc, .int .u64 my.co, .bool my.ok, .slice qA1 qn1 qc1, .slice qA2 qn2 qc2]) := Lib.hid hb7
              clear hb7 ho7
              refine hK.out _ _ XB5.out.cells (fun hHeld => ?_)
              clear hK K
              try simp only [Act.put, List.setIfInBounds_toArray, List.set_cons_zero, List.set_cons_succ]
              refine wpAnyH_ready (rs := [7]) (by kernel_rfl) (by simp) ?_
              refine AllReadyH.cons rfl (fun K hK => ?_) AllReadyH.nil
              refine wp_store_nine rfl 31 _ _ rfl p8 #[.int .i64 0, .int .i64 0, .int .i64 0, .int .u64 0, .int .u64 0, .int .u64 0, .slice none 0 0, .int .u64 0, .bool false, .slice none 0 0, .slice none 0 0] 31 [.int .i64 my.kind, .int .i64 my.fr, .int .i64 my.to, .int .u64 my.t, .int .u64 my.pi, .int .u64 my.pt, .slice rA rn rc, .int .u64 my.co, .bool my.ok, .slice rA1 rn1 rc1, .slice rA2 rn2 rc2] rfl rfl A8_5.out rfl Tryd.i31 (by simp [Value.oneCell']) ?_
              intro v6 hb7 ho7
              have XB6 : Hid (Bx wr wr.heap.size ykind yfr yto yt ypi ypt yco yok yA yn yc yA1 yn1 yc1 yA2 yn2 yc2 v6) := Lib.hid ⟨ho7.keep XB5.out.blk (by have := Gp8.out; omega), XB5.out.bel.trans (ho7.below (by have := Gp8.out; omega)), XB5.out.low⟩
              have RQ6 := Lib.hid (RQ5.out.only A8_5.out ho7)
              have RR6 := Lib.hid (RR5.out.only A8_5.out ho7)
              have A7_6 := Lib.hid (ho7.keep A7_5.out (by have := NE.out; omega))
              have A8_6 : Hid (Blk v6 p8 31 #[.int .i64 my.kind, .int .i64 my.fr, .int .i64 my.to, .int .u64 my.t, .int .u64 my.pi, .int .u64 my.pt, .slice rA rn rc, .int .u64 my.co, .bool my.ok, .slice rA1 rn1 rc1, .slice rA2 rn2 rc2]) := Lib.hid hb7
              clear hb7 ho7
              refine hK.out _ _ XB6.out.cells (fun hHeld => ?_)
              clear hK K
              try simp only [Act.put, List.setIfInBounds_toArray, List.set_cons_zero, List.set_cons_succ]
              refine wpAnyH_done (by kernel_rfl) ?_ _
              refine NoPanic.normal ?_
              go_wp2_with fail
              go_meet
              case rel => exact ⟨p7, p8, qA, qn, qc, qA1, qn1, qc1, qA2, qn2, qc2, rA, rn, rc, rA1, rn1, rc1, rA2, rn2, rc2, rfl, rfl, by have := NE.out; omega, by have := Gp7.out; omega, by have := Gp8.out; omega, A7_6.out, A8_6.out, RQ6.out, RR6.out, XB6.out.bel⟩
            · skip
              go_simp
              have hbb : Below v2.heap.size v2 (v2.alloc (.cells #[.int .i64 0, .int .i64 0, .int .i64 0, .int .u64 0, .int .u64 0, .int .u64 0, .slice none 0 0, .int .u64 0, .bool false, .slice none 0 0, .slice none 0 0] 31)) := (Below.refl _ _).alloc (Nat.le_refl _) _
              have XB3 := Lib.hid (XB2.out.on hbb)
              have A8_3 : Hid (Blk (v2.alloc (.cells #[.int .i64 0, .int .i64 0, .int .i64 0, .int .u64 0, .int .u64 0, .int .u64 0, .slice none 0 0, .int .u64 0, .bool false, .slice none 0 0, .slice none 0 0] 31)) v2.heap.size 31 #[.int .i64 0, .int .i64 0, .int .i64 0, .int .u64 0, .int .u64 0, .int .u64 0, .slice none 0 0, .int .u64 0, .bool false, .slice none 0 0, .slice none 0 0]) := Lib.hid (Blk.new _ _ _)
              have Gp8 : Hid (wr.heap.size < v2.heap.size) := Lib.hid XB2.out.blk.lt
              have NE : Hid (p7 < v2.heap.size) := Lib.hid A7_2.out.lt
              have RQ3 := Lib.hid (RQ2.out.below hbb)
              have A7_3 := Lib.hid (A7_2.out.below hbb A7_2.out.lt)
              refine hK.out _ _ XB3.out.cells (fun hHeld => ?_)
              clear hK K hbb
              generalize (v2.alloc (.cells #[.int .i64 0, .int .i64 0, .int .i64 0, .int .u64 0, .int .u64 0, .int .u64 0, .slice none 0 0, .int .u64 0, .bool false, .slice none 0 0, .slice none 0 0] 31)) = v3 at *
              generalize v2.heap.size = p8 at *
              try simp only [Act.put, List.setIfInBounds_toArray, List.set_cons_zero, List.set_cons_succ]
              refine wpAnyH_ready (rs := [3]) (by kernel_rfl) (by simp) ?_
              refine AllReadyH.cons rfl (fun K hK => ?_) AllReadyH.nil
              go_simp
              refine (FW.out _ XB3.out.bel).mono ?_
              rintro e v4 ⟨rA, rn, rc, rA1, rn1, rc1, rA2, rn2, rc2, rfl, pe, pi_, po, hb⟩
              have XB4 := Lib.hid (XB3.out.on hb)
              have RQ4 := Lib.hid (RQ3.out.below hb)
              have A7_4 := Lib.hid (A7_3.out.below hb A7_3.out.lt)
              have A8_4 := Lib.hid (A8_3.out.below hb A8_3.out.lt)
              have RR4 : Hid (Rw v4 my rA rn rc rA1 rn1 rc1 rA2 rn2 rc2) := Lib.hid ⟨pe.down (Nat.zero_le _), World.ownsRow.down pi_ (Nat.zero_le _), po.down (Nat.zero_le _)⟩
              clear pe pi_ po hb
              refine hK.out _ _ XB4.out.cells (fun hHeld => ?_)
              clear hK K
              try simp only [Act.put, List.setIfInBounds_toArray, List.set_cons_zero, List.set_cons_succ]
              refine wpAnyH_ready (rs := [6]) (by kernel_rfl) (by simp) ?_
              refine AllReadyH.cons rfl (fun K hK => ?_) AllReadyH.nil
              refine wp_store_nine rfl 31 _ _ rfl p7 #[.int .i64 0, .int .i64 0, .int .i64 0, .int .u64 0, .int .u64 0, .int .u64 0, .slice none 0 0, .int .u64 0, .bool false, .slice none 0 0, .slice none 0 0] 31 [.int .i64 my.kind, .int .i64 my.fr, .int .i64 my.to, .int .u64 my.t, .int .u64 my.pi, .int .u64 my.pt, .slice qA qn qc, .int .u64 my.co, .bool my.ok, .slice qA1 qn1 qc1, .slice qA2 qn2 qc2] rfl rfl A7_4.out rfl Tryd.i31 (by simp [Value.oneCell']) ?_
              intro v5 hb7 ho7
              have XB5 : Hid (Bx wr wr.heap.size ykind yfr yto yt ypi ypt yco yok yA yn yc yA1 yn1 yc1 yA2 yn2 yc2 v5) := Lib.hid ⟨ho7.keep XB4.out.blk (by have := Gp7.out; omega), XB4.out.bel.trans (ho7.below (by have := Gp7.out; omega)), XB4.out.low⟩
              have RQ5 := Lib.hid (RQ4.out.only A7_4.out ho7)
              have RR5 := Lib.hid (RR4.out.only A7_4.out ho7)
              have A8_5 := Lib.hid (ho7.keep A8_4.out (by have := NE.out; omega))
              have A7_5 : Hid (Blk v5 p7 31 #[.int .i64 my.kind, .int .i64 my.fr, .int .i64 my.to, .int .u64 my.t, .int .u64 my.pi, .int .u64 my.pt, .slice qA qn qc, .int .u64 my.co, .bool my.ok, .slice qA1 qn1 qc1, .slice qA2 qn2 qc2]) := Lib.hid hb7
              clear hb7 ho7
              refine hK.out _ _ XB5.out.cells (fun hHeld => ?_)
              clear hK K
              try simp only [Act.put, List.setIfInBounds_toArray, List.set_cons_zero, List.set_cons_succ]
              refine wpAnyH_ready (rs := [7]) (by kernel_rfl) (by simp) ?_
              refine AllReadyH.cons rfl (fun K hK => ?_) AllReadyH.nil
              refine wp_store_nine rfl 31 _ _ rfl p8 #[.int .i64 0, .int .i64 0, .int .i64 0, .int .u64 0, .int .u64 0, .int .u64 0, .slice none 0 0, .int .u64 0, .bool false, .slice none 0 0, .slice none 0 0] 31 [.int .i64 my.kind, .int .i64 my.fr, .int .i64 my.to, .int .u64 my.t, .int .u64 my.pi, .int .u64 my.pt, .slice rA rn rc, .int .u64 my.co, .bool my.ok, .slice rA1 rn1 rc1, .slice rA2 rn2 rc2] rfl rfl A8_5.out rfl Tryd.i31 (by simp [Value.oneCell']) ?_
              intro v6 hb7 ho7
              have XB6 : Hid (Bx wr wr.heap.size ykind yfr yto yt ypi ypt yco yok yA yn yc yA1 yn1 yc1 yA2 yn2 yc2 v6) := Lib.hid ⟨ho7.keep XB5.out.blk (by have := Gp8.out; omega), XB5.out.bel.trans (ho7.below (by have := Gp8.out; omega)), XB5.out.low⟩
              have RQ6 := Lib.hid (RQ5.out.only A8_5.out ho7)
              have RR6 := Lib.hid (RR5.out.only A8_5.out ho7)
              have A7_6 := Lib.hid (ho7.keep A7_5.out (by have := NE.out; omega))
              have A8_6 : Hid (Blk v6 p8 31 #[.int .i64 my.kind, .int .i64 my.fr, .int .i64 my.to, .int .u64 my.t, .int .u64 my.pi, .int .u64 my.pt, .slice rA rn rc, .int .u64 my.co, .bool my.ok, .slice rA1 rn1 rc1, .slice rA2 rn2 rc2]) := Lib.hid hb7
              clear hb7 ho7
              refine hK.out _ _ XB6.out.cells (fun hHeld => ?_)
              clear hK K
              try simp only [Act.put, List.setIfInBounds_toArray, List.set_cons_zero, List.set_cons_succ]
              refine wpAnyH_done (by kernel_rfl) ?_ _
              refine NoPanic.normal ?_
              go_wp2_with fail
              go_meet
              case rel => exact ⟨p7, p8, qA, qn, qc, qA1, qn1, qc1, qA2, qn2, qc2, rA, rn, rc, rA1, rn1, rc1, rA2, rn2, rc2, rfl, rfl, by have := NE.out; omega, by have := Gp7.out; omega, by have := Gp8.out; omega, A7_6.out, A8_6.out, RQ6.out, RR6.out, XB6.out.bel⟩
          · skip
            go_simp
            have hbb : Below v1.heap.size v1 (v1.alloc (.cells #[.int .i64 0, .int .i64 0, .int .i64 0, .int .u64 0, .int .u64 0, .int .u64 0, .slice none 0 0, .int .u64 0, .bool false, .slice none 0 0, .slice none 0 0] 31)) := (Below.refl _ _).alloc (Nat.le_refl _) _
            have XB2 := Lib.hid (XB1.out.on hbb)
            have A8_2 : Hid (Blk (v1.alloc (.cells #[.int .i64 0, .int .i64 0, .int .i64 0, .int .u64 0, .int .u64 0, .int .u64 0, .slice none 0 0, .int .u64 0, .bool false, .slice none 0 0, .slice none 0 0] 31)) v1.heap.size 31 #[.int .i64 0, .int .i64 0, .int .i64 0, .int .u64 0, .int .u64 0, .int .u64 0, .slice none 0 0, .int .u64 0, .bool false, .slice none 0 0, .slice none 0 0]) := Lib.hid (Blk.new _ _ _)
            have Gp8 : Hid (wr.heap.size < v1.heap.size) := Lib.hid XB1.out.blk.lt
            have RQ2 := Lib.hid (RQ1.out.below hbb)
            refine hK.out _ _ XB2.out.cells (fun hHeld => ?_)
            clear hK K hbb
            generalize (v1.alloc (.cells #[.int .i64 0, .int .i64 0, .int .i64 0, .int .u64 0, .int .u64 0, .int .u64 0, .slice none 0 0, .int .u64 0, .bool false, .slice none 0 0, .slice none 0 0] 31)) = v2 at *
            generalize v1.heap.size = p8 at *
            try simp only [Act.put, List.setIfInBounds_toArray, List.set_cons_zero, List.set_cons_succ]
            refine wpAnyH_ready (rs := [3, 4]) (by kernel_rfl) (by simp) ?_
            refine AllReadyH.cons rfl (fun K hK => ?_) (AllReadyH.cons rfl (fun K hK => ?_) AllReadyH.nil)
            · skip
              go_simp
              refine (FW.out _ XB2.out.bel).mono ?_
              rintro e v3 ⟨rA, rn, rc, rA1, rn1, rc1, rA2, rn2, rc2, rfl, pe, pi_, po, hb⟩
              have XB3 := Lib.hid (XB2.out.on hb)
              have RQ3 := Lib.hid (RQ2.out.below hb)
              have A8_3 := Lib.hid (A8_2.out.below hb A8_2.out.lt)
              have RR3 : Hid (Rw v3 my rA rn rc rA1 rn1 rc1 rA2 rn2 rc2) := Lib.hid ⟨pe.down (Nat.zero_le _), World.ownsRow.down pi_ (Nat.zero_le _), po.down (Nat.zero_le _)⟩
              clear pe pi_ po hb
              refine hK.out _ _ XB3.out.cells (fun hHeld => ?_)
              clear hK K
              try simp only [Act.put, List.setIfInBounds_toArray, List.set_cons_zero, List.set_cons_succ]
              refine wpAnyH_ready (rs := [4]) (by kernel_rfl) (by simp) ?_
              refine AllReadyH.cons rfl (fun K hK => ?_) AllReadyH.nil
              go_simp
              have hbb : Below v3.heap.size v3 (v3.alloc (.cells #[.int .i64 0, .int .i64 0, .int .i64 0, .int .u64 0, .int .u64 0, .int .u64 0, .slice none 0 0, .int .u64 0, .bool false, .slice none 0 0, .slice none 0 0] 31)) := (Below.refl _ _).alloc (Nat.le_refl _) _
              have XB4 := Lib.hid (XB3.out.on hbb)
              have A7_4 : Hid (Blk (v3.alloc (.cells #[.int .i64 0, .int .i64 0, .int .i64 0, .int .u64 0, .int .u64 0, .int .u64 0, .slice none 0 0, .int .u64 0, .bool false, .slice none 0 0, .slice none 0 0] 31)) v3.heap.size 31 #[.int .i64 0, .int .i64 0, .int .i64 0, .int .u64 0, .int .u64 0, .int .u64 0, .slice none 0 0, .int .u64 0, .bool false, .slice none 0 0, .slice none 0 0]) := Lib.hid (Blk.new _ _ _)
              have Gp7 : Hid (wr.heap.size < v3.heap.size) := Lib.hid XB3.out.blk.lt
              have NE : Hid (p8 < v3.heap.size) := Lib.hid A8_3.out.lt
              have RQ4 := Lib.hid (RQ3.out.below hbb)
              have RR4 := Lib.hid (RR3.out.below hbb)
              have A8_4 := Lib.hid (A8_3.out.below hbb A8_3.out.lt)
              refine hK.out _ _ XB4.out.cells (fun hHeld => ?_)
              clear hK K hbb
              generalize (v3.alloc (.cells #[.int .i64 0, .int .i64 0, .int .i64 0, .int .u64 0, .int .u64 0, .int .u64 0, .slice none 0 0, .int .u64 0, .bool false, .slice none 0 0, .slice none 0 0] 31)) = v4 at *
              generalize v3.heap.size = p7 at *
              try simp only [Act.put, List.setIfInBounds_toArray, List.set_cons_zero, List.set_cons_succ]
              refine wpAnyH_ready (rs := [6]) (by kernel_rfl) (by simp) ?_
              refine AllReadyH.cons rfl (fun K hK => ?_) AllReadyH.nil
              refine wp_store_nine rfl 31 _ _ rfl p7 #[.int .i64 0, .int .i64 0, .int .i64 0, .int .u64 0, .int .u64 0, .int .u64 0, .slice none 0 0, .int .u64 0, .bool false, .slice none 0 0, .slice none 0 0] 31 [.int .i64 my.kind, .int .i64 my.fr, .int .i64 my.to, .int .u64 my.t, .int .u64 my.pi, .int .u64 my.pt, .slice qA qn qc, .int .u64 my.co, .bool my.ok, .slice qA1 qn1 qc1, .slice qA2 qn2 qc2] rfl rfl A7_4.out rfl Tryd.i31 (by simp [Value.oneCell']) ?_
              intro v5 hb7 ho7
              have XB5 : Hid (Bx wr wr.heap.size ykind yfr yto yt ypi ypt yco yok yA yn yc yA1 yn1 yc1 yA2 yn2 yc2 v5) := Lib.hid ⟨ho7.keep XB4.out.blk (by have := Gp7.out; omega), XB4.out.bel.trans (ho7.below (by have := Gp7.out; omega)), XB4.out.low⟩
              have RQ5 := Lib.hid (RQ4.out.only A7_4.out ho7)
              have RR5 := Lib.hid (RR4.out.only A7_4.out ho7)
              have A8_5 := Lib.hid (ho7.keep A8_4.out (by have := NE.out; omega))
              have A7_5 : Hid (Blk v5 p7 31 #[.int .i64 my.kind, .int .i64 my.fr, .int .i64 my.to, .int .u64 my.t, .int .u64 my.pi, .int .u64 my.pt, .slice qA qn qc, .int .u64 my.co, .bool my.ok, .slice qA1 qn1 qc1, .slice qA2 qn2 qc2]) := Lib.hid hb7
              clear hb7 ho7
              refine hK.out _ _ XB5.out.cells (fun hHeld => ?_)
              clear hK K
              try simp only [Act.put, List.setIfInBounds_toArray, List.set_cons_zero, List.set_cons_succ]
              refine wpAnyH_ready (rs := [7]) (by kernel_rfl) (by simp) ?_
              refine AllReadyH.cons rfl (fun K hK => ?_) AllReadyH.nil
              refine wp_store_nine rfl 31 _ _ rfl p8 #[.int .i64 0, .int .i64 0, .int .i64 0, .int .u64 0, .int .u64 0, .int .u64 0, .slice none 0 0, .int .u64 0, .bool false, .slice none 0 0, .slice none 0 0] 31 [.int .i64 my.kind, .int .i64 my.fr, .int .i64 my.to, .int .u64 my.t, .int .u64 my.pi, .int .u64 my.pt, .slice rA rn rc, .int .u64 my.co, .bool my.ok, .slice rA1 rn1 rc1, .slice rA2 rn2 rc2] rfl rfl A8_5.out rfl Tryd.i31 (by simp [Value.oneCell']) ?_
              intro v6 hb7 ho7
              have XB6 : Hid (Bx wr wr.heap.size ykind yfr yto yt ypi ypt yco yok yA yn yc yA1 yn1 yc1 yA2 yn2 yc2 v6) := Lib.hid ⟨ho7.keep XB5.out.blk (by have := Gp8.out; omega), XB5.out.bel.trans (ho7.below (by have := Gp8.out; omega)), XB5.out.low⟩
              have RQ6 := Lib.hid (RQ5.out.only A8_5.out ho7)
              have RR6 := Lib.hid (RR5.out.only A8_5.out ho7)
              have A7_6 := Lib.hid (ho7.keep A7_5.out (by have := NE.out; omega))
              have A8_6 : Hid (Blk v6 p8 31 #[.int .i64 my.kind, .int .i64 my.fr, .int .i64 my.to, .int .u64 my.t, .int .u64 my.pi, .int .u64 my.pt, .slice rA rn rc, .int .u64 my.co, .bool my.ok, .slice rA1 rn1 rc1, .slice rA2 rn2 rc2]) := Lib.hid hb7
              clear hb7 ho7
              refine hK.out _ _ XB6.out.cells (fun hHeld => ?_)
              clear hK K
              try simp only [Act.put, List.setIfInBounds_toArray, List.set_cons_zero, List.set_cons_succ]
              refine wpAnyH_done (by kernel_rfl) ?_ _
              refine NoPanic.normal ?_
              go_wp2_with fail
              go_meet
              case rel => exact ⟨p7, p8, qA, qn, qc, qA1, qn1, qc1, qA2, qn2, qc2, rA, rn, rc, rA1, rn1, rc1, rA2, rn2, rc2, rfl, rfl, by have := NE.out; omega, by have := Gp7.out; omega, by have := Gp8.out; omega, A7_6.out, A8_6.out, RQ6.out, RR6.out, XB6.out.bel⟩
            · skip
              go_simp
              have hbb : Below v2.heap.size v2 (v2.alloc (.cells #[.int .i64 0, .int .i64 0, .int .i64 0, .int .u64 0, .int .u64 0, .int .u64 0, .slice none 0 0, .int .u64 0, .bool false, .slice none 0 0, .slice none 0 0] 31)) := (Below.refl _ _).alloc (Nat.le_refl _) _
              have XB3 := Lib.hid (XB2.out.on hbb)
              have A7_3 : Hid (Blk (v2.alloc (.cells #[.int .i64 0, .int .i64 0, .int .i64 0, .int .u64 0, .int .u64 0, .int .u64 0, .slice none 0 0, .int .u64 0, .bool false, .slice none 0 0, .slice none 0 0] 31)) v2.heap.size 31 #[.int .i64 0, .int .i64 0, .int .i64 0, .int .u64 0, .int .u64 0, .int .u64 0, .slice none 0 0, .int .u64 0, .bool false, .slice none 0 0, .slice none 0 0]) := Lib.hid (Blk.new _ _ _)
              have Gp7 : Hid (wr.heap.size < v2.heap.size) := Lib.hid XB2.out.blk.lt
              have NE : Hid (p8 < v2.heap.size) := Lib.hid A8_2.out.lt
              have RQ3 := Lib.hid (RQ2.out.below hbb)
              have A8_3 := Lib.hid (A8_2.out.below hbb A8_2.out.lt)
              refine hK.out _ _ XB3.out.cells (fun hHeld => ?_)
              clear hK K hbb
              generalize (v2.alloc (.cells #[.int .i64 0, .int .i64 0, .int .i64 0, .int .u64 0, .int .u64 0, .int .u64 0, .slice none 0 0, .int .u64 0, .bool false, .slice none 0 0, .slice none 0 0] 31)) = v3 at *
              generalize v2.heap.size = p7 at *
              try simp only [Act.put, List.setIfInBounds_toArray, List.set_cons_zero, List.set_cons_succ]
              refine wpAnyH_ready (rs := [3]) (by kernel_rfl) (by simp) ?_
              refine AllReadyH.cons rfl (fun K hK => ?_) AllReadyH.nil
              go_simp
              refine (FW.out _ XB3.out.bel).mono ?_
              rintro e v4 ⟨rA, rn, rc, rA1, rn1, rc1, rA2, rn2, rc2, rfl, pe, pi_, po, hb⟩
              have XB4 := Lib.hid (XB3.out.on hb)
              have RQ4 := Lib.hid (RQ3.out.below hb)
              have A7_4 := Lib.hid (A7_3.out.below hb A7_3.out.lt)
              have A8_4 := Lib.hid (A8_3.out.below hb A8_3.out.lt)
              have RR4 : Hid (Rw v4 my rA rn rc rA1 rn1 rc1 rA2 rn2 rc2) := Lib.hid ⟨pe.down (Nat.zero_le _), World.ownsRow.down pi_ (Nat.zero_le _), po.down (Nat.zero_le _)⟩
              clear pe pi_ po hb
              refine hK.out _ _ XB4.out.cells (fun hHeld => ?_)
              clear hK K
              try simp only [Act.put, List.setIfInBounds_toArray, List.set_cons_zero, List.set_cons_succ]
              refine wpAnyH_ready (rs := [6]) (by kernel_rfl) (by simp) ?_
              refine AllReadyH.cons rfl (fun K hK => ?_) AllReadyH.nil
              refine wp_store_nine rfl 31 _ _ rfl p7 #[.int .i64 0, .int .i64 0, .int .i64 0, .int .u64 0, .int .u64 0, .int .u64 0, .slice none 0 0, .int .u64 0, .bool false, .slice none 0 0, .slice none 0 0] 31 [.int .i64 my.kind, .int .i64 my.fr, .int .i64 my.to, .int .u64 my.t, .int .u64 my.pi, .int .u64 my.pt, .slice qA qn qc, .int .u64 my.co, .bool my.ok, .slice qA1 qn1 qc1, .slice qA2 qn2 qc2] rfl rfl A7_4.out rfl Tryd.i31 (by simp [Value.oneCell']) ?_
              intro v5 hb7 ho7
              have XB5 : Hid (Bx wr wr.heap.size ykind yfr yto yt ypi ypt yco yok yA yn yc yA1 yn1 yc1 yA2 yn2 yc2 v5) := Lib.hid ⟨ho7.keep XB4.out.blk (by have := Gp7.out; omega), XB4.out.bel.trans (ho7.below (by have := Gp7.out; omega)), XB4.out.low⟩
              have RQ5 := Lib.hid (RQ4.out.only A7_4.out ho7)
              have RR5 := Lib.hid (RR4.out.only A7_4.out ho7)
              have A8_5 := Lib.hid (ho7.keep A8_4.out (by have := NE.out; omega))
              have A7_5 : Hid (Blk v5 p7 31 #[.int .i64 my.kind, .int .i64 my.fr, .int .i64 my.to, .int .u64 my.t, .int .u64 my.pi, .int .u64 my.pt, .slice qA qn qc, .int .u64 my.co, .bool my.ok, .slice qA1 qn1 qc1, .slice qA2 qn2 qc2]) := Lib.hid hb7
              clear hb7 ho7
              refine hK.out _ _ XB5.out.cells (fun hHeld => ?_)
              clear hK K
              try simp only [Act.put, List.setIfInBounds_toArray, List.set_cons_zero, List.set_cons_succ]
              refine wpAnyH_ready (rs := [7]) (by kernel_rfl) (by simp) ?_
              refine AllReadyH.cons rfl (fun K hK => ?_) AllReadyH.nil
              refine wp_store_nine rfl 31 _ _ rfl p8 #[.int .i64 0, .int .i64 0, .int .i64 0, .int .u64 0, .int .u64 0, .int .u64 0, .slice none 0 0, .int .u64 0, .bool false, .slice none 0 0, .slice none 0 0] 31 [.int .i64 my.kind, .int .i64 my.fr, .int .i64 my.to, .int .u64 my.t, .int .u64 my.pi, .int .u64 my.pt, .slice rA rn rc, .int .u64 my.co, .bool my.ok, .slice rA1 rn1 rc1, .slice rA2 rn2 rc2] rfl rfl A8_5.out rfl Tryd.i31 (by simp [Value.oneCell']) ?_
              intro v6 hb7 ho7
              have XB6 : Hid (Bx wr wr.heap.size ykind yfr yto yt ypi ypt yco yok yA yn yc yA1 yn1 yc1 yA2 yn2 yc2 v6) := Lib.hid ⟨ho7.keep XB5.out.blk (by have := Gp8.out; omega), XB5.out.bel.trans (ho7.below (by have := Gp8.out; omega)), XB5.out.low⟩
              have RQ6 := Lib.hid (RQ5.out.only A8_5.out ho7)
              have RR6 := Lib.hid (RR5.out.only A8_5.out ho7)
              have A7_6 := Lib.hid (ho7.keep A7_5.out (by have := NE.out; omega))
              have A8_6 : Hid (Blk v6 p8 31 #[.int .i64 my.kind, .int .i64 my.fr, .int .i64 my.to, .int .u64 my.t, .int .u64 my.pi, .int .u64 my.pt, .slice rA rn rc, .int .u64 my.co, .bool my.ok, .slice rA1 rn1 rc1, .slice rA2 rn2 rc2]) := Lib.hid hb7
              clear hb7 ho7
              refine hK.out _ _ XB6.out.cells (fun hHeld => ?_)
              clear hK K
              try simp only [Act.put, List.setIfInBounds_toArray, List.set_cons_zero, List.set_cons_succ]
              refine wpAnyH_done (by kernel_rfl) ?_ _
              refine NoPanic.normal ?_
              go_wp2_with fail
              go_meet
              case rel => exact ⟨p7, p8, qA, qn, qc, qA1, qn1, qc1, qA2, qn2, qc2, rA, rn, rc, rA1, rn1, rc1, rA2, rn2, rc2, rfl, rfl, by have := NE.out; omega, by have := Gp7.out; omega, by have := Gp8.out; omega, A7_6.out, A8_6.out, RQ6.out, RR6.out, XB6.out.bel⟩
        · skip
          go_simp
          have hbb : Below v0.heap.size v0 (v0.alloc (.cells #[.int .i64 0, .int .i64 0, .int .i64 0, .int .u64 0, .int .u64 0, .int .u64 0, .slice none 0 0, .int .u64 0, .bool false, .slice none 0 0, .slice none 0 0] 31)) := (Below.refl _ _).alloc (Nat.le_refl _) _
          have XB1 := Lib.hid (XB0.out.on hbb)
          have A7_1 : Hid (Blk (v0.alloc (.cells #[.int .i64 0, .int .i64 0, .int .i64 0, .int .u64 0, .int .u64 0, .int .u64 0, .slice none 0 0, .int .u64 0, .bool false, .slice none 0 0, .slice none 0 0] 31)) v0.heap.size 31 #[.int .i64 0, .int .i64 0, .int .i64 0, .int .u64 0, .int .u64 0, .int .u64 0, .slice none 0 0, .int .u64 0, .bool false, .slice none 0 0, .slice none 0 0]) := Lib.hid (Blk.new _ _ _)
          have Gp7 : Hid (wr.heap.size < v0.heap.size) := Lib.hid XB0.out.blk.lt
          refine hK.out _ _ XB1.out.cells (fun hHeld => ?_)
          clear hK K hbb
          generalize (v0.alloc (.cells #[.int .i64 0, .int .i64 0, .int .i64 0, .int .u64 0, .int .u64 0, .int .u64 0, .slice none 0 0, .int .u64 0, .bool false, .slice none 0 0, .slice none 0 0] 31)) = v1 at *
          generalize v0.heap.size = p7 at *
          try simp only [Act.put, List.setIfInBounds_toArray, List.set_cons_zero, List.set_cons_succ]
          refine wpAnyH_ready (rs := [1, 5]) (by kernel_rfl) (by simp) ?_
          refine AllReadyH.cons rfl (fun K hK => ?_) (AllReadyH.cons rfl (fun K hK => ?_) AllReadyH.nil)
          · skip
            go_simp
            refine (FW.out _ XB1.out.bel).mono ?_
            rintro e v2 ⟨qA, qn, qc, qA1, qn1, qc1, qA2, qn2, qc2, rfl, pe, pi_, po, hb⟩
            have XB2 := Lib.hid (XB1.out.on hb)
            have A7_2 := Lib.hid (A7_1.out.below hb A7_1.out.lt)
            have RQ2 : Hid (Rw v2 my qA qn qc qA1 qn1 qc1 qA2 qn2 qc2) := Lib.hid ⟨pe.down (Nat.zero_le _), World.ownsRow.down pi_ (Nat.zero_le _), po.down (Nat.zero_le _)⟩
            clear pe pi_ po hb
            refine hK.out _ _ XB2.out.cells (fun hHeld => ?_)
            clear hK K
            try simp only [Act.put, List.setIfInBounds_toArray, List.set_cons_zero, List.set_cons_succ]
            refine wpAnyH_ready (rs := [3, 5]) (by kernel_rfl) (by simp) ?_
            refine AllReadyH.cons rfl (fun K hK => ?_) (AllReadyH.cons rfl (fun K hK => ?_) AllReadyH.nil)
            · skip
              go_simp
              refine (FW.out _ XB2.out.bel).mono ?_
              rintro e v3 ⟨rA, rn, rc, rA1, rn1, rc1, rA2, rn2, rc2, rfl, pe, pi_, po, hb⟩
              have XB3 := Lib.hid (XB2.out.on hb)
              have RQ3 := Lib.hid (RQ2.out.below hb)
              have A7_3 := Lib.hid (A7_2.out.below hb A7_2.out.lt)
              have RR3 : Hid (Rw v3 my rA rn rc rA1 rn1 rc1 rA2 rn2 rc2) := Lib.hid ⟨pe.down (Nat.zero_le _), World.ownsRow.down pi_ (Nat.zero_le _), po.down (Nat.zero_le _)⟩
              clear pe pi_ po hb
              refine hK.out _ _ XB3.out.cells (fun hHeld => ?_)
              clear hK K
              try simp only [Act.put, List.setIfInBounds_toArray, List.set_cons_zero, List.set_cons_succ]
              refine wpAnyH_ready (rs := [5]) (by kernel_rfl) (by simp) ?_
              refine AllReadyH.cons rfl (fun K hK => ?_) AllReadyH.nil
              go_simp
              have hbb : Below v3.heap.size v3 (v3.alloc (.cells #[.int .i64 0, .int .i64 0, .int .i64 0, .int .u64 0, .int .u64 0, .int .u64 0, .slice none 0 0, .int .u64 0, .bool false, .slice none 0 0, .slice none 0 0] 31)) := (Below.refl _ _).alloc (Nat.le_refl _) _
              have XB4 := Lib.hid (XB3.out.on hbb)
              have A8_4 : Hid (Blk (v3.alloc (.cells #[.int .i64 0, .int .i64 0, .int .i64 0, .int .u64 0, .int .u64 0, .int .u64 0, .slice none 0 0, .int .u64 0, .bool false, .slice none 0 0, .slice none 0 0] 31)) v3.heap.size 31 #[.int .i64 0, .int .i64 0, .int .i64 0, .int .u64 0, .int .u64 0, .int .u64 0, .slice none 0 0, .int .u64 0, .bool false, .slice none 0 0, .slice none 0 0]) := Lib.hid (Blk.new _ _ _)
              have Gp8 : Hid (wr.heap.size < v3.heap.size) := Lib.hid XB3.out.blk.lt
              have NE : Hid (p7 < v3.heap.size) := Lib.hid A7_3.out.lt
              have RQ4 := Lib.hid (RQ3.out.below hbb)
              have RR4 := Lib.hid (RR3.out.below hbb)
              have A7_4 := Lib.hid (A7_3.out.below hbb A7_3.out.lt)
              refine hK.out _ _ XB4.out.cells (fun hHeld => ?_)
              clear hK K hbb
              generalize (v3.alloc (.cells #[.int .i64 0, .int .i64 0, .int .i64 0, .int .u64 0, .int .u64 0, .int .u64 0, .slice none 0 0, .int .u64 0, .bool false, .slice none 0 0, .slice none 0 0] 31)) = v4 at *
              generalize v3.heap.size = p8 at *
              try simp only [Act.put, List.setIfInBounds_toArray, List.set_cons_zero, List.set_cons_succ]
              refine wpAnyH_ready (rs := [6]) (by kernel_rfl) (by simp) ?_
              refine AllReadyH.cons rfl (fun K hK => ?_) AllReadyH.nil
              refine wp_store_nine rfl 31 _ _ rfl p7 #[.int .i64 0, .int .i64 0, .int .i64 0, .int .u64 0, .int .u64 0, .int .u64 0, .slice none 0 0, .int .u64 0, .bool false, .slice none 0 0, .slice none 0 0] 31 [.int .i64 my.kind, .int .i64 my.fr, .int .i64 my.to, .int .u64 my.t, .int .u64 my.pi, .int .u64 my.pt, .slice qA qn qc, .int .u64 my.co, .bool my.ok, .slice qA1 qn1 qc1, .slice qA2 qn2 qc2] rfl rfl A7_4.out rfl Tryd.i31 (by simp [Value.oneCell']) ?_
              intro v5 hb7 ho7
              have XB5 : Hid (Bx wr wr.heap.size ykind yfr yto yt ypi ypt yco yok yA yn yc yA1 yn1 yc1 yA2 yn2 yc2 v5) := Lib.hid ⟨ho7.keep XB4.out.blk (by have := Gp7.out; omega), XB4.out.bel.trans (ho7.below (by have := Gp7.out; omega)), XB4.out.low⟩
              have RQ5 := Lib.hid (RQ4.out.only A7_4.out ho7)
              have RR5 := Lib.hid (RR4.out.only A7_4.out ho7)
              have A8_5 := Lib.hid (ho7.keep A8_4.out (by have := NE.out; omega))
              have A7_5 : Hid (Blk v5 p7 31 #[.int .i64 my.kind, .int .i64 my.fr, .int .i64 my.to, .int .u64 my.t, .int .u64 my.pi, .int .u64 my.pt, .slice qA qn qc, .int .u64 my.co, .bool my.ok, .slice qA1 qn1 qc1, .slice qA2 qn2 qc2]) := Lib.hid hb7
              clear hb7 ho7
              refine hK.out _ _ XB5.out.cells (fun hHeld => ?_)
              clear hK K
              try simp only [Act.put, List.setIfInBounds_toArray, List.set_cons_zero, List.set_cons_succ]
              refine wpAnyH_ready (rs := [7]) (by kernel_rfl) (by simp) ?_
              refine AllReadyH.cons rfl (fun K hK => ?_) AllReadyH.nil
              refine wp_store_nine rfl 31 _ _ rfl p8 #[.int .i64 0, .int .i64 0, .int .i64 0, .int .u64 0, .int .u64 0, .int .u64 0, .slice none 0 0, .int .u64 0, .bool false, .slice none 0 0, .slice none 0 0] 31 [.int .i64 my.kind, .int .i64 my.fr, .int .i64 my.to, .int .u64 my.t, .int .u64 my.pi, .int .u64 my.pt, .slice rA rn rc, .int .u64 my.co, .bool my.ok, .slice rA1 rn1 rc1, .slice rA2 rn2 rc2] rfl rfl A8_5.out rfl Tryd.i31 (by simp [Value.oneCell']) ?_
              intro v6 hb7 ho7
              have XB6 : Hid (Bx wr wr.heap.size ykind yfr yto yt ypi ypt yco yok yA yn yc yA1 yn1 yc1 yA2 yn2 yc2 v6) := Lib.hid ⟨ho7.keep XB5.out.blk (by have := Gp8.out; omega), XB5.out.bel.trans (ho7.below (by have := Gp8.out; omega)), XB5.out.low⟩
              have RQ6 := Lib.hid (RQ5.out.only A8_5.out ho7)
              have RR6 := Lib.hid (RR5.out.only A8_5.out ho7)
              have A7_6 := Lib.hid (ho7.keep A7_5.out (by have := NE.out; omega))
              have A8_6 : Hid (Blk v6 p8 31 #[.int .i64 my.kind, .int .i64 my.fr, .int .i64 my.to, .int .u64 my.t, .int .u64 my.pi, .int .u64 my.pt, .slice rA rn rc, .int .u64 my.co, .bool my.ok, .slice rA1 rn1 rc1, .slice rA2 rn2 rc2]) := Lib.hid hb7
              clear hb7 ho7
              refine hK.out _ _ XB6.out.cells (fun hHeld => ?_)
              clear hK K
              try simp only [Act.put, List.setIfInBounds_toArray, List.set_cons_zero, List.set_cons_succ]
              refine wpAnyH_done (by kernel_rfl) ?_ _
              refine NoPanic.normal ?_
              go_wp2_with fail
              go_meet
              case rel => exact ⟨p7, p8, qA, qn, qc, qA1, qn1, qc1, qA2, qn2, qc2, rA, rn, rc, rA1, rn1, rc1, rA2, rn2, rc2, rfl, rfl, by have := NE.out; omega, by have := Gp7.out; omega, by have := Gp8.out; omega, A7_6.out, A8_6.out, RQ6.out, RR6.out, XB6.out.bel⟩
            · skip
              go_simp
              have hbb : Below v2.heap.size v2 (v2.alloc (.cells #[.int .i64 0, .int .i64 0, .int .i64 0, .int .u64 0, .int .u64 0, .int .u64 0, .slice none 0 0, .int .u64 0, .bool false, .slice none 0 0, .slice none 0 0] 31)) := (Below.refl _ _).alloc (Nat.le_refl _) _
              have XB3 := Lib.hid (XB2.out.on hbb)
              have A8_3 : Hid (Blk (v2.alloc (.cells #[.int .i64 0, .int .i64 0, .int .i64 0, .int .u64 0, .int .u64 0, .int .u64 0, .slice none 0 0, .int .u64 0, .bool false, .slice none 0 0, .slice none 0 0] 31)) v2.heap.size 31 #[.int .i64 0, .int .i64 0, .int .i64 0, .int .u64 0, .int .u64 0, .int .u64 0, .slice none 0 0, .int .u64 0, .bool false, .slice none 0 0, .slice none 0 0]) := Lib.hid (Blk.new _ _ _)
              have Gp8 : Hid (wr.heap.size < v2.heap.size) := Lib.hid XB2.out.blk.lt
              have NE : Hid (p7 < v2.heap.size) := Lib.hid A7_2.out.lt
              have RQ3 := Lib.hid (RQ2.out.below hbb)
              have A7_3 := Lib.hid (A7_2.out.below hbb A7_2.out.lt)
              refine hK.out _ _ XB3.out.cells (fun hHeld => ?_)
              clear hK K hbb
              generalize (v2.alloc (.cells #[.int .i64 0, .int .i64 0, .int .i64 0, .int .u64 0, .int .u64 0, .int .u64 0, .slice none 0 0, .int .u64 0, .bool false, .slice none 0 0, .slice none 0 0] 31)) = v3 at *
              generalize v2.heap.size = p8 at *
              try simp only [Act.put, List.setIfInBounds_toArray, List.set_cons_zero, List.set_cons_succ]
              refine wpAnyH_ready (rs := [3]) (by kernel_rfl) (by simp) ?_
              refine AllReadyH.cons rfl (fun K hK => ?_) AllReadyH.nil
              go_simp
              refine (FW.out _ XB3.out.bel).mono ?_
              rintro e v4 ⟨rA, rn, rc, rA1, rn1, rc1, rA2, rn2, rc2, rfl, pe, pi_, po, hb⟩
              have XB4 := Lib.hid (XB3.out.on hb)
              have RQ4 := Lib.hid (RQ3.out.below hb)
              have A7_4 := Lib.hid (A7_3.out.below hb A7_3.out.lt)
              have A8_4 := Lib.hid (A8_3.out.below hb A8_3.out.lt)
              have RR4 : Hid (Rw v4 my rA rn rc rA1 rn1 rc1 rA2 rn2 rc2) := Lib.hid ⟨pe.down (Nat.zero_le _), World.ownsRow.down pi_ (Nat.zero_le _), po.down (Nat.zero_le _)⟩
              clear pe pi_ po hb
              refine hK.out _ _ XB4.out.cells (fun hHeld => ?_)
              clear hK K
              try simp only [Act.put, List.setIfInBounds_toArray, List.set_cons_zero, List.set_cons_succ]
              refine wpAnyH_ready (rs := [6]) (by kernel_rfl) (by simp) ?_
              refine AllReadyH.cons rfl (fun K hK => ?_) AllReadyH.nil
              refine wp_store_nine rfl 31 _ _ rfl p7 #[.int .i64 0, .int .i64 0, .int .i64 0, .int .u64 0, .int .u64 0, .int .u64 0, .slice none 0 0, .int .u64 0, .bool false, .slice none 0 0, .slice none 0 0] 31 [.int .i64 my.kind, .int .i64 my.fr, .int .i64 my.to, .int .u64 my.t, .int .u64 my.pi, .int .u64 my.pt, .slice qA qn qc, .int .u64 my.co, .bool my.ok, .slice qA1 qn1 qc1, .slice qA2 qn2 qc2] rfl rfl A7_4.out rfl Tryd.i31 (by simp [Value.oneCell']) ?_
              intro v5 hb7 ho7
              have XB5 : Hid (Bx wr wr.heap.size ykind yfr yto yt ypi ypt yco yok yA yn yc yA1 yn1 yc1 yA2 yn2 yc2 v5) := Lib.hid ⟨ho7.keep XB4.out.blk (by have := Gp7.out; omega), XB4.out.bel.trans (ho7.below (by have := Gp7.out; omega)), XB4.out.low⟩
              have RQ5 := Lib.hid (RQ4.out.only A7_4.out ho7)
              have RR5 := Lib.hid (RR4.out.only A7_4.out ho7)
              have A8_5 := Lib.hid (ho7.keep A8_4.out (by have := NE.out; omega))
              have A7_5 : Hid (Blk v5 p7 31 #[.int .i64 my.kind, .int .i64 my.fr, .int .i64 my.to, .int .u64 my.t, .int .u64 my.pi, .int .u64 my.pt, .slice qA qn qc, .int .u64 my.co, .bool my.ok, .slice qA1 qn1 qc1, .slice qA2 qn2 qc2]) := Lib.hid hb7
              clear hb7 ho7
              refine hK.out _ _ XB5.out.cells (fun hHeld => ?_)
              clear hK K
              try simp only [Act.put, List.setIfInBounds_toArray, List.set_cons_zero, List.set_cons_succ]
              refine wpAnyH_ready (rs := [7]) (by kernel_rfl) (by simp) ?_
              refine AllReadyH.cons rfl (fun K hK => ?_) AllReadyH.nil
              refine wp_store_nine rfl 31 _ _ rfl p8 #[.int .i64 0, .int .i64 0, .int .i64 0, .int .u64 0, .int .u64 0, .int .u64 0, .slice none 0 0, .int .u64 0, .bool false, .slice none 0 0, .slice none 0 0] 31 [.int .i64 my.kind, .int .i64 my.fr, .int .i64 my.to, .int .u64 my.t, .int .u64 my.pi, .int .u64 my.pt, .slice rA rn rc, .int .u64 my.co, .bool my.ok, .slice rA1 rn1 rc1, .slice rA2 rn2 rc2] rfl rfl A8_5.out rfl Tryd.i31 (by simp [Value.oneCell']) ?_
              intro v6 hb7 ho7
              have XB6 : Hid (Bx wr wr.heap.size ykind yfr yto yt ypi ypt yco yok yA yn yc yA1 yn1 yc1 yA2 yn2 yc2 v6) := Lib.hid ⟨ho7.keep XB5.out.blk (by have := Gp8.out; omega), XB5.out.bel.trans (ho7.below (by have := Gp8.out; omega)), XB5.out.low⟩
              have RQ6 := Lib.hid (RQ5.out.only A8_5.out ho7)
              have RR6 := Lib.hid (RR5.out.only A8_5.out ho7)
              have A7_6 := Lib.hid (ho7.keep A7_5.out (by have := NE.out; omega))
              have A8_6 : Hid (Blk v6 p8 31 #[.int .i64 my.kind, .int .i64 my.fr, .int .i64 my.to, .int .u64 my.t, .int .u64 my.pi, .int .u64 my.pt, .slice rA rn rc, .int .u64 my.co, .bool my.ok, .slice rA1 rn1 rc1, .slice rA2 rn2 rc2]) := Lib.hid hb7
              clear hb7 ho7
              refine hK.out _ _ XB6.out.cells (fun hHeld => ?_)
              clear hK K
              try simp only [Act.put, List.setIfInBounds_toArray, List.set_cons_zero, List.set_cons_succ]
              refine wpAnyH_done (by kernel_rfl) ?_ _
              refine NoPanic.normal ?_
              go_wp2_with fail
              go_meet
              case rel => exact ⟨p7, p8, qA, qn, qc, qA1, qn1, qc1, qA2, qn2, qc2, rA, rn, rc, rA1, rn1, rc1, rA2, rn2, rc2, rfl, rfl, by have := NE.out; omega, by have := Gp7.out; omega, by have := Gp8.out; omega, A7_6.out, A8_6.out, RQ6.out, RR6.out, XB6.out.bel⟩
          · skip
            go_simp
            have hbb : Below v1.heap.size v1 (v1.alloc (.cells #[.int .i64 0, .int .i64 0, .int .i64 0, .int .u64 0, .int .u64 0, .int .u64 0, .slice none 0 0, .int .u64 0, .bool false, .slice none 0 0, .slice none 0 0] 31)) := (Below.refl _ _).alloc (Nat.le_refl _) _
            have XB2 := Lib.hid (XB1.out.on hbb)
            have A8_2 : Hid (Blk (v1.alloc (.cells #[.int .i64 0, .int .i64 0, .int .i64 0, .int .u64 0, .int .u64 0, .int .u64 0, .slice none 0 0, .int .u64 0, .bool false, .slice none 0 0, .slice none 0 0] 31)) v1.heap.size 31 #[.int .i64 0, .int .i64 0, .int .i64 0, .int .u64 0, .int .u64 0, .int .u64 0, .slice none 0 0, .int .u64 0, .bool false, .slice none 0 0, .slice none 0 0]) := Lib.hid (Blk.new _ _ _)
            have Gp8 : Hid (wr.heap.size < v1.heap.size) := Lib.hid XB1.out.blk.lt
            have NE : Hid (p7 < v1.heap.size) := Lib.hid A7_1.out.lt
            have A7_2 := Lib.hid (A7_1.out.below hbb A7_1.out.lt)
            refine hK.out _ _ XB2.out.cells (fun hHeld => ?_)
            clear hK K hbb
            generalize (v1.alloc (.cells #[.int .i64 0, .int .i64 0, .int .i64 0, .int .u64 0, .int .u64 0, .int .u64 0, .slice none 0 0, .int .u64 0, .bool false, .slice none 0 0, .slice none 0 0] 31)) = v2 at *
            generalize v1.heap.size = p8 at *
            try simp only [Act.put, List.setIfInBounds_toArray, List.set_cons_zero, List.set_cons_succ]
            refine wpAnyH_ready (rs := [1]) (by kernel_rfl) (by simp) ?_
            refine AllReadyH.cons rfl (fun K hK => ?_) AllReadyH.nil
            go_simp
            refine (FW.out _ XB2.out.bel).mono ?_
            rintro e v3 ⟨qA, qn, qc, qA1, qn1, qc1, qA2, qn2, qc2, rfl, pe, pi_, po, hb⟩
            have XB3 := Lib.hid (XB2.out.on hb)
            have A7_3 := Lib.hid (A7_2.out.below hb A7_2.out.lt)
            have A8_3 := Lib.hid (A8_2.out.below hb A8_2.out.lt)
            have RQ3 : Hid (Rw v3 my qA qn qc qA1 qn1 qc1 qA2 qn2 qc2) := Lib.hid ⟨pe.down (Nat.zero_le _), World.ownsRow.down pi_ (Nat.zero_le _), po.down (Nat.zero_le _)⟩
            clear pe pi_ po hb
            refine hK.out _ _ XB3.out.cells (fun hHeld => ?_)
            clear hK K
            try simp only [Act.put, List.setIfInBounds_toArray, List.set_cons_zero, List.set_cons_succ]
            refine wpAnyH_ready (rs := [3]) (by kernel_rfl) (by simp) ?_
            refine AllReadyH.cons rfl (fun K hK => ?_) AllReadyH.nil
            go_simp
            refine (FW.out _ XB3.out.bel).mono ?_
            rintro e v4 ⟨rA, rn, rc, rA1, rn1, rc1, rA2, rn2, rc2, rfl, pe, pi_, po, hb⟩
            have XB4 := Lib.hid (XB3.out.on hb)
            have RQ4 := Lib.hid (RQ3.out.below hb)
            have A7_4 := Lib.hid (A7_3.out.below hb A7_3.out.lt)
            have A8_4 := Lib.hid (A8_3.out.below hb A8_3.out.lt)
            have RR4 : Hid (Rw v4 my rA rn rc rA1 rn1 rc1 rA2 rn2 rc2) := Lib.hid ⟨pe.down (Nat.zero_le _), World.ownsRow.down pi_ (Nat.zero_le _), po.down (Nat.zero_le _)⟩
            clear pe pi_ po hb
            refine hK.out _ _ XB4.out.cells (fun hHeld => ?_)
            clear hK K
            try simp only [Act.put, List.setIfInBounds_toArray, List.set_cons_zero, List.set_cons_succ]
            refine wpAnyH_ready (rs := [6]) (by kernel_rfl) (by simp) ?_
            refine AllReadyH.cons rfl (fun K hK => ?_) AllReadyH.nil
            refine wp_store_nine rfl 31 _ _ rfl p7 #[.int .i64 0, .int .i64 0, .int .i64 0, .int .u64 0, .int .u64 0, .int .u64 0, .slice none 0 0, .int .u64 0, .bool false, .slice none 0 0, .slice none 0 0] 31 [.int .i64 my.kind, .int .i64 my.fr, .int .i64 my.to, .int .u64 my.t, .int .u64 my.pi, .int .u64 my.pt, .slice qA qn qc, .int .u64 my.co, .bool my.ok, .slice qA1 qn1 qc1, .slice qA2 qn2 qc2] rfl rfl A7_4.out rfl Tryd.i31 (by simp [Value.oneCell']) ?_
            intro v5 hb7 ho7
            have XB5 : Hid (Bx wr wr.heap.size ykind yfr yto yt ypi ypt yco yok yA yn yc yA1 yn1 yc1 yA2 yn2 yc2 v5) := Lib.hid ⟨ho7.keep XB4.out.blk (by have := Gp7.out; omega), XB4.out.bel.trans (ho7.below (by have := Gp7.out; omega)), XB4.out.low⟩
            have RQ5 := Lib.hid (RQ4.out.only A7_4.out ho7)
            have RR5 := Lib.hid (RR4.out.only A7_4.out ho7)
            have A8_5 := Lib.hid (ho7.keep A8_4.out (by have := NE.out; omega))
            have A7_5 : Hid (Blk v5 p7 31 #[.int .i64 my.kind, .int .i64 my.fr, .int .i64 my.to, .int .u64 my.t, .int .u64 my.pi, .int .u64 my.pt, .slice qA qn qc, .int .u64 my.co, .bool my.ok, .slice qA1 qn1 qc1, .slice qA2 qn2 qc2]) := Lib.hid hb7
            clear hb7 ho7
            refine hK.out _ _ XB5.out.cells (fun hHeld => ?_)
            clear hK K
            try simp only [Act.put, List.setIfInBounds_toArray, List.set_cons_zero, List.set_cons_succ]
            refine wpAnyH_ready (rs := [7]) (by kernel_rfl) (by simp) ?_
            refine AllReadyH.cons rfl (fun K hK => ?_) AllReadyH.nil
            refine wp_store_nine rfl 31 _ _ rfl p8 #[.int .i64 0, .int .i64 0, .int .i64 0, .int .u64 0, .int .u64 0, .int .u64 0, .slice none 0 0, .int .u64 0, .bool false, .slice none 0 0, .slice none 0 0] 31 [.int .i64 my.kind, .int .i64 my.fr, .int .i64 my.to, .int .u64 my.t, .int .u64 my.pi, .int .u64 my.pt, .slice rA rn rc, .int .u64 my.co, .bool my.ok, .slice rA1 rn1 rc1, .slice rA2 rn2 rc2] rfl rfl A8_5.out rfl Tryd.i31 (by simp [Value.oneCell']) ?_
            intro v6 hb7 ho7
            have XB6 : Hid (Bx wr wr.heap.size ykind yfr yto yt ypi ypt yco yok yA yn yc yA1 yn1 yc1 yA2 yn2 yc2 v6) := Lib.hid ⟨ho7.keep XB5.out.blk (by have := Gp8.out; omega), XB5.out.bel.trans (ho7.below (by have := Gp8.out; omega)), XB5.out.low⟩
            have RQ6 := Lib.hid (RQ5.out.only A8_5.out ho7)
            have RR6 := Lib.hid (RR5.out.only A8_5.out ho7)
            have A7_6 := Lib.hid (ho7.keep A7_5.out (by have := NE.out; omega))
            have A8_6 : Hid (Blk v6 p8 31 #[.int .i64 my.kind, .int .i64 my.fr, .int .i64 my.to, .int .u64 my.t, .int .u64 my.pi, .int .u64 my.pt, .slice rA rn rc, .int .u64 my.co, .bool my.ok, .slice rA1 rn1 rc1, .slice rA2 rn2 rc2]) := Lib.hid hb7
            clear hb7 ho7
            refine hK.out _ _ XB6.out.cells (fun hHeld => ?_)
            clear hK K
            try simp only [Act.put, List.setIfInBounds_toArray, List.set_cons_zero, List.set_cons_succ]
            refine wpAnyH_done (by kernel_rfl) ?_ _
            refine NoPanic.normal ?_
            go_wp2_with fail
            go_meet
            case rel => exact ⟨p7, p8, qA, qn, qc, qA1, qn1, qc1, qA2, qn2, qc2, rA, rn, rc, rA1, rn1, rc1, rA2, rn2, rc2, rfl, rfl, by have := NE.out; omega, by have := Gp7.out; omega, by have := Gp8.out; omega, A7_6.out, A8_6.out, RQ6.out, RR6.out, XB6.out.bel⟩
        · skip
          go_simp
          have hbb : Below v0.heap.size v0 (v0.alloc (.cells #[.int .i64 0, .int .i64 0, .int .i64 0, .int .u64 0, .int .u64 0, .int .u64 0, .slice none 0 0, .int .u64 0, .bool false, .slice none 0 0, .slice none 0 0] 31)) := (Below.refl _ _).alloc (Nat.le_refl _) _
          have XB1 := Lib.hid (XB0.out.on hbb)
          have A8_1 : Hid (Blk (v0.alloc (.cells #[.int .i64 0, .int .i64 0, .int .i64 0, .int .u64 0, .int .u64 0, .int .u64 0, .slice none 0 0, .int .u64 0, .bool false, .slice none 0 0, .slice none 0 0] 31)) v0.heap.size 31 #[.int .i64 0, .int .i64 0, .int .i64 0, .int .u64 0, .int .u64 0, .int .u64 0, .slice none 0 0, .int .u64 0, .bool false, .slice none 0 0, .slice none 0 0]) := Lib.hid (Blk.new _ _ _)
          have Gp8 : Hid (wr.heap.size < v0.heap.size) := Lib.hid XB0.out.blk.lt
          refine hK.out _ _ XB1.out.cells (fun hHeld => ?_)
          clear hK K hbb
          generalize (v0.alloc (.cells #[.int .i64 0, .int .i64 0, .int .i64 0, .int .u64 0, .int .u64 0, .int .u64 0, .slice none 0 0, .int .u64 0, .bool false, .slice none 0 0, .slice none 0 0] 31)) = v1 at *
          generalize v0.heap.size = p8 at *
          try simp only [Act.put, List.setIfInBounds_toArray, List.set_cons_zero, List.set_cons_succ]
          refine wpAnyH_ready (rs := [1, 4]) (by kernel_rfl) (by simp) ?_
          refine AllReadyH.cons rfl (fun K hK => ?_) (AllReadyH.cons rfl (fun K hK => ?_) AllReadyH.nil)
          · skip
            go_simp
            refine (FW.out _ XB1.out.bel).mono ?_
            rintro e v2 ⟨qA, qn, qc, qA1, qn1, qc1, qA2, qn2, qc2, rfl, pe, pi_, po, hb⟩
            have XB2 := Lib.hid (XB1.out.on hb)
            have A8_2 := Lib.hid (A8_1.out.below hb A8_1.out.lt)
            have RQ2 : Hid (Rw v2 my qA qn qc qA1 qn1 qc1 qA2 qn2 qc2) := Lib.hid ⟨pe.down (Nat.zero_le _), World.ownsRow.down pi_ (Nat.zero_le _), po.down (Nat.zero_le _)⟩
            clear pe pi_ po hb
            refine hK.out _ _ XB2.out.cells (fun hHeld => ?_)
            clear hK K
            try simp only [Act.put, List.setIfInBounds_toArray, List.set_cons_zero, List.set_cons_succ]
            refine wpAnyH_ready (rs := [3, 4]) (by kernel_rfl) (by simp) ?_
            refine AllReadyH.cons rfl (fun K hK => ?_) (AllReadyH.cons rfl (fun K hK => ?_) AllReadyH.nil)
            · skip
              go_simp
              refine (FW.out _ XB2.out.bel).mono ?_
              rintro e v3 ⟨rA, rn, rc, rA1, rn1, rc1, rA2, rn2, rc2, rfl, pe, pi_, po, hb⟩
              have XB3 := Lib.hid (XB2.out.on hb)
              have RQ3 := Lib.hid (RQ2.out.below hb)
              have A8_3 := Lib.hid (A8_2.out.below hb A8_2.out.lt)
              have RR3 : Hid (Rw v3 my rA rn rc rA1 rn1 rc1 rA2 rn2 rc2) := Lib.hid ⟨pe.down (Nat.zero_le _), World.ownsRow.down pi_ (Nat.zero_le _), po.down (Nat.zero_le _)⟩
              clear pe pi_ po hb
              refine hK.out _ _ XB3.out.cells (fun hHeld => ?_)
              clear hK K
              try simp only [Act.put, List.setIfInBounds_toArray, List.set_cons_zero, List.set_cons_succ]
              refine wpAnyH_ready (rs := [4]) (by kernel_rfl) (by simp) ?_
              refine AllReadyH.cons rfl (fun K hK => ?_) AllReadyH.nil
              go_simp
              have hbb : Below v3.heap.size v3 (v3.alloc (.cells #[.int .i64 0, .int .i64 0, .int .i64 0, .int .u64 0, .int .u64 0, .int .u64 0, .slice none 0 0, .int .u64 0, .bool false, .slice none 0 0, .slice none 0 0] 31)) := (Below.refl _ _).alloc (Nat.le_refl _) _
              have XB4 := Lib.hid (XB3.out.on hbb)
              have A7_4 : Hid (Blk (v3.alloc (.cells #[.int .i64 0, .int .i64 0, .int .i64 0, .int .u64 0, .int .u64 0, .int .u64 0, .slice none 0 0, .int .u64 0, .bool false, .slice none 0 0, .slice none 0 0] 31)) v3.heap.size 31 #[.int .i64 0, .int .i64 0, .int .i64 0, .int .u64 0, .int .u64 0, .int .u64 0, .slice none 0 0, .int .u64 0, .bool false, .slice none 0 0, .slice none 0 0]) := Lib.hid (Blk.new _ _ _)
              have Gp7 : Hid (wr.heap.size < v3.heap.size) := Lib.hid XB3.out.blk.lt
              have NE : Hid (p8 < v3.heap.size) := Lib.hid A8_3.out.lt
              have RQ4 := Lib.hid (RQ3.out.below hbb)
              have RR4 := Lib.hid (RR3.out.below hbb)
              have A8_4 := Lib.hid (A8_3.out.below hbb A8_3.out.lt)
              refine hK.out _ _ XB4.out.cells (fun hHeld => ?_)
              clear hK K hbb
              generalize (v3.alloc (.cells #[.int .i64 0, .int .i64 0, .int .i64 0, .int .u64 0, .int .u64 0, .int .u64 0, .slice none 0 0, .int .u64 0, .bool false, .slice none 0 0, .slice none 0 0] 31)) = v4 at *
              generalize v3.heap.size = p7 at *
              try simp only [Act.put, List.setIfInBounds_toArray, List.set_cons_zero, List.set_cons_succ]
              refine wpAnyH_ready (rs := [6]) (by kernel_rfl) (by simp) ?_
              refine AllReadyH.cons rfl (fun K hK => ?_) AllReadyH.nil
              refine wp_store_nine rfl 31 _ _ rfl p7 #[.int .i64 0, .int .i64 0, .int .i64 0, .int .u64 0, .int .u64 0, .int .u64 0, .slice none 0 0, .int .u64 0, .bool false, .slice none 0 0, .slice none 0 0] 31 [.int .i64 my.kind, .int .i64 my.fr, .int .i64 my.to, .int .u64 my.t, .int .u64 my.pi, .int .u64 my.pt, .slice qA qn qc, .int .u64 my.co, .bool my.ok, .slice qA1 qn1 qc1, .slice qA2 qn2 qc2] rfl rfl A7_4.out rfl Tryd.i31 (by simp [Value.oneCell']) ?_
              intro v5 hb7 ho7
              have XB5 : Hid (Bx wr wr.heap.size ykind yfr yto yt ypi ypt yco yok yA yn yc yA1 yn1 yc1 yA2 yn2 yc2 v5) := Lib.hid ⟨ho7.keep XB4.out.blk (by have := Gp7.out; omega), XB4.out.bel.trans (ho7.below (by have := Gp7.out; omega)), XB4.out.low⟩
              have RQ5 := Lib.hid (RQ4.out.only A7_4.out ho7)
              have RR5 := Lib.hid (RR4.out.only A7_4.out ho7)
              have A8_5 := Lib.hid (ho7.keep A8_4.out (by have := NE.out; omega))
              have A7_5 : Hid (Blk v5 p7 31 #[.int .i64 my.kind, .int .i64 my.fr, .int .i64 my.to, .int .u64 my.t, .int .u64 my.pi, .int .u64 my.pt, .slice qA qn qc, .int .u64 my.co, .bool my.ok, .slice qA1 qn1 qc1, .slice qA2 qn2 qc2]) := Lib.hid hb7
              clear hb7 ho7
              refine hK.out _ _ XB5.out.cells (fun hHeld => ?_)
              clear hK K
              try simp only [Act.put, List.setIfInBounds_toArray, List.set_cons_zero, List.set_cons_succ]
              refine wpAnyH_ready (rs := [7]) (by kernel_rfl) (by simp) ?_
              refine AllReadyH.cons rfl (fun K hK => ?_) AllReadyH.nil
              refine wp_store_nine rfl 31 _ _ rfl p8 #[.int .i64 0, .int .i64 0, .int .i64 0, .int .u64 0, .int .u64 0, .int .u64 0, .slice none 0 0, .int .u64 0, .bool false, .slice none 0 0, .slice none 0 0] 31 [.int .i64 my.kind, .int .i64 my.fr, .int .i64 my.to, .int .u64 my.t, .int .u64 my.pi, .int .u64 my.pt, .slice rA rn rc, .int .u64 my.co, .bool my.ok, .slice rA1 rn1 rc1, .slice rA2 rn2 rc2] rfl rfl A8_5.out rfl Tryd.i31 (by simp [Value.oneCell']) ?_
              intro v6 hb7 ho7
              have XB6 : Hid (Bx wr wr.heap.size ykind yfr yto yt ypi ypt yco yok yA yn yc yA1 yn1 yc1 yA2 yn2 yc2 v6) := Lib.hid ⟨ho7.keep XB5.out.blk (by have := Gp8.out; omega), XB5.out.bel.trans (ho7.below (by have := Gp8.out; omega)), XB5.out.low⟩
              have RQ6 := Lib.hid (RQ5.out.only A8_5.out ho7)
              have RR6 := Lib.hid (RR5.out.only A8_5.out ho7)
              have A7_6 := Lib.hid (ho7.keep A7_5.out (by have := NE.out; omega))
              have A8_6 : Hid (Blk v6 p8 31 #[.int .i64 my.kind, .int .i64 my.fr, .int .i64 my.to, .int .u64 my.t, .int .u64 my.pi, .int .u64 my.pt, .slice rA rn rc, .int .u64 my.co, .bool my.ok, .slice rA1 rn1 rc1, .slice rA2 rn2 rc2]) := Lib.hid hb7
              clear hb7 ho7
              refine hK.out _ _ XB6.out.cells (fun hHeld => ?_)
              clear hK K
              try simp only [Act.put, List.setIfInBounds_toArray, List.set_cons_zero, List.set_cons_succ]
              refine wpAnyH_done (by kernel_rfl) ?_ _
              refine NoPanic.normal ?_
              go_wp2_with fail
              go_meet
              case rel => exact ⟨p7, p8, qA, qn, qc, qA1, qn1, qc1, qA2, qn2, qc2, rA, rn, rc, rA1, rn1, rc1, rA2, rn2, rc2, rfl, rfl, by have := NE.out; omega, by have := Gp7.out; omega, by have := Gp8.out; omega, A7_6.out, A8_6.out, RQ6.out, RR6.out, XB6.out.bel⟩
            · skip
              go_simp
              have hbb : Below v2.heap.size v2 (v2.alloc (.cells #[.int .i64 0, .int .i64 0, .int .i64 0, .int .u64 0, .int .u64 0, .int .u64 0, .slice none 0 0, .int .u64 0, .bool false, .slice none 0 0, .slice none 0 0] 31)) := (Below.refl _ _).alloc (Nat.le_refl _) _
              have XB3 := Lib.hid (XB2.out.on hbb)
              have A7_3 : Hid (Blk (v2.alloc (.cells #[.int .i64 0, .int .i64 0, .int .i64 0, .int .u64 0, .int .u64 0, .int .u64 0, .slice none 0 0, .int .u64 0, .bool false, .slice none 0 0, .slice none 0 0] 31)) v2.heap.size 31 #[.int .i64 0, .int .i64 0, .int .i64 0, .int .u64 0, .int .u64 0, .int .u64 0, .slice none 0 0, .int .u64 0, .bool false, .slice none 0 0, .slice none 0 0]) := Lib.hid (Blk.new _ _ _)
              have Gp7 : Hid (wr.heap.size < v2.heap.size) := Lib.hid XB2.out.blk.lt
              have NE : Hid (p8 < v2.heap.size) := Lib.hid A8_2.out.lt
              have RQ3 := Lib.hid (RQ2.out.below hbb)
              have A8_3 := Lib.hid (A8_2.out.below hbb A8_2.out.lt)
              refine hK.out _ _ XB3.out.cells (fun hHeld => ?_)
              clear hK K hbb
              generalize (v2.alloc (.cells #[.int .i64 0, .int .i64 0, .int .i64 0, .int .u64 0, .int .u64 0, .int .u64 0, .slice none 0 0, .int .u64 0, .bool false, .slice none 0 0, .slice none 0 0] 31)) = v3 at *
              generalize v2.heap.size = p7 at *
              try simp only [Act.put, List.setIfInBounds_toArray, List.set_cons_zero, List.set_cons_succ]
              refine wpAnyH_ready (rs := [3]) (by kernel_rfl) (by simp) ?_
              refine AllReadyH.cons rfl (fun K hK => ?_) AllReadyH.nil
              go_simp
              refine (FW.out _ XB3.out.bel).mono ?_
              rintro e v4 ⟨rA, rn, rc, rA1, rn1, rc1, rA2, rn2, rc2, rfl, pe, pi_, po, hb⟩
              have XB4 := Lib.hid (XB3.out.on hb)
              have RQ4 := Lib.hid (RQ3.out.below hb)
              have A7_4 := Lib.hid (A7_3.out.below hb A7_3.out.lt)
              have A8_4 := Lib.hid (A8_3.out.below hb A8_3.out.lt)
              have RR4 : Hid (Rw v4 my rA rn rc rA1 rn1 rc1 rA2 rn2 rc2) := Lib.hid ⟨pe.down (Nat.zero_le _), World.ownsRow.down pi_ (Nat.zero_le _), po.down (Nat.zero_le _)⟩
              clear pe pi_ po hb
              refine hK.out _ _ XB4.out.cells (fun hHeld => ?_)
              clear hK K
              try simp only [Act.put, List.setIfInBounds_toArray, List.set_cons_zero, List.set_cons_succ]
              refine wpAnyH_ready (rs := [6]) (by kernel_rfl) (by simp) ?_
              refine AllReadyH.cons rfl (fun K hK => ?_) AllReadyH.nil
              refine wp_store_nine rfl 31 _ _ rfl p7 #[.int .i64 0, .int .i64 0, .int .i64 0, .int .u64 0, .int .u64 0, .int .u64 0, .slice none 0 0, .int .u64 0, .bool false, .slice none 0 0, .slice none 0 0] 31 [.int .i64 my.kind, .int .i64 my.fr, .int .i64 my.to, .int .u64 my.t, .int .u64 my.pi, .int .u64 my.pt, .slice qA qn qc, .int .u64 my.co, .bool my.ok, .slice qA1 qn1 qc1, .slice qA2 qn2 qc2] rfl rfl A7_4.out rfl Tryd.i31 (by simp [Value.oneCell']) ?_
              intro v5 hb7 ho7
              have XB5 : Hid (Bx wr wr.heap.size ykind yfr yto yt ypi ypt yco yok yA yn yc yA1 yn1 yc1 yA2 yn2 yc2 v5) := Lib.hid ⟨ho7.keep XB4.out.blk (by have := Gp7.out; omega), XB4.out.bel.trans (ho7.below (by have := Gp7.out; omega)), XB4.out.low⟩
              have RQ5 := Lib.hid (RQ4.out.only A7_4.out ho7)
              have RR5 := Lib.hid (RR4.out.only A7_4.out ho7)
              have A8_5 := Lib.hid (ho7.keep A8_4.out (by have := NE.out; omega))
              have A7_5 : Hid (Blk v5 p7 31 #[.int .i64 my.kind, .int .i64 my.fr, .int .i64 my.to, .int .u64 my.t, .int .u64 my.pi, .int .u64 my.pt, .slice qA qn qc, .int .u64 my.co, .bool my.ok, .slice qA1 qn1 qc1, .slice qA2 qn2 qc2]) := Lib.hid hb7
              clear hb7 ho7
              refine hK.out _ _ XB5.out.cells (fun hHeld => ?_)
              clear hK K
              try simp only [Act.put, List.setIfInBounds_toArray, List.set_cons_zero, List.set_cons_succ]
              refine wpAnyH_ready (rs := [7]) (by kernel_rfl) (by simp) ?_
              refine AllReadyH.cons rfl (fun K hK => ?_) AllReadyH.nil
              refine wp_store_nine rfl 31 _ _ rfl p8 #[.int .i64 0, .int .i64 0, .int .i64 0, .int .u64 0, .int .u64 0, .int .u64 0, .slice none 0 0, .int .u64 0, .bool false, .slice none 0 0, .slice none 0 0] 31 [.int .i64 my.kind, .int .i64 my.fr, .int .i64 my.to, .int .u64 my.t, .int .u64 my.pi, .int .u64 my.pt, .slice rA rn rc, .int .u64 my.co, .bool my.ok, .slice rA1 rn1 rc1, .slice rA2 rn2 rc2] rfl rfl A8_5.out rfl Tryd.i31 (by simp [Value.oneCell']) ?_
              intro v6 hb7 ho7
              have XB6 : Hid (Bx wr wr.heap.size ykind yfr yto yt ypi ypt yco yok yA yn yc yA1 yn1 yc1 yA2 yn2 yc2 v6) := Lib.hid ⟨ho7.keep XB5.out.blk (by have := Gp8.out; omega), XB5.out.bel.trans (ho7.below (by have := Gp8.out; omega)), XB5.out.low⟩
              have RQ6 := Lib.hid (RQ5.out.only A8_5.out ho7)
              have RR6 := Lib.hid (RR5.out.only A8_5.out ho7)
              have A7_6 := Lib.hid (ho7.keep A7_5.out (by have := NE.out; omega))
              have A8_6 : Hid (Blk v6 p8 31 #[.int .i64 my.kind, .int .i64 my.fr, .int .i64 my.to, .int .u64 my.t, .int .u64 my.pi, .int .u64 my.pt, .slice rA rn rc, .int .u64 my.co, .bool my.ok, .slice rA1 rn1 rc1, .slice rA2 rn2 rc2]) := Lib.hid hb7
              clear hb7 ho7
              refine hK.out _ _ XB6.out.cells (fun hHeld => ?_)
              clear hK K
              try simp only [Act.put, List.setIfInBounds_toArray, List.set_cons_zero, List.set_cons_succ]
              refine wpAnyH_done (by kernel_rfl) ?_ _
              refine NoPanic.normal ?_
              go_wp2_with fail
              go_meet
              case rel => exact ⟨p7, p8, qA, qn, qc, qA1, qn1, qc1, qA2, qn2, qc2, rA, rn, rc, rA1, rn1, rc1, rA2, rn2, rc2, rfl, rfl, by have := NE.out; omega, by have := Gp7.out; omega, by have := Gp8.out; omega, A7_6.out, A8_6.out, RQ6.out, RR6.out, XB6.out.bel⟩
          · skip
            go_simp
            have hbb : Below v1.heap.size v1 (v1.alloc (.cells #[.int .i64 0, .int .i64 0, .int .i64 0, .int .u64 0, .int .u64 0, .int .u64 0, .slice none 0 0, .int .u64 0, .bool false, .slice none 0 0, .slice none 0 0] 31)) := (Below.refl _ _).alloc (Nat.le_refl _) _
            have XB2 := Lib.hid (XB1.out.on hbb)
            have A7_2 : Hid (Blk (v1.alloc (.cells #[.int .i64 0, .int .i64 0, .int .i64 0, .int .u64 0, .int .u64 0, .int .u64 0, .slice none 0 0, .int .u64 0, .bool false, .slice none 0 0, .slice none 0 0] 31)) v1.heap.size 31 #[.int .i64 0, .int .i64 0, .int .i64 0, .int .u64 0, .int .u64 0, .int .u64 0, .slice none 0 0, .int .u64 0, .bool false, .slice none 0 0, .slice none 0 0]) := Lib.hid (Blk.new _ _ _)
            have Gp7 : Hid (wr.heap.size < v1.heap.size) := Lib.hid XB1.out.blk.lt
            have NE : Hid (p8 < v1.heap.size) := Lib.hid A8_1.out.lt
            have A8_2 := Lib.hid (A8_1.out.below hbb A8_1.out.lt)
            refine hK.out _ _ XB2.out.cells (fun hHeld => ?_)
            clear hK K hbb
            generalize (v1.alloc (.cells #[.int .i64 0, .int .i64 0, .int .i64 0, .int .u64 0, .int .u64 0, .int .u64 0, .slice none 0 0, .int .u64 0, .bool false, .slice none 0 0, .slice none 0 0] 31)) = v2 at *
            generalize v1.heap.size = p7 at *
            try simp only [Act.put, List.setIfInBounds_toArray, List.set_cons_zero, List.set_cons_succ]
            refine wpAnyH_ready (rs := [1]) (by kernel_rfl) (by simp) ?_
            refine AllReadyH.cons rfl (fun K hK => ?_) AllReadyH.nil
            go_simp
            refine (FW.out _ XB2.out.bel).mono ?_
            rintro e v3 ⟨qA, qn, qc, qA1, qn1, qc1, qA2, qn2, qc2, rfl, pe, pi_, po, hb⟩
            have XB3 := Lib.hid (XB2.out.on hb)
            have A7_3 := Lib.hid (A7_2.out.below hb A7_2.out.lt)
            have A8_3 := Lib.hid (A8_2.out.below hb A8_2.out.lt)
            have RQ3 : Hid (Rw v3 my qA qn qc qA1 qn1 qc1 qA2 qn2 qc2) := Lib.hid ⟨pe.down (Nat.zero_le _), World.ownsRow.down pi_ (Nat.zero_le _), po.down (Nat.zero_le _)⟩
            clear pe pi_ po hb
            refine hK.out _ _ XB3.out.cells (fun hHeld => ?_)
            clear hK K
            try simp only [Act.put, List.setIfInBounds_toArray, List.set_cons_zero, List.set_cons_succ]
            refine wpAnyH_ready (rs := [3]) (by kernel_rfl) (by simp) ?_
            refine AllReadyH.cons rfl (fun K hK => ?_) AllReadyH.nil
            go_simp
            refine (FW.out _ XB3.out.bel).mono ?_
            rintro e v4 ⟨rA, rn, rc, rA1, rn1, rc1, rA2, rn2, rc2, rfl, pe, pi_, po, hb⟩
            have XB4 := Lib.hid (XB3.out.on hb)
            have RQ4 := Lib.hid (RQ3.out.below hb)
            have A7_4 := Lib.hid (A7_3.out.below hb A7_3.out.lt)
            have A8_4 := Lib.hid (A8_3.out.below hb A8_3.out.lt)
            have RR4 : Hid (Rw v4 my rA rn rc rA1 rn1 rc1 rA2 rn2 rc2) := Lib.hid ⟨pe.down (Nat.zero_le _), World.ownsRow.down pi_ (Nat.zero_le _), po.down (Nat.zero_le _)⟩
            clear pe pi_ po hb
            refine hK.out _ _ XB4.out.cells (fun hHeld => ?_)
            clear hK K
            try simp only [Act.put, List.setIfInBounds_toArray, List.set_cons_zero, List.set_cons_succ]
            refine wpAnyH_ready (rs := [6]) (by kernel_rfl) (by simp) ?_
            refine AllReadyH.cons rfl (fun K hK => ?_) AllReadyH.nil
            refine wp_store_nine rfl 31 _ _ rfl p7 #[.int .i64 0, .int .i64 0, .int .i64 0, .int .u64 0, .int .u64 0, .int .u64 0, .slice none 0 0, .int .u64 0, .bool false, .slice none 0 0, .slice none 0 0] 31 [.int .i64 my.kind, .int .i64 my.fr, .int .i64 my.to, .int .u64 my.t, .int .u64 my.pi, .int .u64 my.pt, .slice qA qn qc, .int .u64 my.co, .bool my.ok, .slice qA1 qn1 qc1, .slice qA2 qn2 qc2] rfl rfl A7_4.out rfl Tryd.i31 (by simp [Value.oneCell']) ?_
            intro v5 hb7 ho7
            have XB5 : Hid (Bx wr wr.heap.size ykind yfr yto yt ypi ypt yco yok yA yn yc yA1 yn1 yc1 yA2 yn2 yc2 v5) := Lib.hid ⟨ho7.keep XB4.out.blk (by have := Gp7.out; omega), XB4.out.bel.trans (ho7.below (by have := Gp7.out; omega)), XB4.out.low⟩
            have RQ5 := Lib.hid (RQ4.out.only A7_4.out ho7)
            have RR5 := Lib.hid (RR4.out.only A7_4.out ho7)
            have A8_5 := Lib.hid (ho7.keep A8_4.out (by have := NE.out; omega))
            have A7_5 : Hid (Blk v5 p7 31 #[.int .i64 my.kind, .int .i64 my.fr, .int .i64 my.to, .int .u64 my.t, .int .u64 my.pi, .int .u64 my.pt, .slice qA qn qc, .int .u64 my.co, .bool my.ok, .slice qA1 qn1 qc1, .slice qA2 qn2 qc2]) := Lib.hid hb7
            clear hb7 ho7
            refine hK.out _ _ XB5.out.cells (fun hHeld => ?_)
            clear hK K
            try simp only [Act.put, List.setIfInBounds_toArray, List.set_cons_zero, List.set_cons_succ]
            refine wpAnyH_ready (rs := [7]) (by kernel_rfl) (by simp) ?_
            refine AllReadyH.cons rfl (fun K hK => ?_) AllReadyH.nil
            refine wp_store_nine rfl 31 _ _ rfl p8 #[.int .i64 0, .int .i64 0, .int .i64 0, .int .u64 0, .int .u64 0, .int .u64 0, .slice none 0 0, .int .u64 0, .bool false, .slice none 0 0, .slice none 0 0] 31 [.int .i64 my.kind, .int .i64 my.fr, .int .i64 my.to, .int .u64 my.t, .int .u64 my.pi, .int .u64 my.pt, .slice rA rn rc, .int .u64 my.co, .bool my.ok, .slice rA1 rn1 rc1, .slice rA2 rn2 rc2] rfl rfl A8_5.out rfl Tryd.i31 (by simp [Value.oneCell']) ?_
            intro v6 hb7 ho7
            have XB6 : Hid (Bx wr wr.heap.size ykind yfr yto yt ypi ypt yco yok yA yn yc yA1 yn1 yc1 yA2 yn2 yc2 v6) := Lib.hid ⟨ho7.keep XB5.out.blk (by have := Gp8.out; omega), XB5.out.bel.trans (ho7.below (by have := Gp8.out; omega)), XB5.out.low⟩
            have RQ6 := Lib.hid (RQ5.out.only A8_5.out ho7)
            have RR6 := Lib.hid (RR5.out.only A8_5.out ho7)
            have A7_6 := Lib.hid (ho7.keep A7_5.out (by have := NE.out; omega))
            have A8_6 : Hid (Blk v6 p8 31 #[.int .i64 my.kind, .int .i64 my.fr, .int .i64 my.to, .int .u64 my.t, .int .u64 my.pi, .int .u64 my.pt, .slice rA rn rc, .int .u64 my.co, .bool my.ok, .slice rA1 rn1 rc1, .slice rA2 rn2 rc2]) := Lib.hid hb7
            clear hb7 ho7
            refine hK.out _ _ XB6.out.cells (fun hHeld => ?_)
            clear hK K
            try simp only [Act.put, List.setIfInBounds_toArray, List.set_cons_zero, List.set_cons_succ]
            refine wpAnyH_done (by kernel_rfl) ?_ _
            refine NoPanic.normal ?_
            go_wp2_with fail
            go_meet
            case rel => exact ⟨p7, p8, qA, qn, qc, qA1, qn1, qc1, qA2, qn2, qc2, rA, rn, rc, rA1, rn1, rc1, rA2, rn2, rc2, rfl, rfl, by have := NE.out; omega, by have := Gp7.out; omega, by have := Gp8.out; omega, A7_6.out, A8_6.out, RQ6.out, RR6.out, XB6.out.bel⟩
      case rest =>
        obtain ⟨p7, p8, qA, qn, qc, qA1, qn1, qc1, qA2, qn2, qc2, rA, rn, rc, rA1, rn1, rc1, rA2, rn2, rc2, rfl, rfl, hpp, hp7, hp8, k7, k8, kq, kr, kb⟩ := hcut
        have A7 := Lib.hid k7
        have A8 := Lib.hid k8
        have RQ := Lib.hid kq
        have RR := Lib.hid kr
        have H0 : Hid (Below w.heap.size w wc) := Lib.hid (D2.bel.trans (kb.mono D2.bel.size))
        have H1 : Hid (Below w1.heap.size w1 wc) := Lib.hid (IB.out.trans (kb.mono IB.out.size))
        clear hpp hp7 hp8 k7 k8 kq kr kb FW XB0 I0 I1 d0 d1 d2 d3 d4 d5 d6 d7 d8 d9 d10 d11 d12 d13 d14 d15 d16 d17 d18 d19 d20 d21
        cases hR : rightM my with
        | true =>
          have HCK : Hid (chkM my = 0) := Lib.hid (by unfold chkM; rw [hR]; rfl)
          have HR := Lib.hid hR
          clear hR
          go_upto_region 8 with (first
            | ((with_reducible refine at_load (t := 31) ?_); refine wpList_load_mid rfl 31 _ rfl p7 0 rfl [.int .i64 my.kind, .int .i64 my.fr, .int .i64 my.to, .int .u64 my.t, .int .u64 my.pi, .int .u64 my.pt, .slice qA qn qc, .int .u64 my.co, .bool my.ok, .slice qA1 qn1 qc1, .slice qA2 qn2 qc2] _ (Blk.rng A7.out) Tryd.underlying31 rfl Tryd.i31 ?_)
            | (go_at_call 10; refine (encode_any my qA qn qc qA1 qn1 qc1 qA2 qn2 qc2 _ wc (RQ.out.mr MY.out) (Nat.le_refl _) (GLH.out.on H0.out)).mono ?_; unfold Enc; rw [HCK.out, if_pos HR.out]; rintro e w4 ⟨y6, nn, cc, rfl, oo, hb⟩; have O4 := Lib.hid oo; have E4 := Lib.hid hb; clear oo hb))
          have B4 := Lib.hid (A7.out.below E4.out A7.out.lt)
          have R4 := Lib.hid (RQ.out.below E4.out)
          go_upto_region 9 with (first
            | ((with_reducible refine at_load (t := 31) ?_); refine wpList_load_mid rfl 31 _ rfl p7 0 rfl [.int .i64 my.kind, .int .i64 my.fr, .int .i64 my.to, .int .u64 my.t, .int .u64 my.pi, .int .u64 my.pt, .slice qA qn qc, .int .u64 my.co, .bool my.ok, .slice qA1 qn1 qc1, .slice qA2 qn2 qc2] _ (Blk.rng B4.out) Tryd.underlying31 rfl Tryd.i31 ?_)
            | (go_at_call 11; refine (check_any my qA qn qc qA1 qn1 qc1 qA2 qn2 qc2 _ w4 (R4.out.mr MY.out) (Nat.le_refl _)).mono ?_; rw [HCK.out]; rintro e w5 ⟨rfl, hb⟩; have O5 := Lib.hid (O4.out.below hb); have E5 := Lib.hid (E4.out.trans (hb.mono E4.out.size)); clear hb))
          clear B4 R4 O4 E4
          have B5 := Lib.hid (A8.out.below E5.out A8.out.lt)
          have R5 := Lib.hid (RR.out.below E5.out)
          go_upto_region 10 with (first
            | ((with_reducible refine at_load (t := 31) ?_); refine wpList_load_mid rfl 31 _ rfl p8 0 rfl [.int .i64 my.kind, .int .i64 my.fr, .int .i64 my.to, .int .u64 my.t, .int .u64 my.pi, .int .u64 my.pt, .slice rA rn rc, .int .u64 my.co, .bool my.ok, .slice rA1 rn1 rc1, .slice rA2 rn2 rc2] _ (Blk.rng B5.out) Tryd.underlying31 rfl Tryd.i31 ?_)
            | (go_at_call 12; refine (refright_any my rA rn rc rA1 rn1 rc1 rA2 rn2 rc2 _ w5 (R5.out.mr MY.out) (Nat.le_refl _)).mono ?_; rw [HR.out]; rintro e w6 ⟨rfl, hb⟩; have O6 := Lib.hid (O5.out.below hb); have E6 := Lib.hid (E5.out.trans (hb.mono E5.out.size)); clear hb))
          clear B5 R5 O5 E5
          have B6 := Lib.hid (A8.out.below E6.out A8.out.lt)
          have R6 := Lib.hid (RR.out.below E6.out)
          have IN6 := Lib.hid (R6.out.mr MY.out).in_
          have PL := Lib.hid (plain_len HR.out IN6.out)
          have LE := Lib.hid (encB_len my)
          have LY : Hid (nn = (encB my).length) := Lib.hid O6.out.len.symm
          have BY7 := Lib.hid (fun W (hW : Below w6.heap.size w6 W) => bytes7_any my rA rn rc rA1 rn1 rc1 rA2 rn2 rc2 _ W ((R6.out.below hW).mr MY.out) (Nat.le_refl _) HR.out)
          generalize encB my = EN at *
          go_upto_region 14 with (first
            | (refine wpList_load_if (by kernel_rfl) 31 _ rfl p8 0 rfl [.int .i64 my.kind, .int .i64 my.fr, .int .i64 my.to, .int .u64 my.t, .int .u64 my.pi, .int .u64 my.pt, .slice rA rn rc, .int .u64 my.co, .bool my.ok, .slice rA1 rn1 rc1, .slice rA2 rn2 rc2] _ (Blk.rng B6.out) Tryd.underlying31 rfl Tryd.i31 ?_)
            | (go_at_call 14; refine (BY7.out w6 (Below.refl _ _)).mono ?_; rintro e w7 ⟨z6, zc, rfl, oo, hb⟩; have Z7 := Lib.hid oo; have O7 := Lib.hid (O6.out.below hb); have E7 := Lib.hid (E6.out.trans (hb.mono E6.out.size)); clear oo hb)
            | (go_at_call 13; refine (same_any y6 z6 nn cc EN.length zc EN EN w7 _ _ O7.out.by Z7.out.by (by have := PL.out; have := LE.out; have := LY.out; omega) (by have := PL.out; have := LE.out; omega)).mono ?_; rw [show (EN == EN) = true from beq_self_eq_true EN]; rintro e w8 ⟨rfl, qq, rfl⟩))
          have O8 := Lib.hid (O7.out.below (below_drewN (Below.refl w7.heap.size w7) qq))
          have E8 := Lib.hid (below_drewN E7.out qq)
          clear Z7 O7 E7 O6 E6 B6 R6 IN6 PL LE LY BY7
          generalize w7.drewN qq = w9 at *
          have C8 := O8.out.cap
          have M8 := O8.out.capmax
          go_wp2_with fail
          go_loopw [60] (fun iv wx => ∃ k : Nat, k ≤ nn ∧ iv = .int .i64 (k : Int) ∧ ∃ zs, Hid (Own wx wc.heap.size y6 nn cc zs) ∧ Hid (Below wc.heap.size wc wx)) (fun iv _ => nn - (intOf iv).toNat)
          case atStart => exact ⟨0, Nat.zero_le _, rfl, _, O8, E8⟩
          case round =>
            obtain ⟨k, hk, rfl, zs, OZ, EZ⟩ := hrel
            by_cases hlt : k < nn
            · obtain ⟨g, hg⟩ : ∃ g, y6 = some ⟨g, 0, none⟩ := by
                rcases OZ.out.form with ⟨_, h, _⟩ | ⟨g, h, _⟩
                · omega
                · exact ⟨g, h⟩
              subst hg
              have gb : wc.heap.size ≤ g := by
                rcases OZ.out.form with ⟨h, _⟩ | ⟨g', h, h1, _⟩
                · cases h
                · injection h with h
                  injection h with h
                  omega
              have c0 := OZ.out.at_ rfl k hlt
              have f0 : World.frozen? _ ⟨g, k, none⟩ = false := OZ.out.1.frozenAt k
              have OY := Lib.hid (fun v h0 h1 => OZ.out.set_ k v hlt h0 h1)
              have EY := Lib.hid (fun v => EZ.out.setCell (p := ⟨g, k, none⟩) gb v)
              generalize zs.getD k 0 = z at *
              have k0 : (0 : Int) ≤ (k : Int) := by omega
              have kn : (k : Int) < (nn : Int) := by omega
              have km : (k : Int) + 1 ≤ 9223372036854775807 := by omega
              clear O8 E8
              go_wp2_with fail
              go_roundw
              case rel => exact ⟨k + 1, by omega, by go_num, _, Lib.hid (OY.out _ (by omega) (by omega)), Lib.hid (EY.out _)⟩
              case measure => simp [intOf]; omega
            · obtain rfl : k = nn := by omega
              have B9 := Lib.hid (A7.out.below EZ.out A7.out.lt)
              have C9 := Lib.hid (A8.out.below EZ.out A8.out.lt)
              have R9 := Lib.hid (RQ.out.below EZ.out)
              have S9 := Lib.hid (RR.out.below EZ.out)
              clear O8 E8
              go_wp2_with (first
                | ((with_reducible refine at_load (t := 31) ?_); refine wpList_load_mid rfl 31 _ rfl p7 0 rfl [.int .i64 my.kind, .int .i64 my.fr, .int .i64 my.to, .int .u64 my.t, .int .u64 my.pi, .int .u64 my.pt, .slice qA qn qc, .int .u64 my.co, .bool my.ok, .slice qA1 qn1 qc1, .slice qA2 qn2 qc2] _ (Blk.rng B9.out) Tryd.underlying31 rfl Tryd.i31 ?_)
                | ((with_reducible refine at_load (t := 31) ?_); refine wpList_load_mid rfl 31 _ rfl p8 0 rfl [.int .i64 my.kind, .int .i64 my.fr, .int .i64 my.to, .int .u64 my.t, .int .u64 my.pi, .int .u64 my.pt, .slice rA rn rc, .int .u64 my.co, .bool my.ok, .slice rA1 rn1 rc1, .slice rA2 rn2 rc2] _ (Blk.rng C9.out) Tryd.underlying31 rfl Tryd.i31 ?_)
                | (go_at_call 15; refine (refmsame_any my my qA qn qc qA1 qn1 qc1 qA2 qn2 qc2 rA rn rc rA1 rn1 rc1 rA2 rn2 rc2 _ _ (R9.out.mr MY.out) (S9.out.mr MY.out) (Nat.le_refl _)).mono ?_; rw [show decide (my = my) = true from decide_eq_true rfl]; rintro e w8 ⟨rfl, hb⟩; have E9 := Lib.hid (H1.out.trans ((EZ.out.trans (hb.mono EZ.out.size)).mono H1.out.size)); clear hb))
              go_roundw
              case rel => exact ⟨.inr (.inr rfl), E9⟩
              case measure => simp [intOf]
        | false =>
          have HCK : Hid (chkM my = 170) := Lib.hid (by unfold chkM; rw [hR]; rfl)
          have HR := Lib.hid hR
          clear hR
          go_upto_region 8 with (first
            | ((with_reducible refine at_load (t := 31) ?_); refine wpList_load_mid rfl 31 _ rfl p7 0 rfl [.int .i64 my.kind, .int .i64 my.fr, .int .i64 my.to, .int .u64 my.t, .int .u64 my.pi, .int .u64 my.pt, .slice qA qn qc, .int .u64 my.co, .bool my.ok, .slice qA1 qn1 qc1, .slice qA2 qn2 qc2] _ (Blk.rng A7.out) Tryd.underlying31 rfl Tryd.i31 ?_)
            | (go_at_call 10; refine (encode_any my qA qn qc qA1 qn1 qc1 qA2 qn2 qc2 _ wc (RQ.out.mr MY.out) (Nat.le_refl _) (GLH.out.on H0.out)).mono ?_; unfold Enc; rw [HCK.out, HR.out]; rintro e w4 ⟨y6, nn, cc, rfl, oo, hb⟩; have O4 : Hid (Own w4 wc.heap.size y6 nn cc []) := Lib.hid oo; have E4 := Lib.hid hb; clear oo hb))
          have B4 := Lib.hid (A7.out.below E4.out A7.out.lt)
          have R4 := Lib.hid (RQ.out.below E4.out)
          go_upto_region 9 with (first
            | ((with_reducible refine at_load (t := 31) ?_); refine wpList_load_mid rfl 31 _ rfl p7 0 rfl [.int .i64 my.kind, .int .i64 my.fr, .int .i64 my.to, .int .u64 my.t, .int .u64 my.pi, .int .u64 my.pt, .slice qA qn qc, .int .u64 my.co, .bool my.ok, .slice qA1 qn1 qc1, .slice qA2 qn2 qc2] _ (Blk.rng B4.out) Tryd.underlying31 rfl Tryd.i31 ?_)
            | (go_at_call 11; refine (check_any my qA qn qc qA1 qn1 qc1 qA2 qn2 qc2 _ w4 (R4.out.mr MY.out) (Nat.le_refl _)).mono ?_; rw [HCK.out]; rintro e w5 ⟨rfl, hb⟩; have O5 := Lib.hid (O4.out.below hb); have E5 := Lib.hid (E4.out.trans (hb.mono E4.out.size)); clear hb))
          clear B4 R4 O4 E4
          have B5 := Lib.hid (A8.out.below E5.out A8.out.lt)
          have R5 := Lib.hid (RR.out.below E5.out)
          go_upto_region 12 with (first
            | ((with_reducible refine at_load (t := 31) ?_); refine wpList_load_mid rfl 31 _ rfl p8 0 rfl [.int .i64 my.kind, .int .i64 my.fr, .int .i64 my.to, .int .u64 my.t, .int .u64 my.pi, .int .u64 my.pt, .slice rA rn rc, .int .u64 my.co, .bool my.ok, .slice rA1 rn1 rc1, .slice rA2 rn2 rc2] _ (Blk.rng B5.out) Tryd.underlying31 rfl Tryd.i31 ?_)
            | (go_at_call 12; refine (refright_any my rA rn rc rA1 rn1 rc1 rA2 rn2 rc2 _ w5 (R5.out.mr MY.out) (Nat.le_refl _)).mono ?_; rw [HR.out]; rintro e w6 ⟨rfl, hb⟩; have O6 := Lib.hid (O5.out.below hb); have E6 := Lib.hid (E5.out.trans (hb.mono E5.out.size)); clear hb))
          clear B5 R5 O5 E5
          have yn0 : nn = 0 := by have := O6.out.len; simpa using this.symm
          subst yn0
          go_upto_region 14 with (fail)
          have O8 := O6
          have E8 := E6
          clear O6 E6
          generalize w6 = w9 at *
          have C8 := O8.out.cap
          have M8 := O8.out.capmax
          go_wp2_with fail
          go_loopw [60] (fun iv wx => ∃ k : Nat, k ≤ 0 ∧ iv = .int .i64 (k : Int) ∧ ∃ zs, Hid (Own wx wc.heap.size y6 0 cc zs) ∧ Hid (Below wc.heap.size wc wx)) (fun iv _ => 0 - (intOf iv).toNat)
          case atStart => exact ⟨0, Nat.zero_le _, rfl, _, O8, E8⟩
          case round =>
            obtain ⟨k, hk, rfl, zs, OZ, EZ⟩ := hrel
            by_cases hlt : k < 0
            · omega
            · obtain rfl : k = 0 := by omega
              have B9 := Lib.hid (A7.out.below EZ.out A7.out.lt)
              have C9 := Lib.hid (A8.out.below EZ.out A8.out.lt)
              have R9 := Lib.hid (RQ.out.below EZ.out)
              have S9 := Lib.hid (RR.out.below EZ.out)
              clear O8 E8
              go_wp2_with (first
                | ((with_reducible refine at_load (t := 31) ?_); refine wpList_load_mid rfl 31 _ rfl p7 0 rfl [.int .i64 my.kind, .int .i64 my.fr, .int .i64 my.to, .int .u64 my.t, .int .u64 my.pi, .int .u64 my.pt, .slice qA qn qc, .int .u64 my.co, .bool my.ok, .slice qA1 qn1 qc1, .slice qA2 qn2 qc2] _ (Blk.rng B9.out) Tryd.underlying31 rfl Tryd.i31 ?_)
                | ((with_reducible refine at_load (t := 31) ?_); refine wpList_load_mid rfl 31 _ rfl p8 0 rfl [.int .i64 my.kind, .int .i64 my.fr, .int .i64 my.to, .int .u64 my.t, .int .u64 my.pi, .int .u64 my.pt, .slice rA rn rc, .int .u64 my.co, .bool my.ok, .slice rA1 rn1 rc1, .slice rA2 rn2 rc2] _ (Blk.rng C9.out) Tryd.underlying31 rfl Tryd.i31 ?_)
                | (go_at_call 15; refine (refmsame_any my my qA qn qc qA1 qn1 qc1 qA2 qn2 qc2 rA rn rc rA1 rn1 rc1 rA2 rn2 rc2 _ _ (R9.out.mr MY.out) (S9.out.mr MY.out) (Nat.le_refl _)).mono ?_; rw [show decide (my = my) = true from decide_eq_true rfl]; rintro e w8 ⟨rfl, hb⟩; have E9 := Lib.hid (H1.out.trans ((EZ.out.trans (hb.mono EZ.out.size)).mono H1.out.size)); clear hb))
              go_roundw
              case rel => exact ⟨.inr (.inr rfl), E9⟩
              case measure => simp [intOf]
    · go_upto_region 22 with (fail)
      obtain ⟨EBv, hEB⟩ : ∃ b, decide (mx = my) = b := ⟨_, rfl⟩
      have EB := Lib.hid hEB
      clear hEB
      have D3 := D2.drew
      refine wp_region_noPanic ?_
      refine wp_region_held_drew (S := fun w' => w'.cell? ⟨w.heap.size, 0, none⟩ = some (.int .i64 xkind) ∧ w'.cell? ⟨w.heap.size, 1, none⟩ = some (.int .i64 xfr) ∧ w'.cell? ⟨w.heap.size, 2, none⟩ = some (.int .i64 xto) ∧ w'.cell? ⟨w.heap.size, 3, none⟩ = some (.int .u64 xt) ∧ w'.cell? ⟨w.heap.size, 4, none⟩ = some (.int .u64 xpi) ∧ w'.cell? ⟨w.heap.size, 5, none⟩ = some (.int .u64 xpt) ∧ w'.cell? ⟨w.heap.size, 6, none⟩ = some (.slice xA xn xc) ∧ w'.cell? ⟨w.heap.size, 7, none⟩ = some (.int .u64 xco) ∧ w'.cell? ⟨w.heap.size, 8, none⟩ = some (.bool xok) ∧ w'.cell? ⟨w.heap.size, 9, none⟩ = some (.slice xA1 xn1 xc1) ∧ w'.cell? ⟨w.heap.size, 10, none⟩ = some (.slice xA2 xn2 xc2) ∧ w'.cell? ⟨w.heap.size + 1, 0, none⟩ = some (.int .i64 ykind) ∧ w'.cell? ⟨w.heap.size + 1, 1, none⟩ = some (.int .i64 yfr) ∧ w'.cell? ⟨w.heap.size + 1, 2, none⟩ = some (.int .i64 yto) ∧ w'.cell? ⟨w.heap.size + 1, 3, none⟩ = some (.int .u64 yt) ∧ w'.cell? ⟨w.heap.size + 1, 4, none⟩ = some (.int .u64 ypi) ∧ w'.cell? ⟨w.heap.size + 1, 5, none⟩ = some (.int .u64 ypt) ∧ w'.cell? ⟨w.heap.size + 1, 6, none⟩ = some (.slice yA yn yc) ∧ w'.cell? ⟨w.heap.size + 1, 7, none⟩ = some (.int .u64 yco) ∧ w'.cell? ⟨w.heap.size + 1, 8, none⟩ = some (.bool yok) ∧ w'.cell? ⟨w.heap.size + 1, 9, none⟩ = some (.slice yA1 yn1 yc1) ∧ w'.cell? ⟨w.heap.size + 1, 10, none⟩ = some (.slice yA2 yn2 yc2)) (by kernel_rfl) D3.cells (fun hHeld => ?_)
      generalize wr.drew = w3 at *
      refine take_d (i := 0) (d := 75) (v := .agg #[.int .i64 xkind, .int .i64 xfr, .int .i64 xto, .int .u64 xt, .int .u64 xpi, .int .u64 xpt, .slice xA xn xc, .int .u64 xco, .bool xok, .slice xA1 xn1 xc1, .slice xA2 xn2 xc2]) rfl rfl (by kernel_rfl) (by kernel_rfl) (by kernel_rfl) (fun _ _ _ h => h) (Or.inl ⟨by kernel_rfl, ?v75h⟩) hHeld ?_
      case v75h => (intro w hSw; (try dsimp only at hSw); go_split_ands; go_simp)
      try simp only [Act.put, List.setIfInBounds_toArray, List.set_cons_zero, List.set_cons_succ]
      refine take_d (i := 2) (d := 77) (v := .agg #[.int .i64 ykind, .int .i64 yfr, .int .i64 yto, .int .u64 yt, .int .u64 ypi, .int .u64 ypt, .slice yA yn yc, .int .u64 yco, .bool yok, .slice yA1 yn1 yc1, .slice yA2 yn2 yc2]) rfl rfl (by kernel_rfl) (by kernel_rfl) (by kernel_rfl) (fun _ _ _ h => h) (Or.inl ⟨by kernel_rfl, ?v77h⟩) hHeld ?_
      case v77h => (intro w hSw; (try dsimp only at hSw); go_split_ands; go_simp)
      try simp only [Act.put, List.setIfInBounds_toArray, List.set_cons_zero, List.set_cons_succ]
      refine take_d (i := 5) (d := 80) (v := .agg #[.int .i64 xkind, .int .i64 xfr, .int .i64 xto, .int .u64 xt, .int .u64 xpi, .int .u64 xpt, .slice xA xn xc, .int .u64 xco, .bool xok, .slice xA1 xn1 xc1, .slice xA2 xn2 xc2]) rfl rfl (by kernel_rfl) (by kernel_rfl) (by kernel_rfl) (fun _ _ _ h => h) (Or.inl ⟨by kernel_rfl, ?v80h⟩) hHeld ?_
      case v80h => (intro w hSw; (try dsimp only at hSw); go_split_ands; go_simp)
      try simp only [Act.put, List.setIfInBounds_toArray, List.set_cons_zero, List.set_cons_succ]
      refine take_d (i := 7) (d := 82) (v := .agg #[.int .i64 ykind, .int .i64 yfr, .int .i64 yto, .int .u64 yt, .int .u64 ypi, .int .u64 ypt, .slice yA yn yc, .int .u64 yco, .bool yok, .slice yA1 yn1 yc1, .slice yA2 yn2 yc2]) rfl rfl (by kernel_rfl) (by kernel_rfl) (by kernel_rfl) (fun _ _ _ h => h) (Or.inl ⟨by kernel_rfl, ?v82h⟩) hHeld ?_
      case v82h => (intro w hSw; (try dsimp only at hSw); go_split_ands; go_simp)
      try simp only [Act.put, List.setIfInBounds_toArray, List.set_cons_zero, List.set_cons_succ]
      refine wpAnyH_ready (rs := [1]) (by kernel_rfl) (by simp) ?_
      refine AllReadyH.cons rfl (fun K hK => ?_) AllReadyH.nil
      go_simp
      refine (HX.out _ D3.bel).mono ?_
      rintro e w4 ⟨aA, an, ac, aA1, an1, ac1, aA2, an2, ac2, rfl, pe, pi_, po, hb⟩
      have D4 := D3.on hb
      have Ra4 : Hid (Rw w4 mx aA an ac aA1 an1 ac1 aA2 an2 ac2) := Lib.hid ⟨pe.down (Nat.zero_le _), World.ownsRow.down pi_ (Nat.zero_le _), po.down (Nat.zero_le _)⟩
      clear pe pi_ po hb
      refine hK.out _ _ (D4.cells) (fun hHeld => ?_)
      clear hK K
      try simp only [Act.put, List.setIfInBounds_toArray, List.set_cons_zero, List.set_cons_succ]
      refine wpAnyH_ready (rs := [3]) (by kernel_rfl) (by simp) ?_
      refine AllReadyH.cons rfl (fun K hK => ?_) AllReadyH.nil
      go_simp
      refine (HY.out _ D4.bel).mono ?_
      rintro e w5 ⟨bA, bn, bc, bA1, bn1, bc1, bA2, bn2, bc2, rfl, pe, pi_, po, hb⟩
      have D5 := D4.on hb
      have Ra5 := Lib.hid (Ra4.out.below hb)
      have Rb5 : Hid (Rw w5 my bA bn bc bA1 bn1 bc1 bA2 bn2 bc2) := Lib.hid ⟨pe.down (Nat.zero_le _), World.ownsRow.down pi_ (Nat.zero_le _), po.down (Nat.zero_le _)⟩
      clear pe pi_ po hb
      refine hK.out _ _ (D5.cells) (fun hHeld => ?_)
      clear hK K
      try simp only [Act.put, List.setIfInBounds_toArray, List.set_cons_zero, List.set_cons_succ]
      refine wpAnyH_ready (rs := [4]) (by kernel_rfl) (by simp) ?_
      refine AllReadyH.cons rfl (fun K hK => ?_) AllReadyH.nil
      go_simp
      refine (msame_any mx my aA an ac aA1 an1 ac1 aA2 an2 ac2 bA bn bc bA1 bn1 bc1 bA2 bn2 bc2 _ w5 (Ra5.out.mr MX.out) (Rb5.out.mr MY.out) (Nat.le_refl _)).mono ?_
      rw [EB.out]
      rintro e w6 ⟨rfl, hb⟩
      have D6 := D5.on hb
      clear hb
      refine hK.out _ _ (D6.cells) (fun hHeld => ?_)
      clear hK K
      try simp only [Act.put, List.setIfInBounds_toArray, List.set_cons_zero, List.set_cons_succ]
      refine wpAnyH_ready (rs := [6]) (by kernel_rfl) (by simp) ?_
      refine AllReadyH.cons rfl (fun K hK => ?_) AllReadyH.nil
      go_simp
      refine (HX.out _ D6.bel).mono ?_
      rintro e w7 ⟨cA, cn, cc, cA1, cn1, cc1, cA2, cn2, cc2, rfl, pe, pi_, po, hb⟩
      have D7 := D6.on hb
      have Rc7 : Hid (Rw w7 mx cA cn cc cA1 cn1 cc1 cA2 cn2 cc2) := Lib.hid ⟨pe.down (Nat.zero_le _), World.ownsRow.down pi_ (Nat.zero_le _), po.down (Nat.zero_le _)⟩
      clear pe pi_ po hb
      refine hK.out _ _ (D7.cells) (fun hHeld => ?_)
      clear hK K
      try simp only [Act.put, List.setIfInBounds_toArray, List.set_cons_zero, List.set_cons_succ]
      refine wpAnyH_ready (rs := [8]) (by kernel_rfl) (by simp) ?_
      refine AllReadyH.cons rfl (fun K hK => ?_) AllReadyH.nil
      go_simp
      refine (HY.out _ D7.bel).mono ?_
      rintro e w8 ⟨dA, dn, dc, dA1, dn1, dc1, dA2, dn2, dc2, rfl, pe, pi_, po, hb⟩
      have D8 := D7.on hb
      have Rc8 := Lib.hid (Rc7.out.below hb)
      have Rd8 : Hid (Rw w8 my dA dn dc dA1 dn1 dc1 dA2 dn2 dc2) := Lib.hid ⟨pe.down (Nat.zero_le _), World.ownsRow.down pi_ (Nat.zero_le _), po.down (Nat.zero_le _)⟩
      clear pe pi_ po hb
      refine hK.out _ _ (D8.cells) (fun hHeld => ?_)
      clear hK K
      try simp only [Act.put, List.setIfInBounds_toArray, List.set_cons_zero, List.set_cons_succ]
      refine wpAnyH_ready (rs := [9]) (by kernel_rfl) (by simp) ?_
      refine AllReadyH.cons rfl (fun K hK => ?_) AllReadyH.nil
      go_simp
      refine (refmsame_any mx my cA cn cc cA1 cn1 cc1 cA2 cn2 cc2 dA dn dc dA1 dn1 dc1 dA2 dn2 dc2 _ w8 (Rc8.out.mr MX.out) (Rd8.out.mr MY.out) (Nat.le_refl _)).mono ?_
      rw [EB.out]
      rintro e w9 ⟨rfl, hb⟩
      have D9 := D8.on hb
      clear hb
      refine hK.out _ _ (D9.cells) (fun hHeld => ?_)
      clear hK K
      try simp only [Act.put, List.setIfInBounds_toArray, List.set_cons_zero, List.set_cons_succ]
      refine take_d (i := 10) (d := 85) (v := .bool true) rfl rfl (by kernel_rfl) (by kernel_rfl) (by kernel_rfl) (fun _ _ _ h => h) (Or.inl ⟨by kernel_rfl, ?v85h⟩) hHeld ?_
      case v85h => (intro w hSw; (try dsimp only at hSw); go_split_ands; go_simp)
      try simp only [Act.put, List.setIfInBounds_toArray, List.set_cons_zero, List.set_cons_succ]
      refine take_d (i := 11) (d := 86) (v := .bool true) rfl rfl (by kernel_rfl) (by kernel_rfl) (by kernel_rfl) (fun _ _ _ h => h) (Or.inl ⟨by kernel_rfl, ?v86h⟩) hHeld ?_
      case v86h => (intro w hSw; (try dsimp only at hSw); go_split_ands; go_simp)
      try simp only [Act.put, List.setIfInBounds_toArray, List.set_cons_zero, List.set_cons_succ]
      refine take_d (i := 12) (d := 87) (v := .agg #[.int .i64 xkind, .int .i64 xfr, .int .i64 xto, .int .u64 xt, .int .u64 xpi, .int .u64 xpt, .slice xA xn xc, .int .u64 xco, .bool xok, .slice xA1 xn1 xc1, .slice xA2 xn2 xc2]) rfl rfl (by kernel_rfl) (by kernel_rfl) (by kernel_rfl) (fun _ _ _ h => h) (Or.inl ⟨by kernel_rfl, ?v87h⟩) hHeld ?_
      case v87h => (intro w hSw; (try dsimp only at hSw); go_split_ands; go_simp)
      try simp only [Act.put, List.setIfInBounds_toArray, List.set_cons_zero, List.set_cons_succ]
      refine take_d (i := 14) (d := 89) (v := .agg #[.int .i64 xkind, .int .i64 xfr, .int .i64 xto, .int .u64 xt, .int .u64 xpi, .int .u64 xpt, .slice xA xn xc, .int .u64 xco, .bool xok, .slice xA1 xn1 xc1, .slice xA2 xn2 xc2]) rfl rfl (by kernel_rfl) (by kernel_rfl) (by kernel_rfl) (fun _ _ _ h => h) (Or.inl ⟨by kernel_rfl, ?v89h⟩) hHeld ?_
      case v89h => (intro w hSw; (try dsimp only at hSw); go_split_ands; go_simp)
      try simp only [Act.put, List.setIfInBounds_toArray, List.set_cons_zero, List.set_cons_succ]
      refine wpAnyH_ready (rs := [13]) (by kernel_rfl) (by simp) ?_
      refine AllReadyH.cons rfl (fun K hK => ?_) AllReadyH.nil
      go_simp
      refine (HX.out _ D9.bel).mono ?_
      rintro e w10 ⟨fA, fn, fc, fA1, fn1, fc1, fA2, fn2, fc2, rfl, pe, pi_, po, hb⟩
      have D10 := D9.on hb
      have Rf10 : Hid (Rw w10 mx fA fn fc fA1 fn1 fc1 fA2 fn2 fc2) := Lib.hid ⟨pe.down (Nat.zero_le _), World.ownsRow.down pi_ (Nat.zero_le _), po.down (Nat.zero_le _)⟩
      clear pe pi_ po hb
      refine hK.out _ _ (D10.cells) (fun hHeld => ?_)
      clear hK K
      try simp only [Act.put, List.setIfInBounds_toArray, List.set_cons_zero, List.set_cons_succ]
      refine wpAnyH_ready (rs := [15]) (by kernel_rfl) (by simp) ?_
      refine AllReadyH.cons rfl (fun K hK => ?_) AllReadyH.nil
      go_simp
      refine (HX.out _ D10.bel).mono ?_
      rintro e w11 ⟨gA, gn, gc, gA1, gn1, gc1, gA2, gn2, gc2, rfl, pe, pi_, po, hb⟩
      have D11 := D10.on hb
      have Rf11 := Lib.hid (Rf10.out.below hb)
      have Rg11 : Hid (Rw w11 mx gA gn gc gA1 gn1 gc1 gA2 gn2 gc2) := Lib.hid ⟨pe.down (Nat.zero_le _), World.ownsRow.down pi_ (Nat.zero_le _), po.down (Nat.zero_le _)⟩
      clear pe pi_ po hb
      refine hK.out _ _ (D11.cells) (fun hHeld => ?_)
      clear hK K
      try simp only [Act.put, List.setIfInBounds_toArray, List.set_cons_zero, List.set_cons_succ]
      refine wpAnyH_ready (rs := [16]) (by kernel_rfl) (by simp) ?_
      refine AllReadyH.cons rfl (fun K hK => ?_) AllReadyH.nil
      go_simp
      refine (msame_any mx mx fA fn fc fA1 fn1 fc1 fA2 fn2 fc2 gA gn gc gA1 gn1 gc1 gA2 gn2 gc2 _ w11 (Rf11.out.mr MX.out) (Rg11.out.mr MX.out) (Nat.le_refl _)).mono ?_
      rw [show decide (mx = mx) = true from decide_eq_true rfl]
      rintro e w12 ⟨rfl, hb⟩
      have D12 := D11.on hb
      clear hb
      refine hK.out _ _ (D12.cells) (fun hHeld => ?_)
      clear hK K
      try simp only [Act.put, List.setIfInBounds_toArray, List.set_cons_zero, List.set_cons_succ]
      refine take_d (i := 17) (d := 92) (v := .bool true) rfl rfl (by kernel_rfl) (by kernel_rfl) (by kernel_rfl) (fun _ _ _ h => h) (Or.inl ⟨by kernel_rfl, ?v92h⟩) hHeld ?_
      case v92h => (intro w hSw; (try dsimp only at hSw); go_split_ands; go_simp)
      try simp only [Act.put, List.setIfInBounds_toArray, List.set_cons_zero, List.set_cons_succ]
      refine take_d (i := 18) (d := 4) (v := ?v4) rfl rfl (by kernel_rfl) (by kernel_rfl) (by kernel_rfl) (fun _ _ _ h => h) (Or.inl ⟨by kernel_rfl, ?v4h⟩) hHeld ?v4n
      case v4h => (intro w hSw; (try dsimp only at hSw); go_split_ands; go_simp; (try exact rfl))
      try simp only [Act.put, List.setIfInBounds_toArray, List.set_cons_zero, List.set_cons_succ]
      refine wpAnyH_done (by kernel_rfl) ?_ _
      refine NoPanic.normal ?_
      go_wp2_with fail
      go_ret
      exact ⟨rfl, D12.bel⟩

end Go.Proofs.YtemfnckaehjhcaaDoor
