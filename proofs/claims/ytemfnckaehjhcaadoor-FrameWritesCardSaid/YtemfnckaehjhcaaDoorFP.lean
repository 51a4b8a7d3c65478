/-
  The law FrameApart's walk: two unlike messages have unlike plain bytes.
-/
import Derived.Test.YtemfnckaehjhcaaDoorFW
import Derived.Test.YtemfnckaehjhcaaDoorFX
import Derived.Test.YtemfnckaehjhcaaDoorFV2
namespace Go.Proofs.YtemfnckaehjhcaaDoor
open Go.RowKit
attribute [local go_sem ↓] eqA neA eqGA field1

/-- A message whose lists are few, and its numbers in their bounds. -/
structure Mb (m : Ms) : Prop where
  es : m.es.length ≤ 9
  mem : m.mem.length ≤ 6
  da : m.da.length ≤ 65537
  t0 : 0 ≤ m.t
  t1 : m.t < 18446744073709551616
  pi0 : 0 ≤ m.pi
  pi1 : m.pi < 18446744073709551616
  pt0 : 0 ≤ m.pt
  pt1 : m.pt < 18446744073709551616
  co0 : 0 ≤ m.co
  co1 : m.co < 18446744073709551616
theorem mr_of {w : World} {base n c n1 c1 n2 c2 : Nat} {A A1 A2 : Option Addr} {m : Ms} (he : Eo w base A n c m.es) (hi : Ios w base A1 n1 c1 m.mem) (ho : Own w base A2 n2 c2 m.da) (hb : Mb m) : Mr w w.heap.size m A n c A1 n1 c1 A2 n2 c2 := by
  obtain ⟨i1, i2, i3⟩ := hi.is_
  exact ⟨he.read, he.cap, he.nil, by have := he.len; have := hb.es; omega, i1, i2, i3, by have := i1.1; have := hb.mem; omega, ho.by, ho.cap, ho.nil, by have := ho.len; have := hb.da; omega, hb.t0, hb.t1, hb.pi0, hb.pi1, hb.pt0, hb.pt1, hb.co0, hb.co1⟩
theorem Min.below {w w' : World} {B : Nat} {kind fr to t pi pt co : Int} {ok : Bool} {A : Option Addr} {n c : Nat} {A1 : Option Addr} {n1 c1 : Nat} {A2 : Option Addr} {n2 c2 : Nat} {xs : List Ec} {mem da : List Int} (h : Min w B kind fr to t pi pt co ok A n c A1 n1 c1 A2 n2 c2 xs mem da) (hb : Below B w w') : Min w' B kind fr to t pi pt co ok A n c A1 n1 c1 A2 n2 c2 xs mem da :=
  ⟨h.es.below hb, h.mem.below hb, h.nc1, h.cm1, h.da.below hb, h.nc2, h.cm2, h.n⟩
theorem few_mb (kind fr to t pi pt co : Int) (ok : Bool) (es : List En) (mem da : List Int) (b : 0 ≤ t ∧ t < 18446744073709551616 ∧ 0 ≤ pi ∧ pi < 18446744073709551616 ∧ 0 ≤ pt ∧ pt < 18446744073709551616 ∧ 0 ≤ co ∧ co < 18446744073709551616) : Mb (fewM ⟨kind, fr, to, t, pi, pt, es, co, ok, mem, da⟩) := by
  obtain ⟨b0, b1, b2, b3, b4, b5, b6, b7⟩ := b
  refine ⟨?_, ?_, ?_, b0, b1, b2, b3, b4, b5, b6, b7⟩
  · show (fewE es).length ≤ 9
    unfold fewE
    rw [List.length_map, List.length_take]; omega
  · show (mem.take 6).length ≤ 6
    rw [List.length_take]; omega
  · show (da.take 65537).length ≤ 65537
    rw [List.length_take]; omega
theorem apart_eq {a b : Ms} (ha : rightM a = true) (hb : rightM b = true) (ia : a.In) (ib : b.In) : (plainB a == plainB b) = decide (a = b) := by
  rw [Bool.eq_iff_iff, beq_iff_eq, decide_eq_true_eq]
  exact ⟨plainB_inj ha hb ia ib, fun e => by rw [e]⟩
theorem encB_len (m : Ms) : (encB m).length = 16 + (plainB m).length := by
  unfold encB
  rw [List.length_append, sealF_len]
theorem encB_drop (m : Ms) : (encB m).drop 16 = plainB m := by
  unfold encB
  rw [List.drop_append, sealF_len, List.drop_of_length_le (by rw [sealF_len]; exact Nat.le_refl _)]
  rfl
theorem Own.drop16 {w : World} {base g n c : Nat} {zs : List Int} (h : Own w base (some ⟨g, 0, none⟩) n c zs) (hn : 16 ≤ n) : By w w.heap.size (some ⟨g, 16, none⟩) (n - 16) (zs.drop 16) := by
  refine ⟨by rw [List.length_drop, h.len], fun j => ?_, fun hp => ⟨g, 16, rfl, ?_, fun j hj => ?_⟩⟩
  · have := h.2 (16 + j)
    simpa [List.getD, List.getElem?_drop] using this
  · rcases h.form with ⟨e, _⟩ | ⟨g', e, _, hl, _⟩
    · cases e
    · injection e with e; injection e with e; omega
  · rw [h.at_ rfl (16 + j) (by omega)]
    simp [List.getD, List.getElem?_drop]

set_option maxRecDepth 100000 in
set_option maxHeartbeats 40000000 in
theorem apart_walk (xkind xfr xto xt xpi xpt xco : Int) (xok : Bool) (xA : Option Addr) (xn xc : Nat) (xA1 : Option Addr) (xn1 xc1 : Nat) (xA2 : Option Addr) (xn2 xc2 : Nat) (ykind yfr yto yt ypi ypt yco : Int) (yok : Bool) (yA : Option Addr) (yn yc : Nat) (yA1 : Option Addr) (yn1 yc1 : Nat) (yA2 : Option Addr) (yn2 yc2 : Nat) (xs ys : List Ec) (xmem xda ymem yda : List Int) (w : World) (hx : Min w w.heap.size xkind xfr xto xt xpi xpt xco xok xA xn xc xA1 xn1 xc1 xA2 xn2 xc2 xs xmem xda) (hy : Min w w.heap.size ykind yfr yto yt ypi ypt yco yok yA yn yc yA1 yn1 yc1 yA2 yn2 yc2 ys ymem yda) (xb : 0 ≤ xt ∧ xt < 18446744073709551616 ∧ 0 ≤ xpi ∧ xpi < 18446744073709551616 ∧ 0 ≤ xpt ∧ xpt < 18446744073709551616 ∧ 0 ≤ xco ∧ xco < 18446744073709551616) (yb : 0 ≤ yt ∧ yt < 18446744073709551616 ∧ 0 ≤ ypi ∧ ypi < 18446744073709551616 ∧ 0 ≤ ypt ∧ ypt < 18446744073709551616 ∧ 0 ≤ yco ∧ yco < 18446744073709551616) (hG : Bk.Gl w) :
    Calls Tryd.prog 6 #[.agg #[.int .i64 xkind, .int .i64 xfr, .int .i64 xto, .int .u64 xt, .int .u64 xpi, .int .u64 xpt, .slice xA xn xc, .int .u64 xco, .bool xok, .slice xA1 xn1 xc1, .slice xA2 xn2 xc2], .agg #[.int .i64 ykind, .int .i64 yfr, .int .i64 yto, .int .u64 yt, .int .u64 ypi, .int .u64 ypt, .slice yA yn yc, .int .u64 yco, .bool yok, .slice yA1 yn1 yc1, .slice yA2 yn2 yc2]] w fun e w' => e = .returned (.bool true) ∧ Below w.heap.size w w' := by
  have WK := Lib.hid (fun W (hW : Below w.heap.size w W) => wakes_any W (hG.on hW))
  have GLH := Lib.hid hG
  have HX := Lib.hid (fun W (hW : Below w.heap.size w W) => few_any xkind xfr xto xt xpi xpt xco xok xA xn xc xA1 xn1 xc1 xA2 xn2 xc2 xs xmem xda w.heap.size W (hx.below hW) hW.size)
  have HY := Lib.hid (fun W (hW : Below w.heap.size w W) => few_any ykind yfr yto yt ypi ypt yco yok yA yn yc yA1 yn1 yc1 yA2 yn2 yc2 ys ymem yda w.heap.size W (hy.below hW) hW.size)
  have MX := Lib.hid (few_mb xkind xfr xto xt xpi xpt xco xok (xs.map Ec.en) xmem xda xb)
  have MY := Lib.hid (few_mb ykind yfr yto yt ypi ypt yco yok (ys.map Ec.en) ymem yda yb)
  generalize fewM ⟨xkind, xfr, xto, xt, xpi, xpt, xs.map Ec.en, xco, xok, xmem, xda⟩ = mx at *
  generalize fewM ⟨ykind, yfr, yto, yt, ypi, ypt, ys.map Ec.en, yco, yok, ymem, yda⟩ = my at *
  have X := Lib.hid (Bt.new_ w xkind xfr xto xt xpi xpt xco xok xA xn xc xA1 xn1 xc1 xA2 xn2 xc2 ykind yfr yto yt ypi ypt yco yok yA yn yc yA1 yn1 yc1 yA2 yn2 yc2)
  clear hx hy hG xb yb
  go_enter Tryd.func6, Tryd.ntmps6
  go_upto_region 1 with (fail)
  generalize (w.alloc (.cells #[.int .i64 xkind, .int .i64 xfr, .int .i64 xto, .int .u64 xt, .int .u64 xpi, .int .u64 xpt, .slice xA xn xc, .int .u64 xco, .bool xok, .slice xA1 xn1 xc1, .slice xA2 xn2 xc2] 31)).alloc (.cells #[.int .i64 ykind, .int .i64 yfr, .int .i64 yto, .int .u64 yt, .int .u64 ypi, .int .u64 ypt, .slice yA yn yc, .int .u64 yco, .bool yok, .slice yA1 yn1 yc1, .slice yA2 yn2 yc2] 31) = W at *
  have D0 := X.out
  clear X
  go_upto_region 3 with (go_at_call 8; refine (WK.out _ D0.bel).mono ?_; rintro e w1 ⟨rfl, hb⟩; have D1 := D0.on hb; clear hb)
  obtain ⟨d0, d1, d2, d3, d4, d5, d6, d7, d8, d9, d10, d11, d12, d13, d14, d15, d16, d17, d18, d19, d20, d21⟩ := D1.cells
  go_upto_region 4 with (first
    | (go_at_call 9; refine (HX.out _ D1.bel).mono ?_; rintro e w2 ⟨x3, xn3, xc3, x4, xn4, xc4, x5, xn5, xc5, rfl, eo, io, oo, hb⟩; have D2 := D1.on hb; have MRX := Lib.hid (mr_of eo io oo MX.out); clear eo io oo hb d0 d1 d2 d3 d4 d5 d6 d7 d8 d9 d10 d11 d12 d13 d14 d15 d16 d17 d18 d19 d20 d21; obtain ⟨d0, d1, d2, d3, d4, d5, d6, d7, d8, d9, d10, d11, d12, d13, d14, d15, d16, d17, d18, d19, d20, d21⟩ := D2.cells)
    | (go_at_call 10; refine (encode_any mx x3 xn3 xc3 x4 xn4 xc4 x5 xn5 xc5 _ w2 MRX.out (Nat.le_refl _) (GLH.out.on D2.bel)).mono ?_; rintro e w3 ⟨x6, xn6, xc6, rfl, oo, hb⟩; have D3 := D2.on hb; have OX := Lib.hid oo; clear oo hb d0 d1 d2 d3 d4 d5 d6 d7 d8 d9 d10 d11 d12 d13 d14 d15 d16 d17 d18 d19 d20 d21; obtain ⟨d0, d1, d2, d3, d4, d5, d6, d7, d8, d9, d10, d11, d12, d13, d14, d15, d16, d17, d18, d19, d20, d21⟩ := D3.cells))
  have INX := Lib.hid MRX.out.in_
  go_upto_region 5 with (first
    | (go_at_call 9; refine (HY.out _ D3.bel).mono ?_; rintro e w4 ⟨y3, yn3, yc3, y4, yn4, yc4, y5, yn5, yc5, rfl, eo, io, oo, hb⟩; have D4 := D3.on hb; have OX4 := Lib.hid (OX.out.below hb); have MRY := Lib.hid (mr_of eo io oo MY.out); clear eo io oo hb d0 d1 d2 d3 d4 d5 d6 d7 d8 d9 d10 d11 d12 d13 d14 d15 d16 d17 d18 d19 d20 d21; obtain ⟨d0, d1, d2, d3, d4, d5, d6, d7, d8, d9, d10, d11, d12, d13, d14, d15, d16, d17, d18, d19, d20, d21⟩ := D4.cells)
    | (go_at_call 10; refine (encode_any my y3 yn3 yc3 y4 yn4 yc4 y5 yn5 yc5 _ w4 MRY.out (Nat.le_refl _) (GLH.out.on D4.bel)).mono ?_; rintro e w5 ⟨y6, yn6, yc6, rfl, oo, hb⟩; have D5 := D4.on hb; have OY := Lib.hid oo; have OX5 := Lib.hid (OX4.out.below hb); clear oo hb d0 d1 d2 d3 d4 d5 d6 d7 d8 d9 d10 d11 d12 d13 d14 d15 d16 d17 d18 d19 d20 d21; obtain ⟨d0, d1, d2, d3, d4, d5, d6, d7, d8, d9, d10, d11, d12, d13, d14, d15, d16, d17, d18, d19, d20, d21⟩ := D5.cells))
  have INY := Lib.hid MRY.out.in_
  by_cases hR : rightM mx = true
  · have hcx : chkM mx = 0 := by unfold chkM; rw [if_pos hR]
    rw [if_pos hR] at OX5
    by_cases hS : rightM my = true
    · have hcy : chkM my = 0 := by unfold chkM; rw [if_pos hS]
      rw [if_pos hS] at OY
      have AE := Lib.hid (apart_eq hR hS INX.out INY.out)
      have lx : xn6 = 16 + (plainB mx).length := by rw [← OX5.out.len, encB_len]
      have ly : yn6 = 16 + (plainB my).length := by rw [← OY.out.len, encB_len]
      have px : 2 ≤ (plainB mx).length := by unfold plainB headB; simp only [List.length_append, List.length_cons, List.length_nil]; omega
      have py : 2 ≤ (plainB my).length := by unfold plainB headB; simp only [List.length_append, List.length_cons, List.length_nil]; omega
      have nx := OX5.out.cap
      have ny := OY.out.cap
      have cx := OX5.out.capmax
      have cy := OY.out.capmax
      obtain ⟨gx, hgx⟩ : ∃ g, x6 = some ⟨g, 0, none⟩ := by
        rcases OX5.out.form with ⟨_, h, _⟩ | ⟨g, h, _⟩
        · omega
        · exact ⟨g, h⟩
      obtain ⟨gy, hgy⟩ : ∃ g, y6 = some ⟨g, 0, none⟩ := by
        rcases OY.out.form with ⟨_, h, _⟩ | ⟨g, h, _⟩
        · omega
        · exact ⟨g, h⟩
      subst hgx hgy
      have bx0 := OX5.out.drop16 (by omega)
      have by0 := OY.out.drop16 (by omega)
      rw [encB_drop, lx, Nat.add_sub_cancel_left] at bx0
      rw [encB_drop, ly, Nat.add_sub_cancel_left] at by0
      generalize plainB mx = PX at *
      generalize plainB my = PY at *
      subst lx ly
      have xc16 : ¬ xc6 = 16 := by omega
      have yc16 : ¬ yc6 = 16 := by omega
      have D6 := D5.drew
      have BX := Lib.hid (show By w5.drew _ _ _ _ from bx0.drewN 1)
      have BY := Lib.hid (show By w5.drew _ _ _ _ from by0.drewN 1)
      clear bx0 by0 OX OX4 OX5 OY MRX MRY
      go_upto_region 7 with (fail)
      refine wp_region_noPanic ?_
      refine wp_region_held_drew (S := fun w' => w'.cell? ⟨w.heap.size, 0, none⟩ = some (.int .i64 xkind) ∧ w'.cell? ⟨w.heap.size, 1, none⟩ = some (.int .i64 xfr) ∧ w'.cell? ⟨w.heap.size, 2, none⟩ = some (.int .i64 xto) ∧ w'.cell? ⟨w.heap.size, 3, none⟩ = some (.int .u64 xt) ∧ w'.cell? ⟨w.heap.size, 4, none⟩ = some (.int .u64 xpi) ∧ w'.cell? ⟨w.heap.size, 5, none⟩ = some (.int .u64 xpt) ∧ w'.cell? ⟨w.heap.size, 6, none⟩ = some (.slice xA xn xc) ∧ w'.cell? ⟨w.heap.size, 7, none⟩ = some (.int .u64 xco) ∧ w'.cell? ⟨w.heap.size, 8, none⟩ = some (.bool xok) ∧ w'.cell? ⟨w.heap.size, 9, none⟩ = some (.slice xA1 xn1 xc1) ∧ w'.cell? ⟨w.heap.size, 10, none⟩ = some (.slice xA2 xn2 xc2) ∧ w'.cell? ⟨w.heap.size + 1, 0, none⟩ = some (.int .i64 ykind) ∧ w'.cell? ⟨w.heap.size + 1, 1, none⟩ = some (.int .i64 yfr) ∧ w'.cell? ⟨w.heap.size + 1, 2, none⟩ = some (.int .i64 yto) ∧ w'.cell? ⟨w.heap.size + 1, 3, none⟩ = some (.int .u64 yt) ∧ w'.cell? ⟨w.heap.size + 1, 4, none⟩ = some (.int .u64 ypi) ∧ w'.cell? ⟨w.heap.size + 1, 5, none⟩ = some (.int .u64 ypt) ∧ w'.cell? ⟨w.heap.size + 1, 6, none⟩ = some (.slice yA yn yc) ∧ w'.cell? ⟨w.heap.size + 1, 7, none⟩ = some (.int .u64 yco) ∧ w'.cell? ⟨w.heap.size + 1, 8, none⟩ = some (.bool yok) ∧ w'.cell? ⟨w.heap.size + 1, 9, none⟩ = some (.slice yA1 yn1 yc1) ∧ w'.cell? ⟨w.heap.size + 1, 10, none⟩ = some (.slice yA2 yn2 yc2)) (by kernel_rfl) D6.cells (fun hHeld => ?_)
      generalize w5.drew = v0 at *
      refine take_d (i := 0) (d := 29) (v := ?r29) rfl rfl (by kernel_rfl) (by kernel_rfl) (by kernel_rfl) (fun _ _ _ h => h) (Or.inl ⟨by kernel_rfl, ?r29h⟩) hHeld ?r29n
      case r29h => (intro w hSw; (try dsimp only at hSw); go_split_ands; go_simp; (try exact rfl))
      try simp only [Act.put, List.setIfInBounds_toArray, List.set_cons_zero, List.set_cons_succ]
      refine take_d (i := 1) (d := 30) (v := .slice (some ⟨gx, 16, none⟩) PX.length (xc6 - 16)) rfl rfl (by kernel_rfl) (by kernel_rfl) (by kernel_rfl) (fun _ _ _ h => h) (Or.inl ⟨by kernel_rfl, ?r30h⟩) hHeld ?_
      case r30h => (intro w hSw; (try dsimp only at hSw); go_split_ands; go_simp; exact fun hlt => absurd hlt (by omega))
      try simp only [Act.put, List.setIfInBounds_toArray, List.set_cons_zero, List.set_cons_succ]
      refine take_d (i := 2) (d := 31) (v := ?r31) rfl rfl (by kernel_rfl) (by kernel_rfl) (by kernel_rfl) (fun _ _ _ h => h) (Or.inl ⟨by kernel_rfl, ?r31h⟩) hHeld ?r31n
      case r31h => (intro w hSw; (try dsimp only at hSw); go_split_ands; go_simp; (try exact rfl))
      try simp only [Act.put, List.setIfInBounds_toArray, List.set_cons_zero, List.set_cons_succ]
      refine take_d (i := 3) (d := 32) (v := .slice (some ⟨gy, 16, none⟩) PY.length (yc6 - 16)) rfl rfl (by kernel_rfl) (by kernel_rfl) (by kernel_rfl) (fun _ _ _ h => h) (Or.inl ⟨by kernel_rfl, ?r32h⟩) hHeld ?_
      case r32h => (intro w hSw; (try dsimp only at hSw); go_split_ands; go_simp; exact fun hlt => absurd hlt (by omega))
      try simp only [Act.put, List.setIfInBounds_toArray, List.set_cons_zero, List.set_cons_succ]
      refine take_d (i := 5) (d := 34) (v := ?r34) rfl rfl (by kernel_rfl) (by kernel_rfl) (by kernel_rfl) (fun _ _ _ h => h) (Or.inl ⟨by kernel_rfl, ?r34h⟩) hHeld ?r34n
      case r34h => (intro w hSw; (try dsimp only at hSw); go_split_ands; go_simp; (try exact rfl))
      try simp only [Act.put, List.setIfInBounds_toArray, List.set_cons_zero, List.set_cons_succ]
      refine take_d (i := 7) (d := 36) (v := ?r36) rfl rfl (by kernel_rfl) (by kernel_rfl) (by kernel_rfl) (fun _ _ _ h => h) (Or.inl ⟨by kernel_rfl, ?r36h⟩) hHeld ?r36n
      case r36h => (intro w hSw; (try dsimp only at hSw); go_split_ands; go_simp; (try exact rfl))
      try simp only [Act.put, List.setIfInBounds_toArray, List.set_cons_zero, List.set_cons_succ]
      refine wpAnyH_ready (rs := [4]) (by kernel_rfl) (by simp) ?_
      refine AllReadyH.cons rfl (fun K hK => ?_) AllReadyH.nil
      go_simp
      refine (bequal_any (some ⟨gx, 16, none⟩) (some ⟨gy, 16, none⟩) _ _ _ _ PX PY v0 _ _ BX.out BY.out).mono ?_
      rw [AE.out]
      rintro e u ⟨rfl, rfl⟩
      refine hK.out _ _ (D6.cells) (fun hHeld => ?_)
      clear hK K
      try simp only [Act.put, List.setIfInBounds_toArray, List.set_cons_zero, List.set_cons_succ]
      refine wpAnyH_ready (rs := [6]) (by kernel_rfl) (by simp) ?_
      refine AllReadyH.cons rfl (fun K hK => ?_) AllReadyH.nil
      go_simp
      refine (HX.out _ D6.bel).mono ?_
      rintro e ux ⟨x7, xn7, xc7, x8, xn8, xc8, x9, xn9, xc9, rfl, eo, io, oo, hb⟩
      have D7 := D6.on hb
      have MRX := Lib.hid (mr_of eo io oo MX.out)
      clear eo io oo hb
      refine hK.out _ _ (D7.cells) (fun hHeld => ?_)
      clear hK K
      try simp only [Act.put, List.setIfInBounds_toArray, List.set_cons_zero, List.set_cons_succ]
      refine wpAnyH_ready (rs := [8]) (by kernel_rfl) (by simp) ?_
      refine AllReadyH.cons rfl (fun K hK => ?_) AllReadyH.nil
      go_simp
      refine (HY.out _ D7.bel).mono ?_
      rintro e uy ⟨y7, yn7, yc7, y8, yn8, yc8, y9, yn9, yc9, rfl, eo, io, oo, hb⟩
      have D8 := D7.on hb
      have MRY := Lib.hid (mr_of eo io oo MY.out)
      have MRX2 := Lib.hid ((MRX.out.below hb).more hb.size)
      clear eo io oo hb
      refine hK.out _ _ (D8.cells) (fun hHeld => ?_)
      clear hK K
      try simp only [Act.put, List.setIfInBounds_toArray, List.set_cons_zero, List.set_cons_succ]
      refine wpAnyH_ready (rs := [9]) (by kernel_rfl) (by simp) ?_
      refine AllReadyH.cons rfl (fun K hK => ?_) AllReadyH.nil
      go_simp
      refine (msame_any mx my _ _ _ _ _ _ _ _ _ _ _ _ _ _ _ _ _ _ _ _ MRX2.out MRY.out (Nat.le_refl _)).mono ?_
      rintro e u9 ⟨rfl, hb⟩
      have D9 := D8.on hb
      clear hb
      refine hK.out _ _ (D9.cells) (fun hHeld => ?_)
      clear hK K
      try simp only [Act.put, List.setIfInBounds_toArray, List.set_cons_zero, List.set_cons_succ]
      refine take_d (i := 10) (d := 39) (v := ?r39) rfl rfl (by kernel_rfl) (by kernel_rfl) (by kernel_rfl) (fun _ _ _ h => h) (Or.inl ⟨by kernel_rfl, ?r39h⟩) hHeld ?r39n
      case r39h => (intro w hSw; (try dsimp only at hSw); go_split_ands; go_simp; (try exact rfl))
      try simp only [Act.put, List.setIfInBounds_toArray, List.set_cons_zero, List.set_cons_succ]
      refine take_d (i := 11) (d := 4) (v := ?r4) rfl rfl (by kernel_rfl) (by kernel_rfl) (by kernel_rfl) (fun _ _ _ h => h) (Or.inl ⟨by kernel_rfl, ?r4h⟩) hHeld ?r4n
      case r4h => (intro w hSw; (try dsimp only at hSw); go_split_ands; go_simp; (try exact rfl))
      try simp only [Act.put, List.setIfInBounds_toArray, List.set_cons_zero, List.set_cons_succ]
      refine wpAnyH_done (by kernel_rfl) ?_ _
      refine NoPanic.normal ?_
      go_wp2_with fail
      go_ret
      exact ⟨rfl, D9.bel⟩
    · have hcy : chkM my = 170 := by unfold chkM; rw [if_neg hS]
      go_wp2_with fail
      go_ret
      exact ⟨rfl, D5.bel⟩
  · have hcx : chkM mx = 170 := by unfold chkM; rw [if_neg hR]
    go_wp2_with fail
    go_ret
    exact ⟨rfl, D5.bel⟩

end Go.Proofs.YtemfnckaehjhcaaDoor
