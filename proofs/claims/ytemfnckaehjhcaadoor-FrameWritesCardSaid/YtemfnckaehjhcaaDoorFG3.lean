/-
  The document's field of the entries.
-/
import Derived.Test.YtemfnckaehjhcaaDoorFG2
import Derived.Deep.CutBlock
namespace Go.Proofs.YtemfnckaehjhcaaDoor
open Go.RowKit
attribute [local go_sem ↓] eqA neA eqGA field1

theorem Tryd.i56' : (Tryd.prog.info? 56).map (·.size) = some 3 := by kernel_rfl
set_option maxRecDepth 100000 in
set_option maxHeartbeats 8000000 in
theorem field_e (kind fr tu t pi pt co : Int) (ok : Bool) (A : Option Addr) (n c : Nat) (A1 : Option Addr) (n1 c1 : Nat) (A2 : Option Addr) (n2 c2 : Nat) (w : World) (es : List En) (B : Nat) (h : Es w B A n es) (hB : B ≤ w.heap.size) (hn : n ≤ 20) (hd : ∀ e ∈ es, e.d.length ≤ 2000) :
    Calls Tryd.prog 57 #[.agg #[.int .i64 kind, .int .i64 fr, .int .i64 tu, .int .u64 t, .int .u64 pi, .int .u64 pt, .slice A n c, .int .u64 co, .bool ok, .slice A1 n1 c1, .slice A2 n2 c2], .int .u8 101] w (Cloned w (shI (n : Int) ++ entsB pt es).length (shI (n : Int) ++ entsB pt es)) := by
  have S1 := Lib.hid (fun W => sh_any (n : Int) (by omega) (by omega) W)
  have L1 := Lib.hid (shI_len (x := (n : Int)) (by omega) (by omega))
  have HY := Lib.hid h
  have HD := Lib.hid hd
  have n0 : (0 : Int) ≤ (n : Int) := by omega
  have n5 : (n : Int) ≤ 20 := by omega
  clear h hd
  have X := Lib.hid (Bx.new_ kind fr tu t pi pt co ok A n c A1 n1 c1 A2 n2 c2 w)
  go_enter Tryd.func57, Tryd.ntmps57
  go_upto_region 1 with (fail)
  generalize w.alloc (.cells #[.int .i64 kind, .int .i64 fr, .int .i64 tu, .int .u64 t, .int .u64 pi, .int .u64 pt, .slice A n c, .int .u64 co, .bool ok, .slice A1 n1 c1, .slice A2 n2 c2] 31) = W at *
  have LO : Hid (w.heap.size < W.heap.size) := Lib.hid X.out.blk.lt
  obtain ⟨d0, d1, d2, d3, d4, d5, d6, d7, d8, d9, d10⟩ := X.out.cells
  have XB := Lib.hid X.out.bel
  go_upto_region 14 with (go_at_call 18; (with_reducible refine (S1.out _).mono ?_); rintro e w2 ⟨A5, c5, rfl, ho, hb⟩; have O2 := Lib.hid ho; have X2 := Lib.hid (X.out.on hb); have e5 := X2.out.blk.cell 5; have e6 := X2.out.blk.cell 6; have Z2 := Lib.hid hb.size; clear ho hb)
  go_wp2
  go_loopw [5, 6, 56] (fun bv lv i wr => ∃ (k : Nat) (A3 : Option Addr) (n3 c3 : Nat) (zs3 : List Int) (u : Int), k ≤ n ∧ i = .int .i64 (k : Int) ∧ bv = .slice A3 n3 c3 ∧ lv = .int .u64 u ∧ n3 ≤ 10 + k * 2021 ∧ Hid (zs3 ++ entsB u (es.drop k) = shI (n : Int) ++ entsB pt es) ∧ Hid (Own wr W.heap.size A3 n3 c3 zs3) ∧ Hid (Below w.heap.size w wr) ∧ Hid (W.heap.size ≤ wr.heap.size)) (fun _ _ i _ => n - (intOf i).toNat)
  case atStart => exact ⟨0, A5, _, c5, _, pt, Nat.zero_le _, rfl, rfl, rfl, by have := L1.out; omega, Lib.hid (by rw [List.drop_zero]), O2, Lib.hid X2.out.bel, Z2⟩
  case round =>
    obtain ⟨k, A3, n3, c3, zs3, u, hk, rfl, rfl, rfl, hn3, hz, IO, IB, IZ⟩ := hrel
    clear e5 e6 d0 d1 d2 d3 d4 d5 d6 d7 d8 d9 d10
    by_cases hlt : k < n
    · obtain ⟨b, o, x, rfl, hbB, hx, hok, hr⟩ := HY.out.at_ hlt
      have hke : k < es.length := by rw [HY.out.len]; exact hlt
      have hz2 := hz.out
      rw [entsB_drop u es k hke, ← hx] at hz2
      have hxd := HD.out _ (en_mem es k hke)
      rw [← hx] at hxd
      obtain ⟨r0w, r1w, r2w⟩ := rng3 hr
      have r0 := (IB.out.cell (p := ⟨b, _, none⟩) (by show b < _; omega)).trans r0w
      have r1 := (IB.out.cell (p := ⟨b, _, none⟩) (by show b < _; omega)).trans r1w
      have r2 := (IB.out.cell (p := ⟨b, _, none⟩) (by show b < _; omega)).trans r2w
      clear r0w r1w r2w
      have BYX := Lib.hid hok.by_
      have NX := Lib.hid hok.nil
      obtain ⟨xt, xk, xA, xn, xc, xd⟩ := x
      simp only [Ec.en] at hz2 hxd r0 r1 r2 BYX NX
      have hxn : xn ≤ 2000 := by rw [← BYX.out.1]; exact hxd
      have hel := entB_len (t := u) (e := ⟨xt, xk, xd⟩) hxd
      have HZ : Hid (zs3 ++ entB u ⟨xt, xk, xd⟩ ++ entsB xt (es.drop (k + 1)) = shI (n : Int) ++ entsB pt es) := Lib.hid (by rw [List.append_assoc]; exact hz2)
      have HE : Hid (entB u ⟨xt, xk, xd⟩ = shI ((xt - u) % 18446744073709551616) ++ (xk % 256) :: (shI (xn : Int) ++ xd)) := Lib.hid (by rw [shI_nat, ← BYX.out.1]; rfl)
      have HEL : Hid ((entB u ⟨xt, xk, xd⟩).length = (shI ((xt - u) % 18446744073709551616)).length + 1 + ((shI (xn : Int)).length + xn)) := Lib.hid (by rw [HE.out, List.length_append, List.length_cons, List.length_append, BYX.out.1]; omega)
      have hel2 := hel
      rw [HEL.out] at hel2
      have LE := Lib.hid hel2
      have SH := Lib.hid (fun W => sh_any ((xt - u) % 18446744073709551616) (by omega) (by omega) W)
      have LS := Lib.hid (shI_len (x := (xt - u) % 18446744073709551616) (by omega) (by omega))
      have SN := Lib.hid (fun W => sh_any (xn : Int) (by omega) (by omega) W)
      have LN := Lib.hid (shI_len (x := (xn : Int)) (by omega) (by omega))
      have k0 : (0 : Int) ≤ (k : Int) := by omega
      have xn0 : (0 : Int) ≤ (xn : Int) := by omega
      have xn1 : (xn : Int) ≤ 2000 := by omega
      have hw1 : IntKind.u64.wrap (xt - u) = (xt - u) % 18446744073709551616 := by rw [IntKind.wrap_u64]
      have hw2 : IntKind.u8.wrap xk = xk % 256 := by rw [IntKind.wrap_u8]
      have hw3 : IntKind.u64.wrap (xn : Int) = (xn : Int) := by rw [IntKind.wrap_u64]; omega
      clear hr hx hok hz hz2 hxd hel hel2
      go_upto_region 18 with (fail)
      have AL : Below wr.heap.size wr (wr.alloc (.cells #[.int .u64 xt, .int .i64 xk, .slice xA xn xc] 56)) := (Below.refl _ _).alloc (Nat.le_refl _) _
      have Q4 : Hid (Blk (wr.alloc (.cells #[.int .u64 xt, .int .i64 xk, .slice xA xn xc] 56)) wr.heap.size 56 #[.int .u64 xt, .int .i64 xk, .slice xA xn xc]) := Lib.hid (Blk.new _ _ _)
      have O4 := Lib.hid (IO.out.below AL)
      have B4 : Hid (Below w.heap.size w (wr.alloc (.cells #[.int .u64 xt, .int .i64 xk, .slice xA xn xc] 56))) := Lib.hid (IB.out.alloc IB.out.size _)
      have Z4 := Lib.hid (Nat.le_trans IZ.out AL.size)
      clear AL IO IB IZ r0 r1 r2
      generalize wr.heap.size = q at *
      generalize wr.alloc (.cells #[.int .u64 xt, .int .i64 xk, .slice xA xn xc] 56) = w4 at *
      have QB0 : Hid (Blk w4.drew q 56 #[.int .u64 xt, .int .i64 xk, .slice xA xn xc]) := Lib.hid (Q4.out.drewN 1)
      have O0 : Hid (Own w4.drew W.heap.size A3 n3 c3 zs3) := Lib.hid (O4.out.below (Below.refl _ _).drew)
      have HB0 : Hid (Below w.heap.size w w4.drew) := Lib.hid B4.out.drew
      have ZW0 : Hid (W.heap.size ≤ w4.drew.heap.size) := Z4
      have xS := And.intro (QB0.out.cell 0) (QB0.out.cell 1)
      clear Q4 O4 B4 Z4
      go_cut [5] from 60 to 71 (fun v5 wx => ∃ Au cu, v5 = .slice Au (n3 + (shI ((xt - u) % 18446744073709551616)).length + 1) cu ∧ Own wx W.heap.size Au (n3 + (shI ((xt - u) % 18446744073709551616)).length + 1) cu (zs3 ++ shI ((xt - u) % 18446744073709551616) ++ [xk % 256]) ∧ Blk wx q 56 #[.int .u64 xt, .int .i64 xk, .slice xA xn xc] ∧ Below w.heap.size w wx ∧ W.heap.size ≤ wx.heap.size)
      case first =>
        refine wp_region_noPanic ?_
        refine wp_region_held_drew (S := fun w' => w'.cell? ⟨q, 0, none⟩ = some (.int .u64 xt) ∧ w'.cell? ⟨q, 1, none⟩ = some (.int .i64 xk)) (by kernel_rfl) xS (fun hHeld => ?_)
        generalize w4.drew = w0 at *
        refine take_d (i := 0) (d := 60) (v := ?z1) rfl rfl (by kernel_rfl) (by kernel_rfl) (by kernel_rfl) (fun _ _ _ h => h) (Or.inl ⟨by kernel_rfl, ?z1h⟩) hHeld ?z1n
        case z1h => (intro w hSw; (try dsimp only at hSw); go_split_ands; go_simp; (try exact rfl))
        try simp only [Act.put, List.setIfInBounds_toArray, List.set_cons_zero, List.set_cons_succ]
        refine take_d (i := 1) (d := 61) (v := ?z2) rfl rfl (by kernel_rfl) (by kernel_rfl) (by kernel_rfl) (fun _ _ _ h => h) (Or.inl ⟨by kernel_rfl, ?z2h⟩) hHeld ?z2n
        case z2h => (intro w hSw; (try dsimp only at hSw); go_split_ands; go_simp; (try exact rfl))
        try simp only [Act.put, List.setIfInBounds_toArray, List.set_cons_zero, List.set_cons_succ]
        refine take_d (i := 2) (d := 62) (v := ?z3) rfl rfl (by kernel_rfl) (by kernel_rfl) (by kernel_rfl) (fun _ _ _ h => h) (Or.inl ⟨by kernel_rfl, ?z3h⟩) hHeld ?z3n
        case z3h => (intro w hSw; (try dsimp only at hSw); go_split_ands; go_simp; (try exact rfl))
        try simp only [Act.put, List.setIfInBounds_toArray, List.set_cons_zero, List.set_cons_succ]
        refine take_d (i := 3) (d := 63) (v := ?z4) rfl rfl (by kernel_rfl) (by kernel_rfl) (by kernel_rfl) (fun _ _ _ h => h) (Or.inl ⟨by kernel_rfl, ?z4h⟩) hHeld ?z4n
        case z4h => (intro w hSw; (try dsimp only at hSw); go_split_ands; go_simp; (try exact rfl))
        try simp only [Act.put, List.setIfInBounds_toArray, List.set_cons_zero, List.set_cons_succ]
        refine take_d (i := 4) (d := 64) (v := .int .u64 ((xt - u) % 18446744073709551616)) rfl rfl (by kernel_rfl) (by kernel_rfl) (by kernel_rfl) (fun _ _ _ h => h) (Or.inl ⟨by kernel_rfl, ?z5h⟩) hHeld ?_
        case z5h => (intro w hSw; (try dsimp only at hSw); go_split_ands; go_simp)
        try simp only [Act.put, List.setIfInBounds_toArray, List.set_cons_zero, List.set_cons_succ]
        refine take_d (i := 7) (d := 67) (v := ?z6) rfl rfl (by kernel_rfl) (by kernel_rfl) (by kernel_rfl) (fun _ _ _ h => h) (Or.inl ⟨by kernel_rfl, ?z6h⟩) hHeld ?z6n
        case z6h => (intro w hSw; (try dsimp only at hSw); go_split_ands; go_simp; (try exact rfl))
        try simp only [Act.put, List.setIfInBounds_toArray, List.set_cons_zero, List.set_cons_succ]
        refine take_d (i := 8) (d := 68) (v := ?z7) rfl rfl (by kernel_rfl) (by kernel_rfl) (by kernel_rfl) (fun _ _ _ h => h) (Or.inl ⟨by kernel_rfl, ?z7h⟩) hHeld ?z7n
        case z7h => (intro w hSw; (try dsimp only at hSw); go_split_ands; go_simp; (try exact rfl))
        try simp only [Act.put, List.setIfInBounds_toArray, List.set_cons_zero, List.set_cons_succ]
        refine take_d (i := 9) (d := 69) (v := .int .u8 (xk % 256)) rfl rfl (by kernel_rfl) (by kernel_rfl) (by kernel_rfl) (fun _ _ _ h => h) (Or.inl ⟨by kernel_rfl, ?z8h⟩) hHeld ?_
        case z8h => (intro w hSw; (try dsimp only at hSw); go_split_ands; go_simp)
        try simp only [Act.put, List.setIfInBounds_toArray, List.set_cons_zero, List.set_cons_succ]
        refine wpAnyH_ready (rs := [5, 10]) (by kernel_rfl) (by simp) ?_
        refine AllReadyH.cons rfl (fun K hK => ?_) (AllReadyH.cons rfl (fun K hK => ?_) AllReadyH.nil)
        · skip
          go_simp
          with_reducible refine (SH.out _).mono ?_
          rintro e w1 ⟨As, cs, rfl, ho, hb⟩
          have HB1 := Lib.hid (HB0.out.trans (hb.mono (by have := ZW0.out; have := LO.out; omega)))
          have ZW1 := Lib.hid (Nat.le_trans ZW0.out hb.size)
          have QB1 := Lib.hid (QB0.out.below hb QB0.out.lt)
          have O1 := Lib.hid (O0.out.below hb)
          have Os1 := Lib.hid ho
          clear ho hb
          refine hK.out _ _ ⟨QB1.out.cell 0, QB1.out.cell 1⟩ (fun hHeld => ?_)
          clear hK K
          try simp only [Act.put, List.setIfInBounds_toArray, List.set_cons_zero, List.set_cons_succ]
          refine wpAnyH_ready (rs := [6, 10]) (by kernel_rfl) (by simp) ?_
          refine AllReadyH.cons rfl (fun K hK => ?_) (AllReadyH.cons rfl (fun K hK => ?_) AllReadyH.nil)
          · skip
            go_simp
            refine (both_any A3 n3 c3 zs3 As _ cs (shI ((xt - u) % 18446744073709551616)) w1 w1.heap.size O1.out.by O1.out.nil Os1.out.by Os1.out.nil (Nat.le_refl _) (by omega) (by have := LS.out; omega)).mono ?_
            rintro e w2 ⟨At, ct, rfl, ho, hb⟩
            obtain ⟨bt, hbt⟩ : ∃ bt, w1.heap.size = bt := ⟨_, rfl⟩
            have HB2 := Lib.hid (HB1.out.trans (hb.mono (by have := ZW1.out; have := LO.out; omega)))
            have ZW2 := Lib.hid (Nat.le_trans ZW1.out hb.size)
            have QB2 := Lib.hid (QB1.out.below hb QB1.out.lt)
            have O2 := Lib.hid (O1.out.below hb)
            have Os2 := Lib.hid (Os1.out.below hb)
            have Ot2 : Hid (Own w2 bt At (n3 + (shI ((xt - u) % 18446744073709551616)).length) ct (zs3 ++ shI ((xt - u) % 18446744073709551616))) := Lib.hid (by rw [← hbt]; exact ho)
            have ZT2 : Hid (bt ≤ w2.heap.size) := Lib.hid (by rw [← hbt]; exact hb.size)
            have ZB : Hid (W.heap.size ≤ bt) := Lib.hid (by rw [← hbt]; exact ZW1.out)
            clear ho hb hbt
            refine hK.out _ _ ⟨QB2.out.cell 0, QB2.out.cell 1⟩ (fun hHeld => ?_)
            clear hK K
            try simp only [Act.put, List.setIfInBounds_toArray, List.set_cons_zero, List.set_cons_succ]
            refine wpAnyH_ready (rs := [10]) (by kernel_rfl) (by simp) ?_
            refine AllReadyH.cons rfl (fun K hK => ?_) AllReadyH.nil
            go_simp
            have hbb : Below w2.heap.size w2 (w2.alloc (.cells #[.int .u8 (xk % 256)] 5)) := (Below.refl _ _).alloc (Nat.le_refl _) _
            obtain ⟨pb, hpb⟩ : ∃ pb, w2.heap.size = pb := ⟨_, rfl⟩
            have HB3 := Lib.hid (HB2.out.trans (hbb.mono (by have := ZW2.out; have := LO.out; omega)))
            have ZW3 := Lib.hid (Nat.le_trans ZW2.out hbb.size)
            have QB3 := Lib.hid (QB2.out.below hbb QB2.out.lt)
            have O3 := Lib.hid (O2.out.below hbb)
            have Os3 := Lib.hid (Os2.out.below hbb)
            have Ot3 := Lib.hid (Ot2.out.below hbb)
            have ZT3 := Lib.hid (Nat.le_trans ZT2.out hbb.size)
            have P3 : Hid (Blk (w2.alloc (.cells #[.int .u8 (xk % 256)] 5)) pb 5 #[.int .u8 (xk % 256)]) := Lib.hid (by rw [← hpb]; exact Blk.new _ _ _)
            refine hK.out _ _ ⟨QB3.out.cell 0, QB3.out.cell 1⟩ (fun hHeld => ?_)
            clear hK K hbb
            try rw [hpb]
            clear hpb
            generalize w2.alloc (.cells #[.int .u8 (xk % 256)] 5) = w3 at *
            try simp only [Act.put, List.setIfInBounds_toArray, List.set_cons_zero, List.set_cons_succ]
            refine wpAnyH_ready (rs := [11]) (by kernel_rfl) (by simp) ?_
            refine AllReadyH.cons rfl (fun K hK => ?_) AllReadyH.nil
            refine step_append_one rfl (.tmp 66) (.tmp 70) rfl bt At (n3 + (shI ((xt - u) % 18446744073709551616)).length) ct (zs3 ++ shI ((xt - u) % 18446744073709551616)) rfl Ot3.out pb (xk % 256) (by omega) (by omega) rfl P3.out (by have := LS.out; omega) ZT3.out ?_
            intro Au cu w4 ho hb
            have HB4 := Lib.hid (HB3.out.trans (hb.below.mono (by have := ZB.out; have := LO.out; omega)))
            have ZW4 := Lib.hid (Nat.le_trans ZW3.out hb.below.size)
            have QB4 := Lib.hid (hb.other _ _ _ (by decide) QB3.out)
            have O4 : Hid (Own w4 W.heap.size Au (n3 + (shI ((xt - u) % 18446744073709551616)).length + 1) cu (zs3 ++ shI ((xt - u) % 18446744073709551616) ++ [xk % 256])) := Lib.hid (ho.down ZB.out)
            clear ho hb
            show K (Act.put _ (some 71) _) _
            refine hK.out _ _ ⟨QB4.out.cell 0, QB4.out.cell 1⟩ (fun hHeld => ?_)
            clear hK K
            try simp only [Act.put, List.setIfInBounds_toArray, List.set_cons_zero, List.set_cons_succ]
            refine take_d (i := 12) (d := 5) (v := ?z9) rfl rfl (by kernel_rfl) (by kernel_rfl) (by kernel_rfl) (fun _ _ _ h => h) (Or.inl ⟨by kernel_rfl, ?z9h⟩) hHeld ?z9n
            case z9h => (intro w hSw; (try dsimp only at hSw); go_split_ands; go_simp; (try exact rfl))
            try simp only [Act.put, List.setIfInBounds_toArray, List.set_cons_zero, List.set_cons_succ]
            refine wpAnyH_done (by kernel_rfl) ?_ _
            refine NoPanic.normal ?_
            go_wp2_with fail
            go_meet
            case rel => exact ⟨Au, cu, rfl, O4.out, QB4.out, HB4.out, ZW4.out⟩
          · skip
            go_simp
            have hbb : Below w1.heap.size w1 (w1.alloc (.cells #[.int .u8 (xk % 256)] 5)) := (Below.refl _ _).alloc (Nat.le_refl _) _
            obtain ⟨pb, hpb⟩ : ∃ pb, w1.heap.size = pb := ⟨_, rfl⟩
            have HB2 := Lib.hid (HB1.out.trans (hbb.mono (by have := ZW1.out; have := LO.out; omega)))
            have ZW2 := Lib.hid (Nat.le_trans ZW1.out hbb.size)
            have QB2 := Lib.hid (QB1.out.below hbb QB1.out.lt)
            have O2 := Lib.hid (O1.out.below hbb)
            have Os2 := Lib.hid (Os1.out.below hbb)
            have P2 : Hid (Blk (w1.alloc (.cells #[.int .u8 (xk % 256)] 5)) pb 5 #[.int .u8 (xk % 256)]) := Lib.hid (by rw [← hpb]; exact Blk.new _ _ _)
            refine hK.out _ _ ⟨QB2.out.cell 0, QB2.out.cell 1⟩ (fun hHeld => ?_)
            clear hK K hbb
            try rw [hpb]
            clear hpb
            generalize w1.alloc (.cells #[.int .u8 (xk % 256)] 5) = w2 at *
            try simp only [Act.put, List.setIfInBounds_toArray, List.set_cons_zero, List.set_cons_succ]
            refine wpAnyH_ready (rs := [6]) (by kernel_rfl) (by simp) ?_
            refine AllReadyH.cons rfl (fun K hK => ?_) AllReadyH.nil
            go_simp
            refine (both_any A3 n3 c3 zs3 As _ cs (shI ((xt - u) % 18446744073709551616)) w2 w2.heap.size O2.out.by O2.out.nil Os2.out.by Os2.out.nil (Nat.le_refl _) (by omega) (by have := LS.out; omega)).mono ?_
            rintro e w3 ⟨At, ct, rfl, ho, hb⟩
            obtain ⟨bt, hbt⟩ : ∃ bt, w2.heap.size = bt := ⟨_, rfl⟩
            have HB3 := Lib.hid (HB2.out.trans (hb.mono (by have := ZW2.out; have := LO.out; omega)))
            have ZW3 := Lib.hid (Nat.le_trans ZW2.out hb.size)
            have QB3 := Lib.hid (QB2.out.below hb QB2.out.lt)
            have O3 := Lib.hid (O2.out.below hb)
            have Os3 := Lib.hid (Os2.out.below hb)
            have P3 := Lib.hid (P2.out.below hb P2.out.lt)
            have Ot3 : Hid (Own w3 bt At (n3 + (shI ((xt - u) % 18446744073709551616)).length) ct (zs3 ++ shI ((xt - u) % 18446744073709551616))) := Lib.hid (by rw [← hbt]; exact ho)
            have ZT3 : Hid (bt ≤ w3.heap.size) := Lib.hid (by rw [← hbt]; exact hb.size)
            have ZB : Hid (W.heap.size ≤ bt) := Lib.hid (by rw [← hbt]; exact ZW2.out)
            clear ho hb hbt
            refine hK.out _ _ ⟨QB3.out.cell 0, QB3.out.cell 1⟩ (fun hHeld => ?_)
            clear hK K
            try simp only [Act.put, List.setIfInBounds_toArray, List.set_cons_zero, List.set_cons_succ]
            refine wpAnyH_ready (rs := [11]) (by kernel_rfl) (by simp) ?_
            refine AllReadyH.cons rfl (fun K hK => ?_) AllReadyH.nil
            refine step_append_one rfl (.tmp 66) (.tmp 70) rfl bt At (n3 + (shI ((xt - u) % 18446744073709551616)).length) ct (zs3 ++ shI ((xt - u) % 18446744073709551616)) rfl Ot3.out pb (xk % 256) (by omega) (by omega) rfl P3.out (by have := LS.out; omega) ZT3.out ?_
            intro Au cu w4 ho hb
            have HB4 := Lib.hid (HB3.out.trans (hb.below.mono (by have := ZB.out; have := LO.out; omega)))
            have ZW4 := Lib.hid (Nat.le_trans ZW3.out hb.below.size)
            have QB4 := Lib.hid (hb.other _ _ _ (by decide) QB3.out)
            have O4 : Hid (Own w4 W.heap.size Au (n3 + (shI ((xt - u) % 18446744073709551616)).length + 1) cu (zs3 ++ shI ((xt - u) % 18446744073709551616) ++ [xk % 256])) := Lib.hid (ho.down ZB.out)
            clear ho hb
            show K (Act.put _ (some 71) _) _
            refine hK.out _ _ ⟨QB4.out.cell 0, QB4.out.cell 1⟩ (fun hHeld => ?_)
            clear hK K
            try simp only [Act.put, List.setIfInBounds_toArray, List.set_cons_zero, List.set_cons_succ]
            refine take_d (i := 12) (d := 5) (v := ?z10) rfl rfl (by kernel_rfl) (by kernel_rfl) (by kernel_rfl) (fun _ _ _ h => h) (Or.inl ⟨by kernel_rfl, ?z10h⟩) hHeld ?z10n
            case z10h => (intro w hSw; (try dsimp only at hSw); go_split_ands; go_simp; (try exact rfl))
            try simp only [Act.put, List.setIfInBounds_toArray, List.set_cons_zero, List.set_cons_succ]
            refine wpAnyH_done (by kernel_rfl) ?_ _
            refine NoPanic.normal ?_
            go_wp2_with fail
            go_meet
            case rel => exact ⟨Au, cu, rfl, O4.out, QB4.out, HB4.out, ZW4.out⟩
        · skip
          go_simp
          have hbb : Below w0.heap.size w0 (w0.alloc (.cells #[.int .u8 (xk % 256)] 5)) := (Below.refl _ _).alloc (Nat.le_refl _) _
          obtain ⟨pb, hpb⟩ : ∃ pb, w0.heap.size = pb := ⟨_, rfl⟩
          have HB1 := Lib.hid (HB0.out.trans (hbb.mono (by have := ZW0.out; have := LO.out; omega)))
          have ZW1 := Lib.hid (Nat.le_trans ZW0.out hbb.size)
          have QB1 := Lib.hid (QB0.out.below hbb QB0.out.lt)
          have O1 := Lib.hid (O0.out.below hbb)
          have P1 : Hid (Blk (w0.alloc (.cells #[.int .u8 (xk % 256)] 5)) pb 5 #[.int .u8 (xk % 256)]) := Lib.hid (by rw [← hpb]; exact Blk.new _ _ _)
          refine hK.out _ _ ⟨QB1.out.cell 0, QB1.out.cell 1⟩ (fun hHeld => ?_)
          clear hK K hbb
          try rw [hpb]
          clear hpb
          generalize w0.alloc (.cells #[.int .u8 (xk % 256)] 5) = w1 at *
          try simp only [Act.put, List.setIfInBounds_toArray, List.set_cons_zero, List.set_cons_succ]
          refine wpAnyH_ready (rs := [5]) (by kernel_rfl) (by simp) ?_
          refine AllReadyH.cons rfl (fun K hK => ?_) AllReadyH.nil
          go_simp
          with_reducible refine (SH.out _).mono ?_
          rintro e w2 ⟨As, cs, rfl, ho, hb⟩
          have HB2 := Lib.hid (HB1.out.trans (hb.mono (by have := ZW1.out; have := LO.out; omega)))
          have ZW2 := Lib.hid (Nat.le_trans ZW1.out hb.size)
          have QB2 := Lib.hid (QB1.out.below hb QB1.out.lt)
          have O2 := Lib.hid (O1.out.below hb)
          have P2 := Lib.hid (P1.out.below hb P1.out.lt)
          have Os2 := Lib.hid ho
          clear ho hb
          refine hK.out _ _ ⟨QB2.out.cell 0, QB2.out.cell 1⟩ (fun hHeld => ?_)
          clear hK K
          try simp only [Act.put, List.setIfInBounds_toArray, List.set_cons_zero, List.set_cons_succ]
          refine wpAnyH_ready (rs := [6]) (by kernel_rfl) (by simp) ?_
          refine AllReadyH.cons rfl (fun K hK => ?_) AllReadyH.nil
          go_simp
          refine (both_any A3 n3 c3 zs3 As _ cs (shI ((xt - u) % 18446744073709551616)) w2 w2.heap.size O2.out.by O2.out.nil Os2.out.by Os2.out.nil (Nat.le_refl _) (by omega) (by have := LS.out; omega)).mono ?_
          rintro e w3 ⟨At, ct, rfl, ho, hb⟩
          obtain ⟨bt, hbt⟩ : ∃ bt, w2.heap.size = bt := ⟨_, rfl⟩
          have HB3 := Lib.hid (HB2.out.trans (hb.mono (by have := ZW2.out; have := LO.out; omega)))
          have ZW3 := Lib.hid (Nat.le_trans ZW2.out hb.size)
          have QB3 := Lib.hid (QB2.out.below hb QB2.out.lt)
          have O3 := Lib.hid (O2.out.below hb)
          have Os3 := Lib.hid (Os2.out.below hb)
          have P3 := Lib.hid (P2.out.below hb P2.out.lt)
          have Ot3 : Hid (Own w3 bt At (n3 + (shI ((xt - u) % 18446744073709551616)).length) ct (zs3 ++ shI ((xt - u) % 18446744073709551616))) := Lib.hid (by rw [← hbt]; exact ho)
          have ZT3 : Hid (bt ≤ w3.heap.size) := Lib.hid (by rw [← hbt]; exact hb.size)
          have ZB : Hid (W.heap.size ≤ bt) := Lib.hid (by rw [← hbt]; exact ZW2.out)
          clear ho hb hbt
          refine hK.out _ _ ⟨QB3.out.cell 0, QB3.out.cell 1⟩ (fun hHeld => ?_)
          clear hK K
          try simp only [Act.put, List.setIfInBounds_toArray, List.set_cons_zero, List.set_cons_succ]
          refine wpAnyH_ready (rs := [11]) (by kernel_rfl) (by simp) ?_
          refine AllReadyH.cons rfl (fun K hK => ?_) AllReadyH.nil
          refine step_append_one rfl (.tmp 66) (.tmp 70) rfl bt At (n3 + (shI ((xt - u) % 18446744073709551616)).length) ct (zs3 ++ shI ((xt - u) % 18446744073709551616)) rfl Ot3.out pb (xk % 256) (by omega) (by omega) rfl P3.out (by have := LS.out; omega) ZT3.out ?_
          intro Au cu w4 ho hb
          have HB4 := Lib.hid (HB3.out.trans (hb.below.mono (by have := ZB.out; have := LO.out; omega)))
          have ZW4 := Lib.hid (Nat.le_trans ZW3.out hb.below.size)
          have QB4 := Lib.hid (hb.other _ _ _ (by decide) QB3.out)
          have O4 : Hid (Own w4 W.heap.size Au (n3 + (shI ((xt - u) % 18446744073709551616)).length + 1) cu (zs3 ++ shI ((xt - u) % 18446744073709551616) ++ [xk % 256])) := Lib.hid (ho.down ZB.out)
          clear ho hb
          show K (Act.put _ (some 71) _) _
          refine hK.out _ _ ⟨QB4.out.cell 0, QB4.out.cell 1⟩ (fun hHeld => ?_)
          clear hK K
          try simp only [Act.put, List.setIfInBounds_toArray, List.set_cons_zero, List.set_cons_succ]
          refine take_d (i := 12) (d := 5) (v := ?z11) rfl rfl (by kernel_rfl) (by kernel_rfl) (by kernel_rfl) (fun _ _ _ h => h) (Or.inl ⟨by kernel_rfl, ?z11h⟩) hHeld ?z11n
          case z11h => (intro w hSw; (try dsimp only at hSw); go_split_ands; go_simp; (try exact rfl))
          try simp only [Act.put, List.setIfInBounds_toArray, List.set_cons_zero, List.set_cons_succ]
          refine wpAnyH_done (by kernel_rfl) ?_ _
          refine NoPanic.normal ?_
          go_wp2_with fail
          go_meet
          case rel => exact ⟨Au, cu, rfl, O4.out, QB4.out, HB4.out, ZW4.out⟩
      case rest =>
        obtain ⟨Au, cu, rfl, k1, k2, k3, k4⟩ := hcut
        have Q5 := Lib.hid k2
        have H5 := Lib.hid k3
        have Z5 := Lib.hid k4
        obtain ⟨n4, hn4⟩ : ∃ n4, n3 + (shI ((xt - u) % 18446744073709551616)).length + 1 = n4 := ⟨_, rfl⟩
        rw [hn4] at k1 ⊢
        have O5 := Lib.hid k1
        have N4 := Lib.hid hn4
        obtain ⟨zs4, hzs4⟩ : ∃ zs4, zs3 ++ shI ((xt - u) % 18446744073709551616) ++ [xk % 256] = zs4 := ⟨_, rfl⟩
        rw [hzs4] at O5
        have Z4' := Lib.hid hzs4
        have n4b : n4 ≤ 100 + k * 2021 := by have := LS.out; omega
        clear k1 k2 k3 k4 hn4 hzs4 QB0 O0 HB0 ZW0 xS
        go_upto_region 19 with (fail)
        obtain ⟨w5, hw5⟩ : ∃ w5, wc = w5 := ⟨_, rfl⟩
        subst hw5
        have QB0 : Hid (Blk wc.drew q 56 #[.int .u64 xt, .int .i64 xk, .slice xA xn xc]) := Lib.hid (Q5.out.drewN 1)
        have O0 : Hid (Own wc.drew W.heap.size Au n4 cu zs4) := Lib.hid (O5.out.below (Below.refl _ _).drew)
        have HB0 : Hid (Below w.heap.size w wc.drew) := Lib.hid H5.out.drew
        have ZW0 : Hid (W.heap.size ≤ wc.drew.heap.size) := Z5
        have xS := QB0.out.cell 2
        refine wp_region_noPanic ?_
        refine wp_region_held_drew (S := fun w' => w'.cell? ⟨q, 2, none⟩ = some (.slice xA xn xc)) (by kernel_rfl) xS (fun hHeld => ?_)
        generalize wc.drew = w0 at *
        refine take_d (i := 0) (d := 72) (v := ?rt72) rfl rfl (by kernel_rfl) (by kernel_rfl) (by kernel_rfl) (fun _ _ _ h => h) (Or.inl ⟨by kernel_rfl, ?rt72h⟩) hHeld ?rt72n
        case rt72h => (intro w hSw; (try dsimp only at hSw); go_split_ands; go_simp; (try exact rfl))
        try simp only [Act.put, List.setIfInBounds_toArray, List.set_cons_zero, List.set_cons_succ]
        refine take_d (i := 1) (d := 73) (v := ?rt73) rfl rfl (by kernel_rfl) (by kernel_rfl) (by kernel_rfl) (fun _ _ _ h => h) (Or.inl ⟨by kernel_rfl, ?rt73h⟩) hHeld ?rt73n
        case rt73h => (intro w hSw; (try dsimp only at hSw); go_split_ands; go_simp; (try exact rfl))
        try simp only [Act.put, List.setIfInBounds_toArray, List.set_cons_zero, List.set_cons_succ]
        refine take_d (i := 2) (d := 74) (v := ?rt74) rfl rfl (by kernel_rfl) (by kernel_rfl) (by kernel_rfl) (fun _ _ _ h => h) (Or.inl ⟨by kernel_rfl, ?rt74h⟩) hHeld ?rt74n
        case rt74h => (intro w hSw; (try dsimp only at hSw); go_split_ands; go_simp; (try exact rfl))
        try simp only [Act.put, List.setIfInBounds_toArray, List.set_cons_zero, List.set_cons_succ]
        refine take_d (i := 3) (d := 75) (v := ?rt75) rfl rfl (by kernel_rfl) (by kernel_rfl) (by kernel_rfl) (fun _ _ _ h => h) (Or.inl ⟨by kernel_rfl, ?rt75h⟩) hHeld ?rt75n
        case rt75h => (intro w hSw; (try dsimp only at hSw); go_split_ands; go_simp; (try exact rfl))
        try simp only [Act.put, List.setIfInBounds_toArray, List.set_cons_zero, List.set_cons_succ]
        refine take_d (i := 4) (d := 76) (v := .int .u64 (xn : Int)) rfl rfl (by kernel_rfl) (by kernel_rfl) (by kernel_rfl) (fun _ _ _ h => h) (Or.inl ⟨by kernel_rfl, ?rt76h⟩) hHeld ?_
        case rt76h => (intro w hSw; (try dsimp only at hSw); go_split_ands; go_simp)
        try simp only [Act.put, List.setIfInBounds_toArray, List.set_cons_zero, List.set_cons_succ]
        refine take_d (i := 7) (d := 79) (v := ?rt79) rfl rfl (by kernel_rfl) (by kernel_rfl) (by kernel_rfl) (fun _ _ _ h => h) (Or.inl ⟨by kernel_rfl, ?rt79h⟩) hHeld ?rt79n
        case rt79h => (intro w hSw; (try dsimp only at hSw); go_split_ands; go_simp; (try exact rfl))
        try simp only [Act.put, List.setIfInBounds_toArray, List.set_cons_zero, List.set_cons_succ]
        refine take_d (i := 8) (d := 80) (v := ?rt80) rfl rfl (by kernel_rfl) (by kernel_rfl) (by kernel_rfl) (fun _ _ _ h => h) (Or.inl ⟨by kernel_rfl, ?rt80h⟩) hHeld ?rt80n
        case rt80h => (intro w hSw; (try dsimp only at hSw); go_split_ands; go_simp; (try exact rfl))
        try simp only [Act.put, List.setIfInBounds_toArray, List.set_cons_zero, List.set_cons_succ]
        refine wpAnyH_ready (rs := [5]) (by kernel_rfl) (by simp) ?_
        refine AllReadyH.cons rfl (fun K hK => ?_) AllReadyH.nil
        go_simp
        with_reducible refine (SN.out _).mono ?_
        rintro e w1 ⟨As, cs, rfl, ho, hb⟩
        have HB1 := Lib.hid (HB0.out.trans (hb.mono (by have := ZW0.out; have := LO.out; omega)))
        have ZW1 := Lib.hid (Nat.le_trans ZW0.out hb.size)
        have QB1 := Lib.hid (QB0.out.below hb QB0.out.lt)
        have O1 := Lib.hid (O0.out.below hb)
        have Os1 := Lib.hid ho
        clear ho hb
        refine hK.out _ _ (QB1.out.cell 2) (fun hHeld => ?_)
        clear hK K
        try simp only [Act.put, List.setIfInBounds_toArray, List.set_cons_zero, List.set_cons_succ]
        refine wpAnyH_ready (rs := [6]) (by kernel_rfl) (by simp) ?_
        refine AllReadyH.cons rfl (fun K hK => ?_) AllReadyH.nil
        go_simp
        refine (both_any Au n4 cu zs4 As _ cs (shI (xn : Int)) w1 w1.heap.size O1.out.by O1.out.nil Os1.out.by Os1.out.nil (Nat.le_refl _) (by omega) (by have := LN.out; omega)).mono ?_
        rintro e w2 ⟨At, ct, rfl, ho, hb⟩
        have HB2 := Lib.hid (HB1.out.trans (hb.mono (by have := ZW1.out; have := LO.out; omega)))
        have ZW2 := Lib.hid (Nat.le_trans ZW1.out hb.size)
        have QB2 := Lib.hid (QB1.out.below hb QB1.out.lt)
        have O2 := Lib.hid ho
        clear ho hb
        refine hK.out _ _ (QB2.out.cell 2) (fun hHeld => ?_)
        clear hK K
        try simp only [Act.put, List.setIfInBounds_toArray, List.set_cons_zero, List.set_cons_succ]
        refine wpAnyH_ready (rs := [9]) (by kernel_rfl) (by simp) ?_
        refine AllReadyH.cons rfl (fun K hK => ?_) AllReadyH.nil
        go_simp
        refine (both_any At (n4 + (shI (xn : Int)).length) ct (zs4 ++ shI (xn : Int)) xA xn xc xd w2 w2.heap.size O2.out.by O2.out.nil ((BYX.out.below (HB2.out.mono hB)).more (by have := HB2.out.size; omega)) NX.out (Nat.le_refl _) (by have := LN.out; omega) (by omega)).mono ?_
        rintro e w3 ⟨Av, cv, rfl, ho, hb⟩
        have HB3 := Lib.hid (HB2.out.trans (hb.mono (by have := ZW2.out; have := LO.out; omega)))
        have ZW3 := Lib.hid (Nat.le_trans ZW2.out hb.size)
        have QB3 := Lib.hid (QB2.out.below hb QB2.out.lt)
        have O3 := Lib.hid (ho.down ZW2.out)
        clear ho hb
        refine hK.out _ _ (QB3.out.cell 2) (fun hHeld => ?_)
        clear hK K
        try simp only [Act.put, List.setIfInBounds_toArray, List.set_cons_zero, List.set_cons_succ]
        refine take_d (i := 10) (d := 5) (v := ?rt5) rfl rfl (by kernel_rfl) (by kernel_rfl) (by kernel_rfl) (fun _ _ _ h => h) (Or.inl ⟨by kernel_rfl, ?rt5h⟩) hHeld ?rt5n
        case rt5h => (intro w hSw; (try dsimp only at hSw); go_split_ands; go_simp; (try exact rfl))
        try simp only [Act.put, List.setIfInBounds_toArray, List.set_cons_zero, List.set_cons_succ]
        refine wpAnyH_done (by kernel_rfl) ?_ _
        refine NoPanic.normal ?_
        have xt5 := QB3.out.cell 0
        go_wp2
        go_roundw
        case rel =>
          refine ⟨k + 1, Av, _, cv, _, xt, by omega, by go_num, rfl, rfl, ?_, ?_, O3, HB3, ZW3⟩
          · have := LE.out; have := N4.out; omega
          · refine Lib.hid ?_
            rw [← HZ.out, HE.out, ← Z4'.out]
            simp only [List.append_assoc, List.cons_append, List.nil_append]
        case measure => simp [intOf]; omega
    · obtain rfl : k = n := by omega
      have hz2 := hz.out
      rw [List.drop_of_length_le (by rw [HY.out.len]; omega), entsB, List.append_nil] at hz2
      have HZ := Lib.hid hz2
      have hl := Lib.hid (IO.out.len_eq hz2)
      clear hz hz2
      go_wp2
      go_ret
      exact ⟨A3, c3, by rw [← hl.out]; rfl, by rw [← hl.out, ← HZ.out]; exact IO.out.down (by have := LO.out; omega), IB.out⟩
end Go.Proofs.YtemfnckaehjhcaaDoor
