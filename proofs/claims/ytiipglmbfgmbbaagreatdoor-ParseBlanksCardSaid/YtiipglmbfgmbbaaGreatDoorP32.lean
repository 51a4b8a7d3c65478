/-
  One more value of UPDATE.
-/
import Derived.Test.YtiipglmbfgmbbaaGreatDoorP31
namespace Go.Proofs.YtiipglmbfgmbbaaGreatDoor
open Go.RowKit Go.Shelf
attribute [local go_sem] Oper.semAt_some

set_option maxRecDepth 100000 in
set_option maxHeartbeats 8000000 in
theorem clo117 (w0 : World) (K base q : Nat) (A : Option Addr) (c : Nat) (L : List Tk) (E m o g D b2 b3 : Nat) (ho : o ≤ 16) (w : World) (r : Nat) (s : Sm) (h : Jn 0 w0 K base q A c L E m o g D b2 b3 w r s) :
    Calls Tryz.prog 117 #[.pointer (some ⟨b2, 0, none⟩), .pointer (some ⟨b3, 0, none⟩)] w (Lr (fun n => updS L E o n r s) (Jn 1 w0 K base q A c L E m o g D b2 b3) (Fg K q g w0) L E r) := by
  obtain ⟨⟨x, h⟩, hl⟩ := h
  have hlm : lens s ≤ 300 := by
    obtain ⟨B, n, nc, hs⟩ := h.bx.sx
    have := hs.pt.rd
    have := hs.pt.many
    omega
  have hls : lens s = s.cols.length + s.sets.length + s.items.length := rfl
  have JH := Lib.hid h
  have hKs : K ≤ w.heap.size := Nat.le_trans h.hK h.bx.hDs
  obtain ⟨B0, n0, nc0, hs0⟩ := h.bx.sx
  have NM := name_any w base q c E r o A L _ _ hs0.pt
  have x2 : w.cell? ⟨b2, 0, none⟩ = some (.pointer (some ⟨q, 0, none⟩)) := h.p.cell 0
  cases hn : nameF L E r with
  | error ei =>
    obtain ⟨er, i⟩ := ei
    rw [hn] at NM
    have NH := Lib.hid NM
    clear NM
    go_enter Tryz.func117, Tryz.ntmps117
    go_wp2_with (go_at_call 77; refine NH.out.mono ?_; rintro e w2 hR; obtain ⟨rfl, hF⟩ := Rd.err hR; have F2 := Lib.hid (h.fr.trans (Fg.of (g := g) hF hKs)); clear hR hF)
    exact ⟨rfl, 0, .error (er, i), by show updS L E o 0 r s = _; unfold updS; rw [rb_err (congrArg some hn)], rfl, F2.out⟩
  | ok ur =>
    obtain ⟨u, r1⟩ := ur
    rw [hn] at NM
    have hr1 : r1 = r + 1 := nameF_ge hn
    obtain ⟨T, hT⟩ : ∃ T : ByteArray, (⟨u.toArray⟩ : ByteArray) = T := ⟨_, rfl⟩
    have HT := Lib.hid hT
    have NH : Hid (Calls Tryz.prog 77 #[.pointer (some ⟨q, 0, none⟩)] w fun e w' => e = .returned (.string T) ∧ Jx w0 K w' base q A c L E m r1 o g D b2 b3 s x) := Lib.hid (NM.mono fun e w' hR => by
      obtain ⟨h1, h2, h3⟩ := hR
      exact ⟨by rw [h1, ← hT], h.readP h2 h3⟩)
    clear NM hT hs0 h
    go_enter Tryz.func117, Tryz.ntmps117
    go_upto_region 1 with (go_at_call 77; refine NH.out.mono ?_; rintro e w2 ⟨rfl, hJ⟩; have J2 := Lib.hid hJ; have y2 : w2.cell? ⟨b2, 0, none⟩ = some (.pointer (some ⟨q, 0, none⟩)) := hJ.p.cell 0; clear hJ)
    have AL : Below w2.heap.size w2 (w2.alloc (.cells #[.string ⟨#[61]⟩] 9)) := (Below.refl _ _).alloc (Nat.le_refl _) _
    have J3 := Lib.hid (J2.out.below AL)
    obtain ⟨B3, n3, nc3, hs3⟩ := J3.out.bx.sx
    have hq2 : q < w2.heap.size := by have := J2.out.bx.par; obtain ⟨cq, hq⟩ := this; exact hq.lt
    have WD := words_any [[61]] 1 w2.heap.size (w2.alloc (.cells #[.string ⟨#[61]⟩] 9)) base q c E r1 o A L _ _ hs3.pt rfl (by omega) ⟨by simp, fun i hi => by
      obtain rfl : i = 0 := by simp at hi; omega
      exact (Blk.new w2 9 #[.string ⟨#[61]⟩]).cell 0⟩ (by omega)
    have hK2 : K ≤ (w2.alloc (.cells #[.string ⟨#[61]⟩] 9)).heap.size := Nat.le_trans J3.out.hK J3.out.bx.hDs
    cases hw : wordsF L E r1 [[61]] with
    | error ei =>
      obtain ⟨er, i⟩ := ei
      rw [hw] at WD
      have WH := Lib.hid WD
      clear WD
      have hw2 : rwd L E r1 [[61]] = some (.error (er, i)) := by unfold rwd; rw [hw]
      go_wp2_with (go_at_call 49; refine WH.out.mono ?_; rintro e w4 hR; obtain ⟨rfl, hF⟩ := Rd.err hR; have F4 := Lib.hid (J3.out.fr.trans (Fg.of (g := g) hF hK2)); clear hR hF)
      exact ⟨rfl, 0, .error (er, i), by show updS L E o 0 r s = _; unfold updS; rw [rb_ok (congrArg some hn), rb_err hw2], rfl, F4.out⟩
    | ok r2 =>
      rw [hw] at WD
      have hr2 : r1 ≤ r2 := wordsF_ge L E _ _ _ hw
      have hw2 : rwd L E r1 [[61]] = some (.ok ((), r2)) := by unfold rwd; rw [hw]
      have WH : Hid (Calls Tryz.prog 49 #[.pointer (some ⟨q, 0, none⟩), .slice (some ⟨w2.heap.size, 0, none⟩) 1 1] (w2.alloc (.cells #[.string ⟨#[61]⟩] 9)) fun e w' => e = .returned (.tuple #[]) ∧ Jx w0 K w' base q A c L E m r2 o g D b2 b3 s x) := Lib.hid (WD.mono fun e w' hR => by
        obtain ⟨h1, h2, h3⟩ := hR
        exact ⟨h1, J3.out.readP h2 h3⟩)
      clear WD hs3
      go_upto_region 2 with (go_at_call 49; refine WH.out.mono ?_; rintro e w4 ⟨rfl, hJ⟩; have JH4 := Lib.hid hJ; clear hJ)
      have HC := Lib.hid (fun W (hJ : Jx w0 K W base q A c L E m r2 o g D b2 b3 s x) => hJ.expr ho)
      have JH4d := Lib.hid (JH4.out.below (w' := w4.drew) ⟨rfl, rfl, rfl, Nat.le_refl _, fun _ _ => rfl⟩)
      refine wp_region_held_drew (S := fun w' => w'.cell? ⟨b3, 0, none⟩ = some (.pointer (some ⟨g, 0, none⟩)) ∧ w'.cell? ⟨b2, 0, none⟩ = some (.pointer (some ⟨q, 0, none⟩))) (by kernel_rfl) JH4d.out.w2 (fun hHeld => ?_)
      generalize w4.drew = w5 at *
      refine take_d (i := 0) (d := 12) (v := ?a31_12) rfl rfl (by kernel_rfl) (by kernel_rfl) (by kernel_rfl) (fun _ _ _ h => h) (Or.inl ⟨by kernel_rfl, ?a31_12h⟩) hHeld ?a31_12n
      case a31_12h => (intro w hSw; (try dsimp only at hSw); go_split_ands; go_simp; (try exact rfl))
      try simp only [Act.put, List.setIfInBounds_toArray, List.set_cons_zero, List.set_cons_succ]
      refine take_d (i := 1) (d := 13) (v := ?a31_13) rfl rfl (by kernel_rfl) (by kernel_rfl) (by kernel_rfl) (fun _ _ _ h => h) (Or.inl ⟨by kernel_rfl, ?a31_13h⟩) hHeld ?a31_13n
      case a31_13h => (intro w hSw; (try dsimp only at hSw); go_split_ands; go_simp; (try exact rfl))
      try simp only [Act.put, List.setIfInBounds_toArray, List.set_cons_zero, List.set_cons_succ]
      refine take_d (i := 2) (d := 14) (v := ?a31_14) rfl rfl (by kernel_rfl) (by kernel_rfl) (by kernel_rfl) (fun _ _ _ h => h) (Or.inl ⟨by kernel_rfl, ?a31_14h⟩) hHeld ?a31_14n
      case a31_14h => (intro w hSw; (try dsimp only at hSw); go_split_ands; go_simp; (try exact rfl))
      try simp only [Act.put, List.setIfInBounds_toArray, List.set_cons_zero, List.set_cons_succ]
      refine take_d (i := 3) (d := 15) (v := ?a31_15) rfl rfl (by kernel_rfl) (by kernel_rfl) (by kernel_rfl) (fun _ _ _ h => h) (Or.inl ⟨by kernel_rfl, ?a31_15h⟩) hHeld ?a31_15n
      case a31_15h => (intro w hSw; (try dsimp only at hSw); go_split_ands; go_simp; (try exact rfl))
      try simp only [Act.put, List.setIfInBounds_toArray, List.set_cons_zero, List.set_cons_succ]
      refine take_d (i := 5) (d := 17) (v := ?a31_17) rfl rfl (by kernel_rfl) (by kernel_rfl) (by kernel_rfl) (fun _ _ _ h => h) (Or.inl ⟨by kernel_rfl, ?a31_17h⟩) hHeld ?a31_17n
      case a31_17h => (intro w hSw; (try dsimp only at hSw); go_split_ands; go_simp; (try exact rfl))
      try simp only [Act.put, List.setIfInBounds_toArray, List.set_cons_zero, List.set_cons_succ]
      refine take_d (i := 6) (d := 18) (v := ?a31_18) rfl rfl (by kernel_rfl) (by kernel_rfl) (by kernel_rfl) (fun _ _ _ h => h) (Or.inl ⟨by kernel_rfl, ?a31_18h⟩) hHeld ?a31_18n
      case a31_18h => (intro w hSw; (try dsimp only at hSw); go_split_ands; go_simp; (try exact rfl))
      try simp only [Act.put, List.setIfInBounds_toArray, List.set_cons_zero, List.set_cons_succ]
      refine wpAnyH_ready (rs := [4, 7]) (by kernel_rfl) (by simp) ?_
      refine AllReadyH.cons rfl (fun K' hK => ?_) (AllReadyH.cons rfl (fun K' hK => ?_) AllReadyH.nil)
      · skip
        have c6_32 : w5.cell? ⟨g, 4, none⟩ = some (.slice x.a2 s.sets.length x.c2) := JH4d.out.bx.blk.cell 4
        go_simp
        clear c6_32
        refine hK.out _ _ JH4d.out.w2 (fun hHeld => ?_)
        clear hK K'
        try simp only [Act.put, List.setIfInBounds_toArray, List.set_cons_zero, List.set_cons_succ]
        refine wpAnyH_ready (rs := [7]) (by kernel_rfl) (by simp) ?_
        refine AllReadyH.cons rfl (fun K' hK => ?_) AllReadyH.nil
        go_simp
        refine (HC.out w5 JH4d.out).mono ?_
        rintro e w6 ⟨nC, xC, hx, hy⟩
        have XC := Lib.hid hx
        clear hx
        rcases xC with ⟨er, i⟩ | ⟨nsC, rC⟩
        · obtain ⟨rfl, hF⟩ := hy; exact ⟨rfl, nC, .error (er, i), by show updS L E o nC r s = _; unfold updS; rw [rb_ok (congrArg some hn), rb_ok hw2]; rw [rb_err XC.out], rfl, hF⟩
        obtain ⟨BC, ncC, rfl, hrr, hN, hJ⟩ := hy
        have J6 := Lib.hid hJ
        have N6 := Lib.hid hN
        clear hJ hN
        refine hK.out _ _ J6.out.w2 (fun hHeld => ?_)
        clear hK K'
        try simp only [Act.put, List.setIfInBounds_toArray, List.set_cons_zero, List.set_cons_succ]
        refine take_d (i := 8) (d := 20) (v := ?u34_20) rfl rfl (by kernel_rfl) (by kernel_rfl) (by kernel_rfl) (fun _ _ _ h => h) (Or.inl ⟨by kernel_rfl, ?u34_20h⟩) hHeld ?u34_20n
        case u34_20h => (intro w hSw; (try dsimp only at hSw); go_split_ands; go_simp; (try exact rfl))
        try simp only [Act.put, List.setIfInBounds_toArray, List.set_cons_zero, List.set_cons_succ]
        refine wpAnyH_ready (rs := [9]) (by kernel_rfl) (by simp) ?_
        refine AllReadyH.cons rfl (fun K' hK => ?_) AllReadyH.nil
        go_simp
        have hbb : Below w6.heap.size w6 (w6.alloc (.cells #[.string T, .slice BC nsC.length ncC] 65)) := (Below.refl _ _).alloc (Nat.le_refl _) _
        have J7 := Lib.hid (J6.out.below hbb)
        have N7 := Lib.hid (N6.out.kt (Kt.below hbb))
        have P7 : Hid (Blk (w6.alloc (.cells #[.string T, .slice BC nsC.length ncC] 65)) w6.heap.size 65 #[.string T, .slice BC nsC.length ncC]) := Lib.hid (Blk.new w6 65 _)
        refine hK.out _ _ J7.out.w2 (fun hHeld => ?_)
        clear hK K' hbb
        generalize (w6.alloc (.cells #[.string T, .slice BC nsC.length ncC] 65)) = w7 at *
        generalize w6.heap.size = p7 at *
        try simp only [Act.put, List.setIfInBounds_toArray, List.set_cons_zero, List.set_cons_succ]
        refine wpAnyH_ready (rs := [10]) (by kernel_rfl) (by simp) ?_
        refine AllReadyH.cons rfl (fun K' hK => ?_) AllReadyH.nil
        obtain ⟨vs, hv, hR⟩ := J7.out.bx.own.sets
        refine step_append_any rfl (.tmp 16) (.tmp 21) 30 65 rfl (by kernel_rfl) (.agg #[.string ⟨#[]⟩, .slice none 0 0]) 2 40 (by kernel_rfl) (by kernel_rfl) (by decide) (by decide) D x.a2 s.sets.length x.c2 vs rfl hv p7 [.string T, .slice BC nsC.length ncC] rfl rfl P7.out (by simp [Value.oneCell']) (by omega) J7.out.bx.hDs ?_
        intro A9 c9 w9 ho hg9
        obtain ⟨J9, hw9, c39, f39⟩ := J7.out.sput (y := u) hv hR N7.out hg9 (by rw [← HT.out] at ho; exact ho)
        refine hK.out _ _ hw9 (fun hHeld => ?_)
        clear hK K'
        try simp only [Act.put, List.setIfInBounds_toArray, List.set_cons_zero, List.set_cons_succ]
        refine take_d (i := 11) (d := 23) (v := ?z36_23) rfl rfl (by kernel_rfl) (by kernel_rfl) (by kernel_rfl) (fun _ _ _ h => h) (Or.inl ⟨by kernel_rfl, ?z36_23h⟩) hHeld ?z36_23n
        case z36_23h => (intro w hSw; (try dsimp only at hSw); go_split_ands; go_simp; (try exact rfl))
        try simp only [Act.put, List.setIfInBounds_toArray, List.set_cons_zero, List.set_cons_succ]
        refine take_d (i := 12) (d := 24) (v := ?z36_24) rfl rfl (by kernel_rfl) (by kernel_rfl) (by kernel_rfl) (fun _ _ _ h => h) (Or.inl ⟨by kernel_rfl, ?z36_24h⟩) hHeld ?z36_24n
        case z36_24h => (intro w hSw; (try dsimp only at hSw); go_split_ands; go_simp; (try exact rfl))
        try simp only [Act.put, List.setIfInBounds_toArray, List.set_cons_zero, List.set_cons_succ]
        refine wpAnyH_ready (rs := [13]) (by kernel_rfl) (by simp) ?_
        refine AllReadyH.cons rfl (fun K' hK => ?_) AllReadyH.nil
        go_simp
        refine hK.out _ _ J9.w2 (fun hHeld => ?_)
        clear hK K'
        try simp only [Act.put, List.setIfInBounds_toArray, List.set_cons_zero, List.set_cons_succ]
        refine wpAnyH_done (by kernel_rfl) ?_ _
        clear ho hg9 hw9 c39 f39
        generalize w9.setCell ⟨g, 4, none⟩ _ = w10 at *
        go_wp2_with fail
        refine bodyPost_end (results_none rfl _ _ _) rfl ?_
        exact ⟨nC, .ok (_, rC), by show updS L E o nC r s = _; unfold updS; rw [rb_ok (congrArg some hn), rb_ok hw2, rb_ok XC.out]; rfl, rfl, by omega, ⟨_, J9⟩, by simp [lens] at hl ⊢; omega⟩
      · skip
        go_simp
        refine (HC.out w5 JH4d.out).mono ?_
        rintro e w6 ⟨nC, xC, hx, hy⟩
        have XC := Lib.hid hx
        clear hx
        rcases xC with ⟨er, i⟩ | ⟨nsC, rC⟩
        · obtain ⟨rfl, hF⟩ := hy; exact ⟨rfl, nC, .error (er, i), by show updS L E o nC r s = _; unfold updS; rw [rb_ok (congrArg some hn), rb_ok hw2]; rw [rb_err XC.out], rfl, hF⟩
        obtain ⟨BC, ncC, rfl, hrr, hN, hJ⟩ := hy
        have J6 := Lib.hid hJ
        have N6 := Lib.hid hN
        clear hJ hN
        refine hK.out _ _ J6.out.w2 (fun hHeld => ?_)
        clear hK K'
        try simp only [Act.put, List.setIfInBounds_toArray, List.set_cons_zero, List.set_cons_succ]
        refine take_d (i := 8) (d := 20) (v := ?u38_20) rfl rfl (by kernel_rfl) (by kernel_rfl) (by kernel_rfl) (fun _ _ _ h => h) (Or.inl ⟨by kernel_rfl, ?u38_20h⟩) hHeld ?u38_20n
        case u38_20h => (intro w hSw; (try dsimp only at hSw); go_split_ands; go_simp; (try exact rfl))
        try simp only [Act.put, List.setIfInBounds_toArray, List.set_cons_zero, List.set_cons_succ]
        refine wpAnyH_ready (rs := [4, 9]) (by kernel_rfl) (by simp) ?_
        refine AllReadyH.cons rfl (fun K' hK => ?_) (AllReadyH.cons rfl (fun K' hK => ?_) AllReadyH.nil)
        · skip
          have c6_39 : w6.cell? ⟨g, 4, none⟩ = some (.slice x.a2 s.sets.length x.c2) := J6.out.bx.blk.cell 4
          go_simp
          clear c6_39
          refine hK.out _ _ J6.out.w2 (fun hHeld => ?_)
          clear hK K'
          try simp only [Act.put, List.setIfInBounds_toArray, List.set_cons_zero, List.set_cons_succ]
          refine wpAnyH_ready (rs := [9]) (by kernel_rfl) (by simp) ?_
          refine AllReadyH.cons rfl (fun K' hK => ?_) AllReadyH.nil
          go_simp
          have hbb : Below w6.heap.size w6 (w6.alloc (.cells #[.string T, .slice BC nsC.length ncC] 65)) := (Below.refl _ _).alloc (Nat.le_refl _) _
          have J7 := Lib.hid (J6.out.below hbb)
          have N7 := Lib.hid (N6.out.kt (Kt.below hbb))
          have P7 : Hid (Blk (w6.alloc (.cells #[.string T, .slice BC nsC.length ncC] 65)) w6.heap.size 65 #[.string T, .slice BC nsC.length ncC]) := Lib.hid (Blk.new w6 65 _)
          refine hK.out _ _ J7.out.w2 (fun hHeld => ?_)
          clear hK K' hbb
          generalize (w6.alloc (.cells #[.string T, .slice BC nsC.length ncC] 65)) = w7 at *
          generalize w6.heap.size = p7 at *
          try simp only [Act.put, List.setIfInBounds_toArray, List.set_cons_zero, List.set_cons_succ]
          refine wpAnyH_ready (rs := [10]) (by kernel_rfl) (by simp) ?_
          refine AllReadyH.cons rfl (fun K' hK => ?_) AllReadyH.nil
          obtain ⟨vs, hv, hR⟩ := J7.out.bx.own.sets
          refine step_append_any rfl (.tmp 16) (.tmp 21) 30 65 rfl (by kernel_rfl) (.agg #[.string ⟨#[]⟩, .slice none 0 0]) 2 40 (by kernel_rfl) (by kernel_rfl) (by decide) (by decide) D x.a2 s.sets.length x.c2 vs rfl hv p7 [.string T, .slice BC nsC.length ncC] rfl rfl P7.out (by simp [Value.oneCell']) (by omega) J7.out.bx.hDs ?_
          intro A9 c9 w9 ho hg9
          obtain ⟨J9, hw9, c39, f39⟩ := J7.out.sput (y := u) hv hR N7.out hg9 (by rw [← HT.out] at ho; exact ho)
          refine hK.out _ _ hw9 (fun hHeld => ?_)
          clear hK K'
          try simp only [Act.put, List.setIfInBounds_toArray, List.set_cons_zero, List.set_cons_succ]
          refine take_d (i := 11) (d := 23) (v := ?z41_23) rfl rfl (by kernel_rfl) (by kernel_rfl) (by kernel_rfl) (fun _ _ _ h => h) (Or.inl ⟨by kernel_rfl, ?z41_23h⟩) hHeld ?z41_23n
          case z41_23h => (intro w hSw; (try dsimp only at hSw); go_split_ands; go_simp; (try exact rfl))
          try simp only [Act.put, List.setIfInBounds_toArray, List.set_cons_zero, List.set_cons_succ]
          refine take_d (i := 12) (d := 24) (v := ?z41_24) rfl rfl (by kernel_rfl) (by kernel_rfl) (by kernel_rfl) (fun _ _ _ h => h) (Or.inl ⟨by kernel_rfl, ?z41_24h⟩) hHeld ?z41_24n
          case z41_24h => (intro w hSw; (try dsimp only at hSw); go_split_ands; go_simp; (try exact rfl))
          try simp only [Act.put, List.setIfInBounds_toArray, List.set_cons_zero, List.set_cons_succ]
          refine wpAnyH_ready (rs := [13]) (by kernel_rfl) (by simp) ?_
          refine AllReadyH.cons rfl (fun K' hK => ?_) AllReadyH.nil
          go_simp
          refine hK.out _ _ J9.w2 (fun hHeld => ?_)
          clear hK K'
          try simp only [Act.put, List.setIfInBounds_toArray, List.set_cons_zero, List.set_cons_succ]
          refine wpAnyH_done (by kernel_rfl) ?_ _
          clear ho hg9 hw9 c39 f39
          generalize w9.setCell ⟨g, 4, none⟩ _ = w10 at *
          go_wp2_with fail
          refine bodyPost_end (results_none rfl _ _ _) rfl ?_
          exact ⟨nC, .ok (_, rC), by show updS L E o nC r s = _; unfold updS; rw [rb_ok (congrArg some hn), rb_ok hw2, rb_ok XC.out]; rfl, rfl, by omega, ⟨_, J9⟩, by simp [lens] at hl ⊢; omega⟩
        · skip
          go_simp
          have hbb : Below w6.heap.size w6 (w6.alloc (.cells #[.string T, .slice BC nsC.length ncC] 65)) := (Below.refl _ _).alloc (Nat.le_refl _) _
          have J7 := Lib.hid (J6.out.below hbb)
          have N7 := Lib.hid (N6.out.kt (Kt.below hbb))
          have P7 : Hid (Blk (w6.alloc (.cells #[.string T, .slice BC nsC.length ncC] 65)) w6.heap.size 65 #[.string T, .slice BC nsC.length ncC]) := Lib.hid (Blk.new w6 65 _)
          refine hK.out _ _ J7.out.w2 (fun hHeld => ?_)
          clear hK K' hbb
          generalize (w6.alloc (.cells #[.string T, .slice BC nsC.length ncC] 65)) = w7 at *
          generalize w6.heap.size = p7 at *
          try simp only [Act.put, List.setIfInBounds_toArray, List.set_cons_zero, List.set_cons_succ]
          refine wpAnyH_ready (rs := [4]) (by kernel_rfl) (by simp) ?_
          refine AllReadyH.cons rfl (fun K' hK => ?_) AllReadyH.nil
          have c6_43 : w7.cell? ⟨g, 4, none⟩ = some (.slice x.a2 s.sets.length x.c2) := J7.out.bx.blk.cell 4
          go_simp
          clear c6_43
          refine hK.out _ _ J7.out.w2 (fun hHeld => ?_)
          clear hK K'
          try simp only [Act.put, List.setIfInBounds_toArray, List.set_cons_zero, List.set_cons_succ]
          refine wpAnyH_ready (rs := [10]) (by kernel_rfl) (by simp) ?_
          refine AllReadyH.cons rfl (fun K' hK => ?_) AllReadyH.nil
          obtain ⟨vs, hv, hR⟩ := J7.out.bx.own.sets
          refine step_append_any rfl (.tmp 16) (.tmp 21) 30 65 rfl (by kernel_rfl) (.agg #[.string ⟨#[]⟩, .slice none 0 0]) 2 40 (by kernel_rfl) (by kernel_rfl) (by decide) (by decide) D x.a2 s.sets.length x.c2 vs rfl hv p7 [.string T, .slice BC nsC.length ncC] rfl rfl P7.out (by simp [Value.oneCell']) (by omega) J7.out.bx.hDs ?_
          intro A9 c9 w9 ho hg9
          obtain ⟨J9, hw9, c39, f39⟩ := J7.out.sput (y := u) hv hR N7.out hg9 (by rw [← HT.out] at ho; exact ho)
          refine hK.out _ _ hw9 (fun hHeld => ?_)
          clear hK K'
          try simp only [Act.put, List.setIfInBounds_toArray, List.set_cons_zero, List.set_cons_succ]
          refine take_d (i := 11) (d := 23) (v := ?z44_23) rfl rfl (by kernel_rfl) (by kernel_rfl) (by kernel_rfl) (fun _ _ _ h => h) (Or.inl ⟨by kernel_rfl, ?z44_23h⟩) hHeld ?z44_23n
          case z44_23h => (intro w hSw; (try dsimp only at hSw); go_split_ands; go_simp; (try exact rfl))
          try simp only [Act.put, List.setIfInBounds_toArray, List.set_cons_zero, List.set_cons_succ]
          refine take_d (i := 12) (d := 24) (v := ?z44_24) rfl rfl (by kernel_rfl) (by kernel_rfl) (by kernel_rfl) (fun _ _ _ h => h) (Or.inl ⟨by kernel_rfl, ?z44_24h⟩) hHeld ?z44_24n
          case z44_24h => (intro w hSw; (try dsimp only at hSw); go_split_ands; go_simp; (try exact rfl))
          try simp only [Act.put, List.setIfInBounds_toArray, List.set_cons_zero, List.set_cons_succ]
          refine wpAnyH_ready (rs := [13]) (by kernel_rfl) (by simp) ?_
          refine AllReadyH.cons rfl (fun K' hK => ?_) AllReadyH.nil
          go_simp
          refine hK.out _ _ J9.w2 (fun hHeld => ?_)
          clear hK K'
          try simp only [Act.put, List.setIfInBounds_toArray, List.set_cons_zero, List.set_cons_succ]
          refine wpAnyH_done (by kernel_rfl) ?_ _
          clear ho hg9 hw9 c39 f39
          generalize w9.setCell ⟨g, 4, none⟩ _ = w10 at *
          go_wp2_with fail
          refine bodyPost_end (results_none rfl _ _ _) rfl ?_
          exact ⟨nC, .ok (_, rC), by show updS L E o nC r s = _; unfold updS; rw [rb_ok (congrArg some hn), rb_ok hw2, rb_ok XC.out]; rfl, rfl, by omega, ⟨_, J9⟩, by simp [lens] at hl ⊢; omega⟩
end Go.Proofs.YtiipglmbfgmbbaaGreatDoor
