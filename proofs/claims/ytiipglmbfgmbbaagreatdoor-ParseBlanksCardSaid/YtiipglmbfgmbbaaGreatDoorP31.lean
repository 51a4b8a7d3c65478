/-
  One more value of INSERT.
-/
import Derived.Test.YtiipglmbfgmbbaaGreatDoorP30
namespace Go.Proofs.YtiipglmbfgmbbaaGreatDoor
open Go.RowKit Go.Shelf
attribute [local go_sem] Oper.semAt_some

/-- An expression, read beside the statement. -/
theorem Jx.expr {w0 W : World} {K base q c E m r o g D b2 b3 : Nat} {A : Option Addr} {L : List Tk} {s : Sm} {x : Cx} (ho : o ≤ 16) (hJ : Jx w0 K W base q A c L E m r o g D b2 b3 s x) :
    Calls Tryz.prog 116 #[.pointer (some ⟨q, 0, none⟩)] W fun e w' => ∃ n y, exN L E n r o = some y ∧ match y with
      | .ok (ns, r') => ∃ B nc, e = .returned (.agg #[.slice B ns.length nc]) ∧ r ≤ r' ∧ Nds w' D B ns.length nc ns ∧ Jx w0 K w' base q A c L E m r' o g D b2 b3 s x
      | .error (er, i) => e = .panicked [{ v := .iface 26 (.agg #[.int .i64 er, .int .i64 ((tokAt L E i).at_ : Int)]), recovered := false }] ∧ Fg K q g w0 w' := by
  obtain ⟨B, n, nc, hs⟩ := hJ.bx.sx
  refine (expr_any W base q A c L E m r o B n nc hs ho).mono ?_
  intro e w' hx
  obtain ⟨n, y, hx, hF, hy⟩ := hx.rows
  rcases y with ⟨er, i⟩ | ⟨ns, r'⟩
  · exact ⟨n, .error (er, i), hx, hy, hJ.fr.trans (Fg.of hF (Nat.le_trans hJ.hK hJ.bx.hDs))⟩
  · obtain ⟨B', nc', B2, n2, nc2, he, hr, hN, hS⟩ := hy
    exact ⟨n, .ok (ns, r'), hx, B', nc', he, hr, owns_low hN hJ.bx.hDs, hJ.read ⟨B2, n2, nc2, hS⟩ hF⟩
set_option maxRecDepth 100000 in
set_option maxHeartbeats 8000000 in
theorem clo115 (w0 : World) (K base q : Nat) (A : Option Addr) (c : Nat) (L : List Tk) (E m o g D b2 b3 : Nat) (ho : o ≤ 16) (w : World) (r : Nat) (s : Sm) (h : Jn 0 w0 K base q A c L E m o g D b2 b3 w r s) :
    Calls Tryz.prog 115 #[.pointer (some ⟨b3, 0, none⟩), .pointer (some ⟨b2, 0, none⟩)] w (Lr (fun n => insS L E o n r s) (Jn 1 w0 K base q A c L E m o g D b2 b3) (Fg K q g w0) L E r) := by
  obtain ⟨⟨x, h⟩, hl⟩ := h
  have hlm : lens s ≤ 300 := by
    obtain ⟨B, n, nc, hs⟩ := h.bx.sx
    have := hs.pt.rd
    have := hs.pt.many
    omega
  have hls : lens s = s.cols.length + s.sets.length + s.items.length := rfl
  have JH := Lib.hid h
  have hKs : K ≤ w.heap.size := Nat.le_trans h.hK h.bx.hDs
  have HC := Lib.hid (fun W (hJ : Jx w0 K W base q A c L E m r o g D b2 b3 s x) => hJ.expr ho)
  have JHd := Lib.hid (JH.out.below (w' := w.drew) ⟨rfl, rfl, rfl, Nat.le_refl _, fun _ _ => rfl⟩)
  clear h
  go_enter Tryz.func115, Tryz.ntmps115
  go_upto_region 0 with fail
  refine wp_region_held_drew (S := fun w' => w'.cell? ⟨b3, 0, none⟩ = some (.pointer (some ⟨g, 0, none⟩)) ∧ w'.cell? ⟨b2, 0, none⟩ = some (.pointer (some ⟨q, 0, none⟩))) (by kernel_rfl) JHd.out.w2 (fun hHeld => ?_)
  generalize w.drew = w2 at *
  refine take_d (i := 0) (d := 2) (v := ?a17_2) rfl rfl (by kernel_rfl) (by kernel_rfl) (by kernel_rfl) (fun _ _ _ h => h) (Or.inl ⟨by kernel_rfl, ?a17_2h⟩) hHeld ?a17_2n
  case a17_2h => (intro w hSw; (try dsimp only at hSw); go_split_ands; go_simp; (try exact rfl))
  try simp only [Act.put, List.setIfInBounds_toArray, List.set_cons_zero, List.set_cons_succ]
  refine take_d (i := 1) (d := 3) (v := ?a17_3) rfl rfl (by kernel_rfl) (by kernel_rfl) (by kernel_rfl) (fun _ _ _ h => h) (Or.inl ⟨by kernel_rfl, ?a17_3h⟩) hHeld ?a17_3n
  case a17_3h => (intro w hSw; (try dsimp only at hSw); go_split_ands; go_simp; (try exact rfl))
  try simp only [Act.put, List.setIfInBounds_toArray, List.set_cons_zero, List.set_cons_succ]
  refine take_d (i := 2) (d := 4) (v := ?a17_4) rfl rfl (by kernel_rfl) (by kernel_rfl) (by kernel_rfl) (fun _ _ _ h => h) (Or.inl ⟨by kernel_rfl, ?a17_4h⟩) hHeld ?a17_4n
  case a17_4h => (intro w hSw; (try dsimp only at hSw); go_split_ands; go_simp; (try exact rfl))
  try simp only [Act.put, List.setIfInBounds_toArray, List.set_cons_zero, List.set_cons_succ]
  refine take_d (i := 3) (d := 5) (v := ?a17_5) rfl rfl (by kernel_rfl) (by kernel_rfl) (by kernel_rfl) (fun _ _ _ h => h) (Or.inl ⟨by kernel_rfl, ?a17_5h⟩) hHeld ?a17_5n
  case a17_5h => (intro w hSw; (try dsimp only at hSw); go_split_ands; go_simp; (try exact rfl))
  try simp only [Act.put, List.setIfInBounds_toArray, List.set_cons_zero, List.set_cons_succ]
  refine take_d (i := 5) (d := 7) (v := ?a17_7) rfl rfl (by kernel_rfl) (by kernel_rfl) (by kernel_rfl) (fun _ _ _ h => h) (Or.inl ⟨by kernel_rfl, ?a17_7h⟩) hHeld ?a17_7n
  case a17_7h => (intro w hSw; (try dsimp only at hSw); go_split_ands; go_simp; (try exact rfl))
  try simp only [Act.put, List.setIfInBounds_toArray, List.set_cons_zero, List.set_cons_succ]
  refine wpAnyH_ready (rs := [4, 6]) (by kernel_rfl) (by simp) ?_
  refine AllReadyH.cons rfl (fun K' hK => ?_) (AllReadyH.cons rfl (fun K' hK => ?_) AllReadyH.nil)
  · skip
    have c6_18 : w2.cell? ⟨g, 4, none⟩ = some (.slice x.a2 s.sets.length x.c2) := JHd.out.bx.blk.cell 4
    go_simp
    clear c6_18
    refine hK.out _ _ JHd.out.w2 (fun hHeld => ?_)
    clear hK K'
    try simp only [Act.put, List.setIfInBounds_toArray, List.set_cons_zero, List.set_cons_succ]
    refine wpAnyH_ready (rs := [6]) (by kernel_rfl) (by simp) ?_
    refine AllReadyH.cons rfl (fun K' hK => ?_) AllReadyH.nil
    go_simp
    refine (HC.out w2 JHd.out).mono ?_
    rintro e w3 ⟨nC, xC, hx, hy⟩
    have XC := Lib.hid hx
    clear hx
    rcases xC with ⟨er, i⟩ | ⟨nsC, rC⟩
    · obtain ⟨rfl, hF⟩ := hy; exact ⟨rfl, nC, .error (er, i), by show insS L E o nC r s = _; unfold insS; rw [rb_err XC.out], rfl, hF⟩
    obtain ⟨BC, ncC, rfl, hrr, hN, hJ⟩ := hy
    have J3 := Lib.hid hJ
    have N3 := Lib.hid hN
    clear hJ hN
    refine hK.out _ _ J3.out.w2 (fun hHeld => ?_)
    clear hK K'
    try simp only [Act.put, List.setIfInBounds_toArray, List.set_cons_zero, List.set_cons_succ]
    refine take_d (i := 7) (d := 9) (v := ?u20_9) rfl rfl (by kernel_rfl) (by kernel_rfl) (by kernel_rfl) (fun _ _ _ h => h) (Or.inl ⟨by kernel_rfl, ?u20_9h⟩) hHeld ?u20_9n
    case u20_9h => (intro w hSw; (try dsimp only at hSw); go_split_ands; go_simp; (try exact rfl))
    try simp only [Act.put, List.setIfInBounds_toArray, List.set_cons_zero, List.set_cons_succ]
    refine wpAnyH_ready (rs := [8]) (by kernel_rfl) (by simp) ?_
    refine AllReadyH.cons rfl (fun K' hK => ?_) AllReadyH.nil
    go_simp
    have hbb : Below w3.heap.size w3 (w3.alloc (.cells #[.string ⟨#[]⟩, .slice BC nsC.length ncC] 65)) := (Below.refl _ _).alloc (Nat.le_refl _) _
    have J4 := Lib.hid (J3.out.below hbb)
    have N4 := Lib.hid (N3.out.kt (Kt.below hbb))
    have P7 : Hid (Blk (w3.alloc (.cells #[.string ⟨#[]⟩, .slice BC nsC.length ncC] 65)) w3.heap.size 65 #[.string ⟨#[]⟩, .slice BC nsC.length ncC]) := Lib.hid (Blk.new w3 65 _)
    refine hK.out _ _ J4.out.w2 (fun hHeld => ?_)
    clear hK K' hbb
    generalize (w3.alloc (.cells #[.string ⟨#[]⟩, .slice BC nsC.length ncC] 65)) = w4 at *
    generalize w3.heap.size = p7 at *
    try simp only [Act.put, List.setIfInBounds_toArray, List.set_cons_zero, List.set_cons_succ]
    refine wpAnyH_ready (rs := [9]) (by kernel_rfl) (by simp) ?_
    refine AllReadyH.cons rfl (fun K' hK => ?_) AllReadyH.nil
    obtain ⟨vs, hv, hR⟩ := J4.out.bx.own.sets
    refine step_append_any rfl (.tmp 6) (.tmp 10) 30 65 rfl (by kernel_rfl) (.agg #[.string ⟨#[]⟩, .slice none 0 0]) 2 40 (by kernel_rfl) (by kernel_rfl) (by decide) (by decide) D x.a2 s.sets.length x.c2 vs rfl hv p7 [.string ⟨#[]⟩, .slice BC nsC.length ncC] rfl rfl P7.out (by simp [Value.oneCell']) (by omega) J4.out.bx.hDs ?_
    intro A9 c9 w9 ho hg9
    obtain ⟨J9, hw9, c39, f39⟩ := J4.out.sput (y := []) hv hR N4.out hg9 ho
    refine hK.out _ _ hw9 (fun hHeld => ?_)
    clear hK K'
    try simp only [Act.put, List.setIfInBounds_toArray, List.set_cons_zero, List.set_cons_succ]
    refine take_d (i := 10) (d := 12) (v := ?z22_12) rfl rfl (by kernel_rfl) (by kernel_rfl) (by kernel_rfl) (fun _ _ _ h => h) (Or.inl ⟨by kernel_rfl, ?z22_12h⟩) hHeld ?z22_12n
    case z22_12h => (intro w hSw; (try dsimp only at hSw); go_split_ands; go_simp; (try exact rfl))
    try simp only [Act.put, List.setIfInBounds_toArray, List.set_cons_zero, List.set_cons_succ]
    refine take_d (i := 11) (d := 13) (v := ?z22_13) rfl rfl (by kernel_rfl) (by kernel_rfl) (by kernel_rfl) (fun _ _ _ h => h) (Or.inl ⟨by kernel_rfl, ?z22_13h⟩) hHeld ?z22_13n
    case z22_13h => (intro w hSw; (try dsimp only at hSw); go_split_ands; go_simp; (try exact rfl))
    try simp only [Act.put, List.setIfInBounds_toArray, List.set_cons_zero, List.set_cons_succ]
    refine wpAnyH_ready (rs := [12]) (by kernel_rfl) (by simp) ?_
    refine AllReadyH.cons rfl (fun K' hK => ?_) AllReadyH.nil
    go_simp
    refine hK.out _ _ J9.w2 (fun hHeld => ?_)
    clear hK K'
    try simp only [Act.put, List.setIfInBounds_toArray, List.set_cons_zero, List.set_cons_succ]
    refine wpAnyH_done (by kernel_rfl) ?_ _
    clear ho hg9 hw9 c39 f39
    generalize w9.setCell ⟨g, 4, none⟩ _ = w10 at *
    go_wp2_with fail
    refine bodyPost_end (results_none rfl _ _ _) rfl ?_
    exact ⟨nC, .ok (_, rC), by show insS L E o nC r s = _; unfold insS; rw [rb_ok XC.out]; rfl, rfl, hrr, ⟨_, J9⟩, by simp [lens] at hl ⊢; omega⟩
  · skip
    go_simp
    refine (HC.out w2 JHd.out).mono ?_
    rintro e w3 ⟨nC, xC, hx, hy⟩
    have XC := Lib.hid hx
    clear hx
    rcases xC with ⟨er, i⟩ | ⟨nsC, rC⟩
    · obtain ⟨rfl, hF⟩ := hy; exact ⟨rfl, nC, .error (er, i), by show insS L E o nC r s = _; unfold insS; rw [rb_err XC.out], rfl, hF⟩
    obtain ⟨BC, ncC, rfl, hrr, hN, hJ⟩ := hy
    have J3 := Lib.hid hJ
    have N3 := Lib.hid hN
    clear hJ hN
    refine hK.out _ _ J3.out.w2 (fun hHeld => ?_)
    clear hK K'
    try simp only [Act.put, List.setIfInBounds_toArray, List.set_cons_zero, List.set_cons_succ]
    refine take_d (i := 7) (d := 9) (v := ?u24_9) rfl rfl (by kernel_rfl) (by kernel_rfl) (by kernel_rfl) (fun _ _ _ h => h) (Or.inl ⟨by kernel_rfl, ?u24_9h⟩) hHeld ?u24_9n
    case u24_9h => (intro w hSw; (try dsimp only at hSw); go_split_ands; go_simp; (try exact rfl))
    try simp only [Act.put, List.setIfInBounds_toArray, List.set_cons_zero, List.set_cons_succ]
    refine wpAnyH_ready (rs := [4, 8]) (by kernel_rfl) (by simp) ?_
    refine AllReadyH.cons rfl (fun K' hK => ?_) (AllReadyH.cons rfl (fun K' hK => ?_) AllReadyH.nil)
    · skip
      have c6_25 : w3.cell? ⟨g, 4, none⟩ = some (.slice x.a2 s.sets.length x.c2) := J3.out.bx.blk.cell 4
      go_simp
      clear c6_25
      refine hK.out _ _ J3.out.w2 (fun hHeld => ?_)
      clear hK K'
      try simp only [Act.put, List.setIfInBounds_toArray, List.set_cons_zero, List.set_cons_succ]
      refine wpAnyH_ready (rs := [8]) (by kernel_rfl) (by simp) ?_
      refine AllReadyH.cons rfl (fun K' hK => ?_) AllReadyH.nil
      go_simp
      have hbb : Below w3.heap.size w3 (w3.alloc (.cells #[.string ⟨#[]⟩, .slice BC nsC.length ncC] 65)) := (Below.refl _ _).alloc (Nat.le_refl _) _
      have J4 := Lib.hid (J3.out.below hbb)
      have N4 := Lib.hid (N3.out.kt (Kt.below hbb))
      have P7 : Hid (Blk (w3.alloc (.cells #[.string ⟨#[]⟩, .slice BC nsC.length ncC] 65)) w3.heap.size 65 #[.string ⟨#[]⟩, .slice BC nsC.length ncC]) := Lib.hid (Blk.new w3 65 _)
      refine hK.out _ _ J4.out.w2 (fun hHeld => ?_)
      clear hK K' hbb
      generalize (w3.alloc (.cells #[.string ⟨#[]⟩, .slice BC nsC.length ncC] 65)) = w4 at *
      generalize w3.heap.size = p7 at *
      try simp only [Act.put, List.setIfInBounds_toArray, List.set_cons_zero, List.set_cons_succ]
      refine wpAnyH_ready (rs := [9]) (by kernel_rfl) (by simp) ?_
      refine AllReadyH.cons rfl (fun K' hK => ?_) AllReadyH.nil
      obtain ⟨vs, hv, hR⟩ := J4.out.bx.own.sets
      refine step_append_any rfl (.tmp 6) (.tmp 10) 30 65 rfl (by kernel_rfl) (.agg #[.string ⟨#[]⟩, .slice none 0 0]) 2 40 (by kernel_rfl) (by kernel_rfl) (by decide) (by decide) D x.a2 s.sets.length x.c2 vs rfl hv p7 [.string ⟨#[]⟩, .slice BC nsC.length ncC] rfl rfl P7.out (by simp [Value.oneCell']) (by omega) J4.out.bx.hDs ?_
      intro A9 c9 w9 ho hg9
      obtain ⟨J9, hw9, c39, f39⟩ := J4.out.sput (y := []) hv hR N4.out hg9 ho
      refine hK.out _ _ hw9 (fun hHeld => ?_)
      clear hK K'
      try simp only [Act.put, List.setIfInBounds_toArray, List.set_cons_zero, List.set_cons_succ]
      refine take_d (i := 10) (d := 12) (v := ?z27_12) rfl rfl (by kernel_rfl) (by kernel_rfl) (by kernel_rfl) (fun _ _ _ h => h) (Or.inl ⟨by kernel_rfl, ?z27_12h⟩) hHeld ?z27_12n
      case z27_12h => (intro w hSw; (try dsimp only at hSw); go_split_ands; go_simp; (try exact rfl))
      try simp only [Act.put, List.setIfInBounds_toArray, List.set_cons_zero, List.set_cons_succ]
      refine take_d (i := 11) (d := 13) (v := ?z27_13) rfl rfl (by kernel_rfl) (by kernel_rfl) (by kernel_rfl) (fun _ _ _ h => h) (Or.inl ⟨by kernel_rfl, ?z27_13h⟩) hHeld ?z27_13n
      case z27_13h => (intro w hSw; (try dsimp only at hSw); go_split_ands; go_simp; (try exact rfl))
      try simp only [Act.put, List.setIfInBounds_toArray, List.set_cons_zero, List.set_cons_succ]
      refine wpAnyH_ready (rs := [12]) (by kernel_rfl) (by simp) ?_
      refine AllReadyH.cons rfl (fun K' hK => ?_) AllReadyH.nil
      go_simp
      refine hK.out _ _ J9.w2 (fun hHeld => ?_)
      clear hK K'
      try simp only [Act.put, List.setIfInBounds_toArray, List.set_cons_zero, List.set_cons_succ]
      refine wpAnyH_done (by kernel_rfl) ?_ _
      clear ho hg9 hw9 c39 f39
      generalize w9.setCell ⟨g, 4, none⟩ _ = w10 at *
      go_wp2_with fail
      refine bodyPost_end (results_none rfl _ _ _) rfl ?_
      exact ⟨nC, .ok (_, rC), by show insS L E o nC r s = _; unfold insS; rw [rb_ok XC.out]; rfl, rfl, hrr, ⟨_, J9⟩, by simp [lens] at hl ⊢; omega⟩
    · skip
      go_simp
      have hbb : Below w3.heap.size w3 (w3.alloc (.cells #[.string ⟨#[]⟩, .slice BC nsC.length ncC] 65)) := (Below.refl _ _).alloc (Nat.le_refl _) _
      have J4 := Lib.hid (J3.out.below hbb)
      have N4 := Lib.hid (N3.out.kt (Kt.below hbb))
      have P7 : Hid (Blk (w3.alloc (.cells #[.string ⟨#[]⟩, .slice BC nsC.length ncC] 65)) w3.heap.size 65 #[.string ⟨#[]⟩, .slice BC nsC.length ncC]) := Lib.hid (Blk.new w3 65 _)
      refine hK.out _ _ J4.out.w2 (fun hHeld => ?_)
      clear hK K' hbb
      generalize (w3.alloc (.cells #[.string ⟨#[]⟩, .slice BC nsC.length ncC] 65)) = w4 at *
      generalize w3.heap.size = p7 at *
      try simp only [Act.put, List.setIfInBounds_toArray, List.set_cons_zero, List.set_cons_succ]
      refine wpAnyH_ready (rs := [4]) (by kernel_rfl) (by simp) ?_
      refine AllReadyH.cons rfl (fun K' hK => ?_) AllReadyH.nil
      have c6_29 : w4.cell? ⟨g, 4, none⟩ = some (.slice x.a2 s.sets.length x.c2) := J4.out.bx.blk.cell 4
      go_simp
      clear c6_29
      refine hK.out _ _ J4.out.w2 (fun hHeld => ?_)
      clear hK K'
      try simp only [Act.put, List.setIfInBounds_toArray, List.set_cons_zero, List.set_cons_succ]
      refine wpAnyH_ready (rs := [9]) (by kernel_rfl) (by simp) ?_
      refine AllReadyH.cons rfl (fun K' hK => ?_) AllReadyH.nil
      obtain ⟨vs, hv, hR⟩ := J4.out.bx.own.sets
      refine step_append_any rfl (.tmp 6) (.tmp 10) 30 65 rfl (by kernel_rfl) (.agg #[.string ⟨#[]⟩, .slice none 0 0]) 2 40 (by kernel_rfl) (by kernel_rfl) (by decide) (by decide) D x.a2 s.sets.length x.c2 vs rfl hv p7 [.string ⟨#[]⟩, .slice BC nsC.length ncC] rfl rfl P7.out (by simp [Value.oneCell']) (by omega) J4.out.bx.hDs ?_
      intro A9 c9 w9 ho hg9
      obtain ⟨J9, hw9, c39, f39⟩ := J4.out.sput (y := []) hv hR N4.out hg9 ho
      refine hK.out _ _ hw9 (fun hHeld => ?_)
      clear hK K'
      try simp only [Act.put, List.setIfInBounds_toArray, List.set_cons_zero, List.set_cons_succ]
      refine take_d (i := 10) (d := 12) (v := ?z30_12) rfl rfl (by kernel_rfl) (by kernel_rfl) (by kernel_rfl) (fun _ _ _ h => h) (Or.inl ⟨by kernel_rfl, ?z30_12h⟩) hHeld ?z30_12n
      case z30_12h => (intro w hSw; (try dsimp only at hSw); go_split_ands; go_simp; (try exact rfl))
      try simp only [Act.put, List.setIfInBounds_toArray, List.set_cons_zero, List.set_cons_succ]
      refine take_d (i := 11) (d := 13) (v := ?z30_13) rfl rfl (by kernel_rfl) (by kernel_rfl) (by kernel_rfl) (fun _ _ _ h => h) (Or.inl ⟨by kernel_rfl, ?z30_13h⟩) hHeld ?z30_13n
      case z30_13h => (intro w hSw; (try dsimp only at hSw); go_split_ands; go_simp; (try exact rfl))
      try simp only [Act.put, List.setIfInBounds_toArray, List.set_cons_zero, List.set_cons_succ]
      refine wpAnyH_ready (rs := [12]) (by kernel_rfl) (by simp) ?_
      refine AllReadyH.cons rfl (fun K' hK => ?_) AllReadyH.nil
      go_simp
      refine hK.out _ _ J9.w2 (fun hHeld => ?_)
      clear hK K'
      try simp only [Act.put, List.setIfInBounds_toArray, List.set_cons_zero, List.set_cons_succ]
      refine wpAnyH_done (by kernel_rfl) ?_ _
      clear ho hg9 hw9 c39 f39
      generalize w9.setCell ⟨g, 4, none⟩ _ = w10 at *
      go_wp2_with fail
      refine bodyPost_end (results_none rfl _ _ _) rfl ?_
      exact ⟨nC, .ok (_, rC), by show insS L E o nC r s = _; unfold insS; rw [rb_ok XC.out]; rfl, rfl, hrr, ⟨_, J9⟩, by simp [lens] at hl ⊢; omega⟩
end Go.Proofs.YtiipglmbfgmbbaaGreatDoor
