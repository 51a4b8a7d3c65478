/-
  One more column of CREATE.
-/
import Derived.Test.YtiipglmbfgmbbaaGreatDoorP29
namespace Go.Proofs.YtiipglmbfgmbbaaGreatDoor
open Go.RowKit Go.Shelf
attribute [local go_sem] Oper.semAt_some

theorem typeF_ge {L : List Tk} {E r : Nat} {ty r' : Nat} (h : typeF L E r = .ok (ty, r')) : r ≤ r' := by
  unfold typeF at h
  split at h <;> cases h <;> omega
theorem nameF_ge {L : List Tk} {E r : Nat} {u : List UInt8} {r' : Nat} (h : nameF L E r = .ok (u, r')) : r' = r + 1 := by
  unfold nameF at h
  split at h <;> cases h <;> rfl
theorem colF_ge {L : List Tk} {E r : Nat} {y : Cl} {r' : Nat} (h : colF L E r = .ok (y, r')) : r ≤ r' := by
  unfold colF at h
  cases hn : nameF L E r with
  | error e => rw [hn] at h; cases h
  | ok p =>
    obtain ⟨u, r2⟩ := p
    have h2 := nameF_ge hn
    rw [hn] at h
    simp only at h
    cases ht : typeF L E r2 with
    | error e => rw [ht] at h; cases h
    | ok p =>
      obtain ⟨ty, r3⟩ := p
      have h3 := typeF_ge ht
      rw [ht] at h
      simp only at h
      repeat' split at h
      all_goals cases h
      all_goals omega
set_option maxRecDepth 100000 in
set_option maxHeartbeats 8000000 in
theorem clo112 (w0 : World) (K base q : Nat) (A : Option Addr) (c : Nat) (L : List Tk) (E m o g D b2 b3 : Nat) (ho : o ≤ 16) (w : World) (r : Nat) (s : Sm) (h : Jn 0 w0 K base q A c L E m o g D b2 b3 w r s) :
    Calls Tryz.prog 112 #[.pointer (some ⟨b3, 0, none⟩), .pointer (some ⟨b2, 0, none⟩)] w (Lr (fun n => colS L E n r s) (Jn 1 w0 K base q A c L E m o g D b2 b3) (Fg K q g w0) L E r) := by
  obtain ⟨⟨x, h⟩, hl⟩ := h
  have hlm : lens s ≤ 300 := by
    obtain ⟨B, n, nc, hs⟩ := h.bx.sx
    have := hs.pt.rd
    have := hs.pt.many
    omega
  have hls : lens s = s.cols.length + s.sets.length + s.items.length := rfl
  have JH := Lib.hid h
  have hKs : K ≤ w.heap.size := Nat.le_trans h.hK h.bx.hDs
  have CO := Lib.hid (fun W (hJ : Jx w0 K W base q A c L E m r o g D b2 b3 s x) => hJ)
  cases hy : colF L E r with
  | error ei =>
    obtain ⟨er, i⟩ := ei
    have HC : Hid (∀ W, Jx w0 K W base q A c L E m r o g D b2 b3 s x → Calls Tryz.prog 113 #[.pointer (some ⟨q, 0, none⟩)] W fun e w' => e = .panicked [{ v := .iface 26 (.agg #[.int .i64 er, .int .i64 ((tokAt L E i).at_ : Int)]), recovered := false }] ∧ Fg K q g w0 w') := Lib.hid (fun W hJ => by
      obtain ⟨B, n, nc, hs⟩ := hJ.bx.sx
      have hx := column_any W base q c E r o A L _ _ hs.pt hJ.bx.gp hJ.bx.two hJ.bx.tq
      rw [hy] at hx
      exact hx.mono fun e w' hR => by
        obtain ⟨h1, h2⟩ := Rd.err hR
        exact ⟨h1, hJ.fr.trans (Fg.of h2 (Nat.le_trans hJ.hK hJ.bx.hDs))⟩)
    have JHd := Lib.hid (JH.out.below (w' := w.drew) ⟨rfl, rfl, rfl, Nat.le_refl _, fun _ _ => rfl⟩)
    clear CO h
    go_enter Tryz.func112, Tryz.ntmps112
    go_upto_region 0 with fail
    refine wp_region_held_drew (S := fun w' => w'.cell? ⟨b3, 0, none⟩ = some (.pointer (some ⟨g, 0, none⟩)) ∧ w'.cell? ⟨b2, 0, none⟩ = some (.pointer (some ⟨q, 0, none⟩))) (by kernel_rfl) JHd.out.w2 (fun hHeld => ?_)
    generalize w.drew = w2 at *
    refine take_d (i := 0) (d := 2) (v := ?a1_2) rfl rfl (by kernel_rfl) (by kernel_rfl) (by kernel_rfl) (fun _ _ _ h => h) (Or.inl ⟨by kernel_rfl, ?a1_2h⟩) hHeld ?a1_2n
    case a1_2h => (intro w hSw; (try dsimp only at hSw); go_split_ands; go_simp; (try exact rfl))
    try simp only [Act.put, List.setIfInBounds_toArray, List.set_cons_zero, List.set_cons_succ]
    refine take_d (i := 1) (d := 3) (v := ?a1_3) rfl rfl (by kernel_rfl) (by kernel_rfl) (by kernel_rfl) (fun _ _ _ h => h) (Or.inl ⟨by kernel_rfl, ?a1_3h⟩) hHeld ?a1_3n
    case a1_3h => (intro w hSw; (try dsimp only at hSw); go_split_ands; go_simp; (try exact rfl))
    try simp only [Act.put, List.setIfInBounds_toArray, List.set_cons_zero, List.set_cons_succ]
    refine take_d (i := 2) (d := 4) (v := ?a1_4) rfl rfl (by kernel_rfl) (by kernel_rfl) (by kernel_rfl) (fun _ _ _ h => h) (Or.inl ⟨by kernel_rfl, ?a1_4h⟩) hHeld ?a1_4n
    case a1_4h => (intro w hSw; (try dsimp only at hSw); go_split_ands; go_simp; (try exact rfl))
    try simp only [Act.put, List.setIfInBounds_toArray, List.set_cons_zero, List.set_cons_succ]
    refine take_d (i := 3) (d := 5) (v := ?a1_5) rfl rfl (by kernel_rfl) (by kernel_rfl) (by kernel_rfl) (fun _ _ _ h => h) (Or.inl ⟨by kernel_rfl, ?a1_5h⟩) hHeld ?a1_5n
    case a1_5h => (intro w hSw; (try dsimp only at hSw); go_split_ands; go_simp; (try exact rfl))
    try simp only [Act.put, List.setIfInBounds_toArray, List.set_cons_zero, List.set_cons_succ]
    refine take_d (i := 5) (d := 7) (v := ?a1_7) rfl rfl (by kernel_rfl) (by kernel_rfl) (by kernel_rfl) (fun _ _ _ h => h) (Or.inl ⟨by kernel_rfl, ?a1_7h⟩) hHeld ?a1_7n
    case a1_7h => (intro w hSw; (try dsimp only at hSw); go_split_ands; go_simp; (try exact rfl))
    try simp only [Act.put, List.setIfInBounds_toArray, List.set_cons_zero, List.set_cons_succ]
    refine wpAnyH_ready (rs := [4, 6]) (by kernel_rfl) (by simp) ?_
    refine AllReadyH.cons rfl (fun K' hK => ?_) (AllReadyH.cons rfl (fun K' hK => ?_) AllReadyH.nil)
    · skip
      have c6_2 : w2.cell? ⟨g, 3, none⟩ = some (.slice x.a1 s.cols.length x.c1) := JHd.out.bx.blk.cell 3
      go_simp
      clear c6_2
      refine hK.out _ _ JHd.out.w2 (fun hHeld => ?_)
      clear hK K'
      try simp only [Act.put, List.setIfInBounds_toArray, List.set_cons_zero, List.set_cons_succ]
      refine wpAnyH_ready (rs := [6]) (by kernel_rfl) (by simp) ?_
      refine AllReadyH.cons rfl (fun K' hK => ?_) AllReadyH.nil
      go_simp
      refine (HC.out w2 JHd.out).mono ?_
      rintro e w3 ⟨rfl, hF⟩
      exact ⟨rfl, 0, .error (er, i), by show colS L E 0 r s = _; unfold colS; rw [hy]; rfl, rfl, hF⟩
    · skip
      go_simp
      refine (HC.out w2 JHd.out).mono ?_
      rintro e w3 ⟨rfl, hF⟩
      exact ⟨rfl, 0, .error (er, i), by show colS L E 0 r s = _; unfold colS; rw [hy]; rfl, rfl, hF⟩
  | ok yr =>
    obtain ⟨⟨nm, ty, kk, nn⟩, r1⟩ := yr
    obtain ⟨T, hT⟩ : ∃ T : ByteArray, (⟨nm.toArray⟩ : ByteArray) = T := ⟨_, rfl⟩
    have HT := Lib.hid hT
    have hrr : r ≤ r1 := colF_ge hy
    have HC : Hid (∀ W, Jx w0 K W base q A c L E m r o g D b2 b3 s x → Calls Tryz.prog 113 #[.pointer (some ⟨q, 0, none⟩)] W fun e w' => e = .returned (.agg #[.string T, .int .i64 (ty : Int), .bool kk, .bool nn]) ∧ Jx w0 K w' base q A c L E m r1 o g D b2 b3 s x) := Lib.hid (fun W hJ => by
      obtain ⟨B, n, nc, hs⟩ := hJ.bx.sx
      have hx := column_any W base q c E r o A L _ _ hs.pt hJ.bx.gp hJ.bx.two hJ.bx.tq
      rw [hy] at hx
      exact hx.mono fun e w' hR => by
        obtain ⟨h1, h2, h3⟩ := hR
        exact ⟨by rw [h1, ← hT], hJ.readP h2 h3⟩)
    clear hT
    have JHd := Lib.hid (JH.out.below (w' := w.drew) ⟨rfl, rfl, rfl, Nat.le_refl _, fun _ _ => rfl⟩)
    clear CO h
    go_enter Tryz.func112, Tryz.ntmps112
    go_upto_region 0 with fail
    refine wp_region_held_drew (S := fun w' => w'.cell? ⟨b3, 0, none⟩ = some (.pointer (some ⟨g, 0, none⟩)) ∧ w'.cell? ⟨b2, 0, none⟩ = some (.pointer (some ⟨q, 0, none⟩))) (by kernel_rfl) JHd.out.w2 (fun hHeld => ?_)
    generalize w.drew = w2 at *
    refine take_d (i := 0) (d := 2) (v := ?a5_2) rfl rfl (by kernel_rfl) (by kernel_rfl) (by kernel_rfl) (fun _ _ _ h => h) (Or.inl ⟨by kernel_rfl, ?a5_2h⟩) hHeld ?a5_2n
    case a5_2h => (intro w hSw; (try dsimp only at hSw); go_split_ands; go_simp; (try exact rfl))
    try simp only [Act.put, List.setIfInBounds_toArray, List.set_cons_zero, List.set_cons_succ]
    refine take_d (i := 1) (d := 3) (v := ?a5_3) rfl rfl (by kernel_rfl) (by kernel_rfl) (by kernel_rfl) (fun _ _ _ h => h) (Or.inl ⟨by kernel_rfl, ?a5_3h⟩) hHeld ?a5_3n
    case a5_3h => (intro w hSw; (try dsimp only at hSw); go_split_ands; go_simp; (try exact rfl))
    try simp only [Act.put, List.setIfInBounds_toArray, List.set_cons_zero, List.set_cons_succ]
    refine take_d (i := 2) (d := 4) (v := ?a5_4) rfl rfl (by kernel_rfl) (by kernel_rfl) (by kernel_rfl) (fun _ _ _ h => h) (Or.inl ⟨by kernel_rfl, ?a5_4h⟩) hHeld ?a5_4n
    case a5_4h => (intro w hSw; (try dsimp only at hSw); go_split_ands; go_simp; (try exact rfl))
    try simp only [Act.put, List.setIfInBounds_toArray, List.set_cons_zero, List.set_cons_succ]
    refine take_d (i := 3) (d := 5) (v := ?a5_5) rfl rfl (by kernel_rfl) (by kernel_rfl) (by kernel_rfl) (fun _ _ _ h => h) (Or.inl ⟨by kernel_rfl, ?a5_5h⟩) hHeld ?a5_5n
    case a5_5h => (intro w hSw; (try dsimp only at hSw); go_split_ands; go_simp; (try exact rfl))
    try simp only [Act.put, List.setIfInBounds_toArray, List.set_cons_zero, List.set_cons_succ]
    refine take_d (i := 5) (d := 7) (v := ?a5_7) rfl rfl (by kernel_rfl) (by kernel_rfl) (by kernel_rfl) (fun _ _ _ h => h) (Or.inl ⟨by kernel_rfl, ?a5_7h⟩) hHeld ?a5_7n
    case a5_7h => (intro w hSw; (try dsimp only at hSw); go_split_ands; go_simp; (try exact rfl))
    try simp only [Act.put, List.setIfInBounds_toArray, List.set_cons_zero, List.set_cons_succ]
    refine wpAnyH_ready (rs := [4, 6]) (by kernel_rfl) (by simp) ?_
    refine AllReadyH.cons rfl (fun K' hK => ?_) (AllReadyH.cons rfl (fun K' hK => ?_) AllReadyH.nil)
    · skip
      have c6_6 : w2.cell? ⟨g, 3, none⟩ = some (.slice x.a1 s.cols.length x.c1) := JHd.out.bx.blk.cell 3
      go_simp
      clear c6_6
      refine hK.out _ _ JHd.out.w2 (fun hHeld => ?_)
      clear hK K'
      try simp only [Act.put, List.setIfInBounds_toArray, List.set_cons_zero, List.set_cons_succ]
      refine wpAnyH_ready (rs := [6]) (by kernel_rfl) (by simp) ?_
      refine AllReadyH.cons rfl (fun K' hK => ?_) AllReadyH.nil
      go_simp
      refine (HC.out w2 JHd.out).mono ?_
      rintro e w3 ⟨rfl, hJ⟩
      have J3 := Lib.hid hJ
      clear hJ
      refine hK.out _ _ J3.out.w2 (fun hHeld => ?_)
      clear hK K'
      try simp only [Act.put, List.setIfInBounds_toArray, List.set_cons_zero, List.set_cons_succ]
      refine wpAnyH_ready (rs := [7]) (by kernel_rfl) (by simp) ?_
      refine AllReadyH.cons rfl (fun K' hK => ?_) AllReadyH.nil
      go_simp
      have hbb : Below w3.heap.size w3 (w3.alloc (.cells #[.string T, .int .i64 (ty : Int), .bool kk, .bool nn] 62)) := (Below.refl _ _).alloc (Nat.le_refl _) _
      have J4 := Lib.hid (J3.out.below hbb)
      have P7 : Hid (Blk (w3.alloc (.cells #[.string T, .int .i64 (ty : Int), .bool kk, .bool nn] 62)) w3.heap.size 62 #[.string T, .int .i64 (ty : Int), .bool kk, .bool nn]) := Lib.hid (Blk.new w3 62 _)
      refine hK.out _ _ J4.out.w2 (fun hHeld => ?_)
      clear hK K' hbb
      generalize (w3.alloc (.cells #[.string T, .int .i64 (ty : Int), .bool kk, .bool nn] 62)) = w4 at *
      generalize w3.heap.size = p7 at *
      try simp only [Act.put, List.setIfInBounds_toArray, List.set_cons_zero, List.set_cons_succ]
      refine wpAnyH_ready (rs := [8]) (by kernel_rfl) (by simp) ?_
      refine AllReadyH.cons rfl (fun K' hK => ?_) AllReadyH.nil
      refine step_append_any rfl (.tmp 6) (.tmp 9) 29 62 rfl (by kernel_rfl) (.agg #[.string ⟨#[]⟩, .int .i64 0, .bool false, .bool false]) 4 32 (by kernel_rfl) (by kernel_rfl) (by decide) (by decide) D x.a1 s.cols.length x.c1 (clRow s.cols) rfl J4.out.bx.own.cols p7 [.string T, .int .i64 (ty : Int), .bool kk, .bool nn] rfl rfl P7.out (by simp [Value.oneCell']) (by omega) J4.out.bx.hDs ?_
      intro A9 c9 w9 ho hg9
      obtain ⟨J9, hw9, c39, f39⟩ := J4.out.cput (y := (nm, ty, kk, nn)) hg9 (by rw [← HT.out] at ho; exact ho)
      refine hK.out _ _ hw9 (fun hHeld => ?_)
      clear hK K'
      try simp only [Act.put, List.setIfInBounds_toArray, List.set_cons_zero, List.set_cons_succ]
      refine take_d (i := 9) (d := 11) (v := ?z9_11) rfl rfl (by kernel_rfl) (by kernel_rfl) (by kernel_rfl) (fun _ _ _ h => h) (Or.inl ⟨by kernel_rfl, ?z9_11h⟩) hHeld ?z9_11n
      case z9_11h => (intro w hSw; (try dsimp only at hSw); go_split_ands; go_simp; (try exact rfl))
      try simp only [Act.put, List.setIfInBounds_toArray, List.set_cons_zero, List.set_cons_succ]
      refine take_d (i := 10) (d := 12) (v := ?z9_12) rfl rfl (by kernel_rfl) (by kernel_rfl) (by kernel_rfl) (fun _ _ _ h => h) (Or.inl ⟨by kernel_rfl, ?z9_12h⟩) hHeld ?z9_12n
      case z9_12h => (intro w hSw; (try dsimp only at hSw); go_split_ands; go_simp; (try exact rfl))
      try simp only [Act.put, List.setIfInBounds_toArray, List.set_cons_zero, List.set_cons_succ]
      refine wpAnyH_ready (rs := [11]) (by kernel_rfl) (by simp) ?_
      refine AllReadyH.cons rfl (fun K' hK => ?_) AllReadyH.nil
      go_simp
      refine hK.out _ _ J9.w2 (fun hHeld => ?_)
      clear hK K'
      try simp only [Act.put, List.setIfInBounds_toArray, List.set_cons_zero, List.set_cons_succ]
      refine wpAnyH_done (by kernel_rfl) ?_ _
      clear ho hg9 hw9 c39 f39
      generalize w9.setCell ⟨g, 3, none⟩ _ = w10 at *
      go_wp2_with fail
      refine bodyPost_end (results_none rfl _ _ _) rfl ?_
      exact ⟨0, .ok (_, r1), by show colS L E 0 r s = _; unfold colS; rw [hy]; rfl, rfl, hrr, ⟨_, J9⟩, by simp [lens] at hl ⊢; omega⟩
    · skip
      go_simp
      refine (HC.out w2 JHd.out).mono ?_
      rintro e w3 ⟨rfl, hJ⟩
      have J3 := Lib.hid hJ
      clear hJ
      refine hK.out _ _ J3.out.w2 (fun hHeld => ?_)
      clear hK K'
      try simp only [Act.put, List.setIfInBounds_toArray, List.set_cons_zero, List.set_cons_succ]
      refine wpAnyH_ready (rs := [4, 7]) (by kernel_rfl) (by simp) ?_
      refine AllReadyH.cons rfl (fun K' hK => ?_) (AllReadyH.cons rfl (fun K' hK => ?_) AllReadyH.nil)
      · skip
        have c6_11 : w3.cell? ⟨g, 3, none⟩ = some (.slice x.a1 s.cols.length x.c1) := J3.out.bx.blk.cell 3
        go_simp
        clear c6_11
        refine hK.out _ _ J3.out.w2 (fun hHeld => ?_)
        clear hK K'
        try simp only [Act.put, List.setIfInBounds_toArray, List.set_cons_zero, List.set_cons_succ]
        refine wpAnyH_ready (rs := [7]) (by kernel_rfl) (by simp) ?_
        refine AllReadyH.cons rfl (fun K' hK => ?_) AllReadyH.nil
        go_simp
        have hbb : Below w3.heap.size w3 (w3.alloc (.cells #[.string T, .int .i64 (ty : Int), .bool kk, .bool nn] 62)) := (Below.refl _ _).alloc (Nat.le_refl _) _
        have J4 := Lib.hid (J3.out.below hbb)
        have P7 : Hid (Blk (w3.alloc (.cells #[.string T, .int .i64 (ty : Int), .bool kk, .bool nn] 62)) w3.heap.size 62 #[.string T, .int .i64 (ty : Int), .bool kk, .bool nn]) := Lib.hid (Blk.new w3 62 _)
        refine hK.out _ _ J4.out.w2 (fun hHeld => ?_)
        clear hK K' hbb
        generalize (w3.alloc (.cells #[.string T, .int .i64 (ty : Int), .bool kk, .bool nn] 62)) = w4 at *
        generalize w3.heap.size = p7 at *
        try simp only [Act.put, List.setIfInBounds_toArray, List.set_cons_zero, List.set_cons_succ]
        refine wpAnyH_ready (rs := [8]) (by kernel_rfl) (by simp) ?_
        refine AllReadyH.cons rfl (fun K' hK => ?_) AllReadyH.nil
        refine step_append_any rfl (.tmp 6) (.tmp 9) 29 62 rfl (by kernel_rfl) (.agg #[.string ⟨#[]⟩, .int .i64 0, .bool false, .bool false]) 4 32 (by kernel_rfl) (by kernel_rfl) (by decide) (by decide) D x.a1 s.cols.length x.c1 (clRow s.cols) rfl J4.out.bx.own.cols p7 [.string T, .int .i64 (ty : Int), .bool kk, .bool nn] rfl rfl P7.out (by simp [Value.oneCell']) (by omega) J4.out.bx.hDs ?_
        intro A9 c9 w9 ho hg9
        obtain ⟨J9, hw9, c39, f39⟩ := J4.out.cput (y := (nm, ty, kk, nn)) hg9 (by rw [← HT.out] at ho; exact ho)
        refine hK.out _ _ hw9 (fun hHeld => ?_)
        clear hK K'
        try simp only [Act.put, List.setIfInBounds_toArray, List.set_cons_zero, List.set_cons_succ]
        refine take_d (i := 9) (d := 11) (v := ?z13_11) rfl rfl (by kernel_rfl) (by kernel_rfl) (by kernel_rfl) (fun _ _ _ h => h) (Or.inl ⟨by kernel_rfl, ?z13_11h⟩) hHeld ?z13_11n
        case z13_11h => (intro w hSw; (try dsimp only at hSw); go_split_ands; go_simp; (try exact rfl))
        try simp only [Act.put, List.setIfInBounds_toArray, List.set_cons_zero, List.set_cons_succ]
        refine take_d (i := 10) (d := 12) (v := ?z13_12) rfl rfl (by kernel_rfl) (by kernel_rfl) (by kernel_rfl) (fun _ _ _ h => h) (Or.inl ⟨by kernel_rfl, ?z13_12h⟩) hHeld ?z13_12n
        case z13_12h => (intro w hSw; (try dsimp only at hSw); go_split_ands; go_simp; (try exact rfl))
        try simp only [Act.put, List.setIfInBounds_toArray, List.set_cons_zero, List.set_cons_succ]
        refine wpAnyH_ready (rs := [11]) (by kernel_rfl) (by simp) ?_
        refine AllReadyH.cons rfl (fun K' hK => ?_) AllReadyH.nil
        go_simp
        refine hK.out _ _ J9.w2 (fun hHeld => ?_)
        clear hK K'
        try simp only [Act.put, List.setIfInBounds_toArray, List.set_cons_zero, List.set_cons_succ]
        refine wpAnyH_done (by kernel_rfl) ?_ _
        clear ho hg9 hw9 c39 f39
        generalize w9.setCell ⟨g, 3, none⟩ _ = w10 at *
        go_wp2_with fail
        refine bodyPost_end (results_none rfl _ _ _) rfl ?_
        exact ⟨0, .ok (_, r1), by show colS L E 0 r s = _; unfold colS; rw [hy]; rfl, rfl, hrr, ⟨_, J9⟩, by simp [lens] at hl ⊢; omega⟩
      · skip
        go_simp
        have hbb : Below w3.heap.size w3 (w3.alloc (.cells #[.string T, .int .i64 (ty : Int), .bool kk, .bool nn] 62)) := (Below.refl _ _).alloc (Nat.le_refl _) _
        have J4 := Lib.hid (J3.out.below hbb)
        have P7 : Hid (Blk (w3.alloc (.cells #[.string T, .int .i64 (ty : Int), .bool kk, .bool nn] 62)) w3.heap.size 62 #[.string T, .int .i64 (ty : Int), .bool kk, .bool nn]) := Lib.hid (Blk.new w3 62 _)
        refine hK.out _ _ J4.out.w2 (fun hHeld => ?_)
        clear hK K' hbb
        generalize (w3.alloc (.cells #[.string T, .int .i64 (ty : Int), .bool kk, .bool nn] 62)) = w4 at *
        generalize w3.heap.size = p7 at *
        try simp only [Act.put, List.setIfInBounds_toArray, List.set_cons_zero, List.set_cons_succ]
        refine wpAnyH_ready (rs := [4]) (by kernel_rfl) (by simp) ?_
        refine AllReadyH.cons rfl (fun K' hK => ?_) AllReadyH.nil
        have c6_15 : w4.cell? ⟨g, 3, none⟩ = some (.slice x.a1 s.cols.length x.c1) := J4.out.bx.blk.cell 3
        go_simp
        clear c6_15
        refine hK.out _ _ J4.out.w2 (fun hHeld => ?_)
        clear hK K'
        try simp only [Act.put, List.setIfInBounds_toArray, List.set_cons_zero, List.set_cons_succ]
        refine wpAnyH_ready (rs := [8]) (by kernel_rfl) (by simp) ?_
        refine AllReadyH.cons rfl (fun K' hK => ?_) AllReadyH.nil
        refine step_append_any rfl (.tmp 6) (.tmp 9) 29 62 rfl (by kernel_rfl) (.agg #[.string ⟨#[]⟩, .int .i64 0, .bool false, .bool false]) 4 32 (by kernel_rfl) (by kernel_rfl) (by decide) (by decide) D x.a1 s.cols.length x.c1 (clRow s.cols) rfl J4.out.bx.own.cols p7 [.string T, .int .i64 (ty : Int), .bool kk, .bool nn] rfl rfl P7.out (by simp [Value.oneCell']) (by omega) J4.out.bx.hDs ?_
        intro A9 c9 w9 ho hg9
        obtain ⟨J9, hw9, c39, f39⟩ := J4.out.cput (y := (nm, ty, kk, nn)) hg9 (by rw [← HT.out] at ho; exact ho)
        refine hK.out _ _ hw9 (fun hHeld => ?_)
        clear hK K'
        try simp only [Act.put, List.setIfInBounds_toArray, List.set_cons_zero, List.set_cons_succ]
        refine take_d (i := 9) (d := 11) (v := ?z16_11) rfl rfl (by kernel_rfl) (by kernel_rfl) (by kernel_rfl) (fun _ _ _ h => h) (Or.inl ⟨by kernel_rfl, ?z16_11h⟩) hHeld ?z16_11n
        case z16_11h => (intro w hSw; (try dsimp only at hSw); go_split_ands; go_simp; (try exact rfl))
        try simp only [Act.put, List.setIfInBounds_toArray, List.set_cons_zero, List.set_cons_succ]
        refine take_d (i := 10) (d := 12) (v := ?z16_12) rfl rfl (by kernel_rfl) (by kernel_rfl) (by kernel_rfl) (fun _ _ _ h => h) (Or.inl ⟨by kernel_rfl, ?z16_12h⟩) hHeld ?z16_12n
        case z16_12h => (intro w hSw; (try dsimp only at hSw); go_split_ands; go_simp; (try exact rfl))
        try simp only [Act.put, List.setIfInBounds_toArray, List.set_cons_zero, List.set_cons_succ]
        refine wpAnyH_ready (rs := [11]) (by kernel_rfl) (by simp) ?_
        refine AllReadyH.cons rfl (fun K' hK => ?_) AllReadyH.nil
        go_simp
        refine hK.out _ _ J9.w2 (fun hHeld => ?_)
        clear hK K'
        try simp only [Act.put, List.setIfInBounds_toArray, List.set_cons_zero, List.set_cons_succ]
        refine wpAnyH_done (by kernel_rfl) ?_ _
        clear ho hg9 hw9 c39 f39
        generalize w9.setCell ⟨g, 3, none⟩ _ = w10 at *
        go_wp2_with fail
        refine bodyPost_end (results_none rfl _ _ _) rfl ?_
        exact ⟨0, .ok (_, r1), by show colS L E 0 r s = _; unfold colS; rw [hy]; rfl, rfl, hrr, ⟨_, J9⟩, by simp [lens] at hl ⊢; omega⟩
end Go.Proofs.YtiipglmbfgmbbaaGreatDoor
