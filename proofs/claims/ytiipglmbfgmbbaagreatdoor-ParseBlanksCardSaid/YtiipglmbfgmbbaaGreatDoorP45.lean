/-
  Statements, read; a panic becomes an answer.
-/
import Derived.Test.YtiipglmbfgmbbaaGreatDoorPkV
import Derived.Deep.CutBlock
namespace Go.Proofs.YtiipglmbfgmbbaaGreatDoor
open Go.RowKit Go.Shelf
attribute [local go_sem] Oper.semAt_some

theorem leaves_congr {P : Program} {fn : Func} {tmps tmps' : Array Value} {R : Ending → World → Prop} (hr : results fn tmps = results fn tmps') : ∀ (ds : List Deferred) (u : FrameMode) (w : World), Leaves P fn tmps R ds u w → Leaves P fn tmps' R ds u w
  | [], .returning, w, h => by
    unfold Leaves at h ⊢
    rw [← hr]
    exact h
  | [], .panicking _, w, h => h
  | [], .run, w, h => h
  | d :: ds, u, w, h => by
    unfold Leaves at h ⊢
    obtain ⟨h1, fv, cap, f, args, h2, h3, h4⟩ := h
    refine ⟨h1, fv, cap, f, args, h2, h3, h4.mono fun e u' w' h => ?_⟩
    cases e with
    | returned v => exact leaves_congr hr ds _ _ h
    | panicked c => exact leaves_congr hr ds _ _ h
    | outgrown => exact h
theorem ret28 {tmps : Array Value} {w : World} {bl bs n c : Nat} {A : Option Addr} {e a : Int} (h2 : tmps.getD 2 undef = .pointer (some ⟨bl, 0, none⟩)) (h3 : tmps.getD 3 undef = .pointer (some ⟨bs, 0, none⟩)) (hl : Blk w bl 23 #[.slice A n c]) (hs : Blk w bs 26 #[.int .i64 e, .int .i64 a]) :
    (results Tryz.f28 tmps).run Tryz.prog w = .ok (.tuple #[.slice A n c, .agg #[.int .i64 e, .int .i64 a]]) w := by
  have hp' : tmps[2]?.getD undef = .pointer (some ⟨bl, 0, none⟩) := by simpa using h2
  have hp2' : tmps[3]?.getD undef = .pointer (some ⟨bs, 0, none⟩) := by simpa using h3
  have c1 : w.cell? ⟨bl, 0, none⟩ = some (.slice A n c) := hl.cell 0
  have c2 : w.cell? ⟨bs, 0, none⟩ = some (.int .i64 e) := hs.cell 0
  have c3 : w.cell? ⟨bs, 1, none⟩ = some (.int .i64 a) := hs.cell 1
  simp [results, Tryz.results28, hp', hp2', asAddr, go_sem, c1, c2, c3]
theorem leaves_err {w w4 w'' : World} {q bl bs r o E i : Nat} {L : List Tk} {er : Int} {tmps : Array Value} (h2 : tmps.getD 2 undef = .pointer (some ⟨bl, 0, none⟩)) (h3 : tmps.getD 3 undef = .pointer (some ⟨bs, 0, none⟩)) (ct : Ct bl bs w4 w'' er ((tokAt L E i).at_ : Int)) (hF : Fq w.heap.size q w w4) (hb1 : w.heap.size ≤ bl) (hb2 : w.heap.size ≤ bs) (hX : ∃ n', stsF L E o n' r [] = some (.error (er, i))) :
    Leaves Tryz.prog Tryz.f28 tmps (Sts w q L E r o) [] .returning w'' := by
  obtain ⟨n', hx⟩ := hX
  have hsz := hF.size
  exact ⟨_, ret28 h2 h3 ct.l ct.s, n', .error (er, i), hx, ⟨ct.os.trans hF.os, ct.tape.trans hF.tape, ct.output.trans hF.output, Nat.le_trans hsz ct.size, fun j hj hq => (ct.block j (by omega) (by omega) (by omega)).trans (hF.block j hj hq)⟩, rfl⟩
theorem leaves_ok {w w' : World} {q bl bs r o E c9 : Nat} {L : List Tk} {l : List Sm} {A9 : Option Addr} {tmps : Array Value} (h2 : tmps.getD 2 undef = .pointer (some ⟨bl, 0, none⟩)) (h3 : tmps.getD 3 undef = .pointer (some ⟨bs, 0, none⟩)) (hl : Blk w' bl 23 #[.slice A9 l.length c9]) (hs : Blk w' bs 26 #[.int .i64 0, .int .i64 0]) (hF : Fq w.heap.size q w w') (hO : Sls w' w.heap.size A9 l.length c9 l) (hX : ∃ n', stsF L E o n' r [] = some (.ok l)) :
    Leaves Tryz.prog Tryz.f28 tmps (Sts w q L E r o) [] .returning w' := by
  obtain ⟨n', hx⟩ := hX
  exact ⟨_, ret28 h2 h3 hl hs, n', .ok l, hx, hF, A9, c9, rfl, hO⟩
theorem hq28 {R : Ending → World → Prop} {d : Tmp} {v : Value} (h2 : d ≠ 2) (h3 : d ≠ 3) (c : List PanicEntry) (a : Act) (w : World) (h : bodyPostD Tryz.prog Tryz.f28 R (.panic c) (a.put (some d) v) w) : bodyPostD Tryz.prog Tryz.f28 R (.panic c) a w := by
  have e : results Tryz.f28 (a.put (some d) v).tmps = results Tryz.f28 a.tmps := by
    simp [results, Tryz.results28, Act.put, Array.getD_eq_getD_getElem?, Array.getElem?_setIfInBounds_ne, h2, h3]
  exact leaves_congr e _ _ _ h
theorem rwd_err {L : List Tk} {E r : Nat} {us : List (List UInt8)} {ei : Int × Nat} (h : rwd L E r us = some (.error ei)) : wordsF L E r us = .error ei := by
  unfold rwd at h
  cases hw : wordsF L E r us with
  | error e => rw [hw] at h; simp only [Option.some.injEq, Except.error.injEq] at h; rw [h]
  | ok r' => rw [hw] at h; cases h
theorem rwd_ok {L : List Tk} {E r r' : Nat} {us : List (List UInt8)} {u : Unit} (h : rwd L E r us = some (.ok (u, r'))) : wordsF L E r us = .ok r' := by
  unfold rwd at h
  cases hw : wordsF L E r us with
  | error e => rw [hw] at h; cases h
  | ok r2 => rw [hw] at h; simp only [Option.some.injEq, Except.ok.injEq, Prod.mk.injEq, true_and] at h; rw [h]
theorem stF_lt {L : List Tk} {E o n a r r' : Nat} {s : Sm} (h : stF L E o n a r = some (.ok (s, r'))) : a ≠ 8 := by
  rintro rfl
  unfold stF at h
  cases hk : kindF L E r with
  | error e => rw [rb_err (congrArg some hk)] at h; cases h
  | ok p =>
    obtain ⟨k, r1⟩ := p
    rw [rb_ok (congrArg some hk), if_pos rfl] at h
    cases h

set_option maxRecDepth 100000 in
set_option maxHeartbeats 4000000 in
theorem stmts_any (w : World) (base q : Nat) (A : Option Addr) (c : Nat) (L : List Tk) (E m r o : Nat) (B : Option Addr) (n nc : Nat) (h : Sx w base q A c L E m r o B n nc) (hG : Gp w) (h2 : 2 ≤ base) (hq2 : 2 ≤ q) (ho : o ≤ 16) :
    Calls Tryz.prog 28 #[.pointer (some ⟨q, 0, none⟩)] w (Sts w q L E r o) := by
  have J0 := Lib.hid (Lx.start h hG h2 hq2)
  have hmf : ∀ (fn : Fn) (first cap : Array Value) (w : World), (Instr.makeFunc fn first cap).run Tryz.prog w = .ok (.func fn first cap) w := fun _ _ _ _ => rfl
  clear h hG
  go_enter_defers Tryz.func28, Tryz.ntmps28
  go_upto_region 1 with fail
  generalize (w.alloc (.cells #[.slice none 0 0] 23)).alloc (.cells #[.int .i64 0, .int .i64 0] 26) = w1 at *
  go_wp2_with fail
  go_loopw [5] (fun _ wr => ∃ (r2 : Nat) (l2 : List Sm) (A9 : Option Addr) (c9 : Nat), l2.length ≤ 8 ∧ Hid (Lx w wr base q A c L E m r2 o w.heap.size (w.heap.size + 1) l2 A9 c9) ∧ Hid (∀ n y, stsF L E o n r2 l2 = some y → ∃ n', stsF L E o n' r [] = some y)) (fun _ wr => 9 - lenAt wr w.heap.size)
  case atStart => exact ⟨r, [], none, 0, by simp, J0, Lib.hid (fun n y h => ⟨n, h⟩)⟩
  case round =>
    clear J0
    obtain ⟨r2, l2, A9, c9, hl8, JR, CT⟩ := hrel
    have hrd := JR.out.rd
    have RW := JR.out.lenAt
    go_upto_region 2 with fail
    go_cut [21] from 5 to 45 (fun v21 wx => v21 = .bool (decide (l2.length = 0 ∨ r2 < L.length)) ∧ Hid (Lx w wx base q A c L E m r2 o w.heap.size (w.heap.size + 1) l2 A9 c9))
    case first =>
      obtain ⟨B2, n2, nc2, hs2⟩ := JR.out.sx
      have x0 : wr.cell? ⟨q, 0, none⟩ = some (.slice A L.length c) := hs2.pt.blk.cell 0
      have x1 : wr.cell? ⟨q, 1, none⟩ = some (.int .i64 (r2 : Int)) := hs2.pt.blk.cell 1
      have x2 : wr.cell? ⟨w.heap.size, 0, none⟩ = some (.slice A9 l2.length c9) := JR.out.lb.cell 0
      clear hs2
      by_cases h0 : l2.length = 0
      · have e0 : ((l2.length : Int) == 0) = true := by rw [h0]; rfl
        have HA : Hid (decide (l2.length = 0 ∨ r2 < L.length) = true) := Lib.hid (by simp [h0])
        clear h0
        go_quiet (fail)
        go_wp2_with fail
        go_meet
        case rel => exact ⟨congrArg Value.bool HA.out.symm, Lib.hid (JR.out.below (below_drewN' _ _ _))⟩
      · have e0 : ((l2.length : Int) == 0) = false := by simp; exact fun h => h0 (by rw [h]; rfl)
        by_cases h1 : r2 < L.length
        · have e1 : decide ((r2 : Int) < (L.length : Int)) = true := by simp; omega
          have HA : Hid (decide (l2.length = 0 ∨ r2 < L.length) = true) := Lib.hid (by simp [h1])
          have H1 := Lib.hid (decide_eq_true h1)
          clear h0 h1
          go_quiet (fail)
          go_wp2_with fail
          go_meet
          case rel => exact ⟨congrArg Value.bool (H1.out.trans HA.out.symm), Lib.hid (JR.out.below (below_drewN' _ _ _))⟩
        · have e1 : decide ((r2 : Int) < (L.length : Int)) = false := by simp; omega
          have HA : Hid (decide (l2.length = 0 ∨ r2 < L.length) = false) := Lib.hid (decide_eq_false (fun h => h.elim h0 h1))
          have H1 := Lib.hid (decide_eq_false h1)
          clear h0 h1
          go_quiet (fail)
          go_wp2_with fail
          go_meet
          case rel => exact ⟨congrArg Value.bool (H1.out.trans HA.out.symm), Lib.hid (JR.out.below (below_drewN' _ _ _))⟩
    case rest =>
      obtain ⟨rfl, J2⟩ := hcut
      clear JR
      generalize wc = w2 at *
      cases hbd : decide (l2.length = 0 ∨ r2 < L.length) with
      | true =>
        have hc := of_decide_eq_true hbd
        have ERR : Hid (∀ nC ei, stF L E o nC l2.length r2 = some (.error ei) → ∃ n', stsF L E o n' r [] = some (.error ei)) := Lib.hid (fun nC ei h => CT.out (nC + 1) _ (by unfold stsF; rw [if_pos hc, h]))
        go_upto_region 3 with fail
        go_cut [] from 5 to 45 (fun wx => ∃ (nC : Nat) (s3 : Sm) (r3 : Nat) (A8 : Option Addr) (c8 : Nat), Hid (stF L E o nC l2.length r2 = some (.ok (s3, r3))) ∧ r2 ≤ r3 ∧ Hid (Lx w wx base q A c L E m r3 o w.heap.size (w.heap.size + 1) (l2 ++ [s3]) A8 c8))
        case first =>
          refine wp_region_held_drew (S := fun w' => True) (by kernel_rfl) trivial (fun hHeld => ?_)
          have J3 := Lib.hid (J2.out.below (w' := w2.drew) ⟨rfl, rfl, rfl, Nat.le_refl _, fun _ _ => rfl⟩)
          generalize w2.drew = w3 at *
          refine take_d (i := 1) (d := 23) (v := ?v1_23) rfl rfl (by kernel_rfl) (by kernel_rfl) (by kernel_rfl) (fun c a w h => hq28 (d := 23) (by decide) (by decide) c a w h) (Or.inl ⟨by kernel_rfl, ?v1_23h⟩) hHeld ?v1_23n
          case v1_23h => (intro w hSw; (try dsimp only at hSw); go_simp; (try exact rfl))
          try simp only [Act.put, List.setIfInBounds_toArray, List.set_cons_zero, List.set_cons_succ]
          refine wpAnyH_ready (rs := [0, 2]) (by kernel_rfl) (by simp) ?_
          refine AllReadyH.cons rfl (fun K' hK => ?_) (AllReadyH.cons rfl (fun K' hK => ?_) AllReadyH.nil)
          · skip
            have cl2 : w3.cell? ⟨w.heap.size, 0, none⟩ = some (.slice A9 l2.length c9) := J3.out.lb.cell 0
            go_simp
            clear cl2
            refine hK.out _ _ trivial (fun hHeld => ?_)
            clear hK K'
            try simp only [Act.put, List.setIfInBounds_toArray, List.set_cons_zero, List.set_cons_succ]
            refine wpAnyH_ready (rs := [2]) (by kernel_rfl) (by simp) ?_
            refine AllReadyH.cons rfl (fun K' hK => ?_) AllReadyH.nil
            have cl3 : w3.cell? ⟨w.heap.size, 0, none⟩ = some (.slice A9 l2.length c9) := J3.out.lb.cell 0
            go_simp
            clear cl3
            refine hK.out _ _ trivial (fun hHeld => ?_)
            clear hK K'
            try simp only [Act.put, List.setIfInBounds_toArray, List.set_cons_zero, List.set_cons_succ]
            refine take_d (i := 3) (d := 25) (v := ?v4_25) rfl rfl (by kernel_rfl) (by kernel_rfl) (by kernel_rfl) (fun c a w h => hq28 (d := 25) (by decide) (by decide) c a w h) (Or.inl ⟨by kernel_rfl, ?v4_25h⟩) hHeld ?v4_25n
            case v4_25h => (intro w hSw; (try dsimp only at hSw); go_simp; (try exact rfl))
            try simp only [Act.put, List.setIfInBounds_toArray, List.set_cons_zero, List.set_cons_succ]
            refine wpAnyH_ready (rs := [4]) (by kernel_rfl) (by simp) ?_
            refine AllReadyH.cons rfl (fun K' hK => ?_) AllReadyH.nil
            go_simp
            refine (J3.out.stmt ho (by omega)).mono ?_
            rintro e w4 ⟨nC, y, hy, hm⟩
            rcases y with ⟨er, i⟩ | ⟨s3, r3⟩
            · obtain ⟨rfl, hF⟩ := hm
              have hX := ERR.out nC (er, i) hy
              obtain ⟨⟨v1, hl1⟩, ⟨v2, v3, hs1⟩, hF1, hb1, hb2, hne⟩ := hF
              refine leaves_cons (f := 47) (args := #[.pointer (some ⟨w.heap.size, 0, none⟩), .pointer (some ⟨w.heap.size + 1, 0, none⟩)]) (by simp) (by simp [go_sem]) ?_
              refine (catch_panic w.heap.size (w.heap.size + 1) er ((tokAt L E i).at_ : Int) _ hne v1 v2 v3 hl1 hs1).mono ?_
              rintro e u' w'' ⟨rfl, rfl, ct⟩
              exact leaves_err rfl rfl ct hF1 hb1 hb2 hX
            obtain ⟨x3, he, hr3, hO, hJ⟩ := hm
            obtain ⟨k0, T1, T2, A1, n1, c1, A2, n2, c2, st, A3, n3, c3, A4, n4, c4, A5, n5, c5, T3, T4, T5, T6, de, li, hv⟩ := smC_form s3 x3
            rw [hv] at he
            subst he
            have HV := Lib.hid hv
            have XC := Lib.hid hy
            have J4 := Lib.hid hJ
            have O4 := Lib.hid hO
            clear hJ hy hO hv
            refine hK.out _ _ trivial (fun hHeld => ?_)
            clear hK K'
            try simp only [Act.put, List.setIfInBounds_toArray, List.set_cons_zero, List.set_cons_succ]
            refine wpAnyH_ready (rs := [5]) (by kernel_rfl) (by simp) ?_
            refine AllReadyH.cons rfl (fun K' hK => ?_) AllReadyH.nil
            go_simp
            have hbb : Below w4.heap.size w4 (w4.alloc (.cells #[.int .i64 k0, .string T1, .string T2, .slice A1 n1 c1, .slice A2 n2 c2, .bool st, .slice A3 n3 c3, .slice A4 n4 c4, .slice A5 n5 c5, .string T3, .string T4, .string T5, .string T6, .bool de, .int .i64 li] 38)) := (Below.refl _ _).alloc (Nat.le_refl _) _
            have J5 := Lib.hid (J4.out.below hbb)
            have O5 := Lib.hid (O4.out.k4 (K4.below hbb))
            have P7 : Hid (Blk (w4.alloc (.cells #[.int .i64 k0, .string T1, .string T2, .slice A1 n1 c1, .slice A2 n2 c2, .bool st, .slice A3 n3 c3, .slice A4 n4 c4, .slice A5 n5 c5, .string T3, .string T4, .string T5, .string T6, .bool de, .int .i64 li] 38)) w4.heap.size 38 #[.int .i64 k0, .string T1, .string T2, .slice A1 n1 c1, .slice A2 n2 c2, .bool st, .slice A3 n3 c3, .slice A4 n4 c4, .slice A5 n5 c5, .string T3, .string T4, .string T5, .string T6, .bool de, .int .i64 li]) := Lib.hid (Blk.new w4 38 _)
            refine hK.out _ _ trivial (fun hHeld => ?_)
            clear hK K' hbb
            generalize (w4.alloc (.cells #[.int .i64 k0, .string T1, .string T2, .slice A1 n1 c1, .slice A2 n2 c2, .bool st, .slice A3 n3 c3, .slice A4 n4 c4, .slice A5 n5 c5, .string T3, .string T4, .string T5, .string T6, .bool de, .int .i64 li] 38)) = w5 at *
            generalize w4.heap.size = p7 at *
            try simp only [Act.put, List.setIfInBounds_toArray, List.set_cons_zero, List.set_cons_succ]
            refine wpAnyH_ready (rs := [6]) (by kernel_rfl) (by simp) ?_
            refine AllReadyH.cons rfl (fun K' hK => ?_) AllReadyH.nil
            obtain ⟨vs, hv, hR⟩ := J5.out.own
            refine step_append_any rfl (.tmp 22) (.tmp 27) 23 38 rfl (by kernel_rfl) (.agg #[.int .i64 0, .string ⟨#[]⟩, .string ⟨#[]⟩, .slice none 0 0, .slice none 0 0, .bool false, .slice none 0 0, .slice none 0 0, .slice none 0 0, .string ⟨#[]⟩, .string ⟨#[]⟩, .string ⟨#[]⟩, .string ⟨#[]⟩, .bool false, .int .i64 0]) 15 248 (by kernel_rfl) (by kernel_rfl) (by decide) (by decide) w.heap.size A9 l2.length c9 vs rfl hv p7 [.int .i64 k0, .string T1, .string T2, .slice A1 n1 c1, .slice A2 n2 c2, .bool st, .slice A3 n3 c3, .slice A4 n4 c4, .slice A5 n5 c5, .string T3, .string T4, .string T5, .string T6, .bool de, .int .i64 li] rfl rfl P7.out (by simp [Value.oneCell']) (by omega) J5.out.size ?_
            intro A8 c8 w9 ho9 hg9
            obtain ⟨J9, c39, f39⟩ := J5.out.put hv hR O5.out hg9 (by rw [HV.out]; exact ho9)
            refine hK.out _ _ trivial (fun hHeld => ?_)
            clear hK K'
            try simp only [Act.put, List.setIfInBounds_toArray, List.set_cons_zero, List.set_cons_succ]
            refine wpAnyH_ready (rs := [7]) (by kernel_rfl) (by simp) ?_
            refine AllReadyH.cons rfl (fun K' hK => ?_) AllReadyH.nil
            go_simp
            refine hK.out _ _ trivial (fun hHeld => ?_)
            clear hK K'
            try simp only [Act.put, List.setIfInBounds_toArray, List.set_cons_zero, List.set_cons_succ]
            refine wpAnyH_done (by kernel_rfl) ?_ _
            clear ho9 hg9 hv hR c39 f39
            generalize w9.setCell ⟨w.heap.size, 0, none⟩ _ = w10 at *
            go_wp2_with fail
            go_meet
            case rel => exact ⟨nC, s3, r3, A8, c8, XC, hr3, Lib.hid J9⟩
          · skip
            have cl7 : w3.cell? ⟨w.heap.size, 0, none⟩ = some (.slice A9 l2.length c9) := J3.out.lb.cell 0
            go_simp
            clear cl7
            refine hK.out _ _ trivial (fun hHeld => ?_)
            clear hK K'
            try simp only [Act.put, List.setIfInBounds_toArray, List.set_cons_zero, List.set_cons_succ]
            refine take_d (i := 3) (d := 25) (v := ?v8_25) rfl rfl (by kernel_rfl) (by kernel_rfl) (by kernel_rfl) (fun c a w h => hq28 (d := 25) (by decide) (by decide) c a w h) (Or.inl ⟨by kernel_rfl, ?v8_25h⟩) hHeld ?v8_25n
            case v8_25h => (intro w hSw; (try dsimp only at hSw); go_simp; (try exact rfl))
            try simp only [Act.put, List.setIfInBounds_toArray, List.set_cons_zero, List.set_cons_succ]
            refine wpAnyH_ready (rs := [0, 4]) (by kernel_rfl) (by simp) ?_
            refine AllReadyH.cons rfl (fun K' hK => ?_) (AllReadyH.cons rfl (fun K' hK => ?_) AllReadyH.nil)
            · skip
              have cl9 : w3.cell? ⟨w.heap.size, 0, none⟩ = some (.slice A9 l2.length c9) := J3.out.lb.cell 0
              go_simp
              clear cl9
              refine hK.out _ _ trivial (fun hHeld => ?_)
              clear hK K'
              try simp only [Act.put, List.setIfInBounds_toArray, List.set_cons_zero, List.set_cons_succ]
              refine wpAnyH_ready (rs := [4]) (by kernel_rfl) (by simp) ?_
              refine AllReadyH.cons rfl (fun K' hK => ?_) AllReadyH.nil
              go_simp
              refine (J3.out.stmt ho (by omega)).mono ?_
              rintro e w4 ⟨nC, y, hy, hm⟩
              rcases y with ⟨er, i⟩ | ⟨s3, r3⟩
              · obtain ⟨rfl, hF⟩ := hm
                have hX := ERR.out nC (er, i) hy
                obtain ⟨⟨v1, hl1⟩, ⟨v2, v3, hs1⟩, hF1, hb1, hb2, hne⟩ := hF
                refine leaves_cons (f := 47) (args := #[.pointer (some ⟨w.heap.size, 0, none⟩), .pointer (some ⟨w.heap.size + 1, 0, none⟩)]) (by simp) (by simp [go_sem]) ?_
                refine (catch_panic w.heap.size (w.heap.size + 1) er ((tokAt L E i).at_ : Int) _ hne v1 v2 v3 hl1 hs1).mono ?_
                rintro e u' w'' ⟨rfl, rfl, ct⟩
                exact leaves_err rfl rfl ct hF1 hb1 hb2 hX
              obtain ⟨x3, he, hr3, hO, hJ⟩ := hm
              obtain ⟨k0, T1, T2, A1, n1, c1, A2, n2, c2, st, A3, n3, c3, A4, n4, c4, A5, n5, c5, T3, T4, T5, T6, de, li, hv⟩ := smC_form s3 x3
              rw [hv] at he
              subst he
              have HV := Lib.hid hv
              have XC := Lib.hid hy
              have J4 := Lib.hid hJ
              have O4 := Lib.hid hO
              clear hJ hy hO hv
              refine hK.out _ _ trivial (fun hHeld => ?_)
              clear hK K'
              try simp only [Act.put, List.setIfInBounds_toArray, List.set_cons_zero, List.set_cons_succ]
              refine wpAnyH_ready (rs := [5]) (by kernel_rfl) (by simp) ?_
              refine AllReadyH.cons rfl (fun K' hK => ?_) AllReadyH.nil
              go_simp
              have hbb : Below w4.heap.size w4 (w4.alloc (.cells #[.int .i64 k0, .string T1, .string T2, .slice A1 n1 c1, .slice A2 n2 c2, .bool st, .slice A3 n3 c3, .slice A4 n4 c4, .slice A5 n5 c5, .string T3, .string T4, .string T5, .string T6, .bool de, .int .i64 li] 38)) := (Below.refl _ _).alloc (Nat.le_refl _) _
              have J5 := Lib.hid (J4.out.below hbb)
              have O5 := Lib.hid (O4.out.k4 (K4.below hbb))
              have P7 : Hid (Blk (w4.alloc (.cells #[.int .i64 k0, .string T1, .string T2, .slice A1 n1 c1, .slice A2 n2 c2, .bool st, .slice A3 n3 c3, .slice A4 n4 c4, .slice A5 n5 c5, .string T3, .string T4, .string T5, .string T6, .bool de, .int .i64 li] 38)) w4.heap.size 38 #[.int .i64 k0, .string T1, .string T2, .slice A1 n1 c1, .slice A2 n2 c2, .bool st, .slice A3 n3 c3, .slice A4 n4 c4, .slice A5 n5 c5, .string T3, .string T4, .string T5, .string T6, .bool de, .int .i64 li]) := Lib.hid (Blk.new w4 38 _)
              refine hK.out _ _ trivial (fun hHeld => ?_)
              clear hK K' hbb
              generalize (w4.alloc (.cells #[.int .i64 k0, .string T1, .string T2, .slice A1 n1 c1, .slice A2 n2 c2, .bool st, .slice A3 n3 c3, .slice A4 n4 c4, .slice A5 n5 c5, .string T3, .string T4, .string T5, .string T6, .bool de, .int .i64 li] 38)) = w5 at *
              generalize w4.heap.size = p7 at *
              try simp only [Act.put, List.setIfInBounds_toArray, List.set_cons_zero, List.set_cons_succ]
              refine wpAnyH_ready (rs := [6]) (by kernel_rfl) (by simp) ?_
              refine AllReadyH.cons rfl (fun K' hK => ?_) AllReadyH.nil
              obtain ⟨vs, hv, hR⟩ := J5.out.own
              refine step_append_any rfl (.tmp 22) (.tmp 27) 23 38 rfl (by kernel_rfl) (.agg #[.int .i64 0, .string ⟨#[]⟩, .string ⟨#[]⟩, .slice none 0 0, .slice none 0 0, .bool false, .slice none 0 0, .slice none 0 0, .slice none 0 0, .string ⟨#[]⟩, .string ⟨#[]⟩, .string ⟨#[]⟩, .string ⟨#[]⟩, .bool false, .int .i64 0]) 15 248 (by kernel_rfl) (by kernel_rfl) (by decide) (by decide) w.heap.size A9 l2.length c9 vs rfl hv p7 [.int .i64 k0, .string T1, .string T2, .slice A1 n1 c1, .slice A2 n2 c2, .bool st, .slice A3 n3 c3, .slice A4 n4 c4, .slice A5 n5 c5, .string T3, .string T4, .string T5, .string T6, .bool de, .int .i64 li] rfl rfl P7.out (by simp [Value.oneCell']) (by omega) J5.out.size ?_
              intro A8 c8 w9 ho9 hg9
              obtain ⟨J9, c39, f39⟩ := J5.out.put hv hR O5.out hg9 (by rw [HV.out]; exact ho9)
              refine hK.out _ _ trivial (fun hHeld => ?_)
              clear hK K'
              try simp only [Act.put, List.setIfInBounds_toArray, List.set_cons_zero, List.set_cons_succ]
              refine wpAnyH_ready (rs := [7]) (by kernel_rfl) (by simp) ?_
              refine AllReadyH.cons rfl (fun K' hK => ?_) AllReadyH.nil
              go_simp
              refine hK.out _ _ trivial (fun hHeld => ?_)
              clear hK K'
              try simp only [Act.put, List.setIfInBounds_toArray, List.set_cons_zero, List.set_cons_succ]
              refine wpAnyH_done (by kernel_rfl) ?_ _
              clear ho9 hg9 hv hR c39 f39
              generalize w9.setCell ⟨w.heap.size, 0, none⟩ _ = w10 at *
              go_wp2_with fail
              go_meet
              case rel => exact ⟨nC, s3, r3, A8, c8, XC, hr3, Lib.hid J9⟩
            · skip
              go_simp
              refine (J3.out.stmt ho (by omega)).mono ?_
              rintro e w4 ⟨nC, y, hy, hm⟩
              rcases y with ⟨er, i⟩ | ⟨s3, r3⟩
              · obtain ⟨rfl, hF⟩ := hm
                have hX := ERR.out nC (er, i) hy
                obtain ⟨⟨v1, hl1⟩, ⟨v2, v3, hs1⟩, hF1, hb1, hb2, hne⟩ := hF
                refine leaves_cons (f := 47) (args := #[.pointer (some ⟨w.heap.size, 0, none⟩), .pointer (some ⟨w.heap.size + 1, 0, none⟩)]) (by simp) (by simp [go_sem]) ?_
                refine (catch_panic w.heap.size (w.heap.size + 1) er ((tokAt L E i).at_ : Int) _ hne v1 v2 v3 hl1 hs1).mono ?_
                rintro e u' w'' ⟨rfl, rfl, ct⟩
                exact leaves_err rfl rfl ct hF1 hb1 hb2 hX
              obtain ⟨x3, he, hr3, hO, hJ⟩ := hm
              obtain ⟨k0, T1, T2, A1, n1, c1, A2, n2, c2, st, A3, n3, c3, A4, n4, c4, A5, n5, c5, T3, T4, T5, T6, de, li, hv⟩ := smC_form s3 x3
              rw [hv] at he
              subst he
              have HV := Lib.hid hv
              have XC := Lib.hid hy
              have J4 := Lib.hid hJ
              have O4 := Lib.hid hO
              clear hJ hy hO hv
              refine hK.out _ _ trivial (fun hHeld => ?_)
              clear hK K'
              try simp only [Act.put, List.setIfInBounds_toArray, List.set_cons_zero, List.set_cons_succ]
              refine wpAnyH_ready (rs := [0, 5]) (by kernel_rfl) (by simp) ?_
              refine AllReadyH.cons rfl (fun K' hK => ?_) (AllReadyH.cons rfl (fun K' hK => ?_) AllReadyH.nil)
              · skip
                have cl13 : w4.cell? ⟨w.heap.size, 0, none⟩ = some (.slice A9 l2.length c9) := J4.out.lb.cell 0
                go_simp
                clear cl13
                refine hK.out _ _ trivial (fun hHeld => ?_)
                clear hK K'
                try simp only [Act.put, List.setIfInBounds_toArray, List.set_cons_zero, List.set_cons_succ]
                refine wpAnyH_ready (rs := [5]) (by kernel_rfl) (by simp) ?_
                refine AllReadyH.cons rfl (fun K' hK => ?_) AllReadyH.nil
                go_simp
                have hbb : Below w4.heap.size w4 (w4.alloc (.cells #[.int .i64 k0, .string T1, .string T2, .slice A1 n1 c1, .slice A2 n2 c2, .bool st, .slice A3 n3 c3, .slice A4 n4 c4, .slice A5 n5 c5, .string T3, .string T4, .string T5, .string T6, .bool de, .int .i64 li] 38)) := (Below.refl _ _).alloc (Nat.le_refl _) _
                have J5 := Lib.hid (J4.out.below hbb)
                have O5 := Lib.hid (O4.out.k4 (K4.below hbb))
                have P7 : Hid (Blk (w4.alloc (.cells #[.int .i64 k0, .string T1, .string T2, .slice A1 n1 c1, .slice A2 n2 c2, .bool st, .slice A3 n3 c3, .slice A4 n4 c4, .slice A5 n5 c5, .string T3, .string T4, .string T5, .string T6, .bool de, .int .i64 li] 38)) w4.heap.size 38 #[.int .i64 k0, .string T1, .string T2, .slice A1 n1 c1, .slice A2 n2 c2, .bool st, .slice A3 n3 c3, .slice A4 n4 c4, .slice A5 n5 c5, .string T3, .string T4, .string T5, .string T6, .bool de, .int .i64 li]) := Lib.hid (Blk.new w4 38 _)
                refine hK.out _ _ trivial (fun hHeld => ?_)
                clear hK K' hbb
                generalize (w4.alloc (.cells #[.int .i64 k0, .string T1, .string T2, .slice A1 n1 c1, .slice A2 n2 c2, .bool st, .slice A3 n3 c3, .slice A4 n4 c4, .slice A5 n5 c5, .string T3, .string T4, .string T5, .string T6, .bool de, .int .i64 li] 38)) = w5 at *
                generalize w4.heap.size = p7 at *
                try simp only [Act.put, List.setIfInBounds_toArray, List.set_cons_zero, List.set_cons_succ]
                refine wpAnyH_ready (rs := [6]) (by kernel_rfl) (by simp) ?_
                refine AllReadyH.cons rfl (fun K' hK => ?_) AllReadyH.nil
                obtain ⟨vs, hv, hR⟩ := J5.out.own
                refine step_append_any rfl (.tmp 22) (.tmp 27) 23 38 rfl (by kernel_rfl) (.agg #[.int .i64 0, .string ⟨#[]⟩, .string ⟨#[]⟩, .slice none 0 0, .slice none 0 0, .bool false, .slice none 0 0, .slice none 0 0, .slice none 0 0, .string ⟨#[]⟩, .string ⟨#[]⟩, .string ⟨#[]⟩, .string ⟨#[]⟩, .bool false, .int .i64 0]) 15 248 (by kernel_rfl) (by kernel_rfl) (by decide) (by decide) w.heap.size A9 l2.length c9 vs rfl hv p7 [.int .i64 k0, .string T1, .string T2, .slice A1 n1 c1, .slice A2 n2 c2, .bool st, .slice A3 n3 c3, .slice A4 n4 c4, .slice A5 n5 c5, .string T3, .string T4, .string T5, .string T6, .bool de, .int .i64 li] rfl rfl P7.out (by simp [Value.oneCell']) (by omega) J5.out.size ?_
                intro A8 c8 w9 ho9 hg9
                obtain ⟨J9, c39, f39⟩ := J5.out.put hv hR O5.out hg9 (by rw [HV.out]; exact ho9)
                refine hK.out _ _ trivial (fun hHeld => ?_)
                clear hK K'
                try simp only [Act.put, List.setIfInBounds_toArray, List.set_cons_zero, List.set_cons_succ]
                refine wpAnyH_ready (rs := [7]) (by kernel_rfl) (by simp) ?_
                refine AllReadyH.cons rfl (fun K' hK => ?_) AllReadyH.nil
                go_simp
                refine hK.out _ _ trivial (fun hHeld => ?_)
                clear hK K'
                try simp only [Act.put, List.setIfInBounds_toArray, List.set_cons_zero, List.set_cons_succ]
                refine wpAnyH_done (by kernel_rfl) ?_ _
                clear ho9 hg9 hv hR c39 f39
                generalize w9.setCell ⟨w.heap.size, 0, none⟩ _ = w10 at *
                go_wp2_with fail
                go_meet
                case rel => exact ⟨nC, s3, r3, A8, c8, XC, hr3, Lib.hid J9⟩
              · skip
                go_simp
                have hbb : Below w4.heap.size w4 (w4.alloc (.cells #[.int .i64 k0, .string T1, .string T2, .slice A1 n1 c1, .slice A2 n2 c2, .bool st, .slice A3 n3 c3, .slice A4 n4 c4, .slice A5 n5 c5, .string T3, .string T4, .string T5, .string T6, .bool de, .int .i64 li] 38)) := (Below.refl _ _).alloc (Nat.le_refl _) _
                have J5 := Lib.hid (J4.out.below hbb)
                have O5 := Lib.hid (O4.out.k4 (K4.below hbb))
                have P7 : Hid (Blk (w4.alloc (.cells #[.int .i64 k0, .string T1, .string T2, .slice A1 n1 c1, .slice A2 n2 c2, .bool st, .slice A3 n3 c3, .slice A4 n4 c4, .slice A5 n5 c5, .string T3, .string T4, .string T5, .string T6, .bool de, .int .i64 li] 38)) w4.heap.size 38 #[.int .i64 k0, .string T1, .string T2, .slice A1 n1 c1, .slice A2 n2 c2, .bool st, .slice A3 n3 c3, .slice A4 n4 c4, .slice A5 n5 c5, .string T3, .string T4, .string T5, .string T6, .bool de, .int .i64 li]) := Lib.hid (Blk.new w4 38 _)
                refine hK.out _ _ trivial (fun hHeld => ?_)
                clear hK K' hbb
                generalize (w4.alloc (.cells #[.int .i64 k0, .string T1, .string T2, .slice A1 n1 c1, .slice A2 n2 c2, .bool st, .slice A3 n3 c3, .slice A4 n4 c4, .slice A5 n5 c5, .string T3, .string T4, .string T5, .string T6, .bool de, .int .i64 li] 38)) = w5 at *
                generalize w4.heap.size = p7 at *
                try simp only [Act.put, List.setIfInBounds_toArray, List.set_cons_zero, List.set_cons_succ]
                refine wpAnyH_ready (rs := [0]) (by kernel_rfl) (by simp) ?_
                refine AllReadyH.cons rfl (fun K' hK => ?_) AllReadyH.nil
                have cl16 : w5.cell? ⟨w.heap.size, 0, none⟩ = some (.slice A9 l2.length c9) := J5.out.lb.cell 0
                go_simp
                clear cl16
                refine hK.out _ _ trivial (fun hHeld => ?_)
                clear hK K'
                try simp only [Act.put, List.setIfInBounds_toArray, List.set_cons_zero, List.set_cons_succ]
                refine wpAnyH_ready (rs := [6]) (by kernel_rfl) (by simp) ?_
                refine AllReadyH.cons rfl (fun K' hK => ?_) AllReadyH.nil
                obtain ⟨vs, hv, hR⟩ := J5.out.own
                refine step_append_any rfl (.tmp 22) (.tmp 27) 23 38 rfl (by kernel_rfl) (.agg #[.int .i64 0, .string ⟨#[]⟩, .string ⟨#[]⟩, .slice none 0 0, .slice none 0 0, .bool false, .slice none 0 0, .slice none 0 0, .slice none 0 0, .string ⟨#[]⟩, .string ⟨#[]⟩, .string ⟨#[]⟩, .string ⟨#[]⟩, .bool false, .int .i64 0]) 15 248 (by kernel_rfl) (by kernel_rfl) (by decide) (by decide) w.heap.size A9 l2.length c9 vs rfl hv p7 [.int .i64 k0, .string T1, .string T2, .slice A1 n1 c1, .slice A2 n2 c2, .bool st, .slice A3 n3 c3, .slice A4 n4 c4, .slice A5 n5 c5, .string T3, .string T4, .string T5, .string T6, .bool de, .int .i64 li] rfl rfl P7.out (by simp [Value.oneCell']) (by omega) J5.out.size ?_
                intro A8 c8 w9 ho9 hg9
                obtain ⟨J9, c39, f39⟩ := J5.out.put hv hR O5.out hg9 (by rw [HV.out]; exact ho9)
                refine hK.out _ _ trivial (fun hHeld => ?_)
                clear hK K'
                try simp only [Act.put, List.setIfInBounds_toArray, List.set_cons_zero, List.set_cons_succ]
                refine wpAnyH_ready (rs := [7]) (by kernel_rfl) (by simp) ?_
                refine AllReadyH.cons rfl (fun K' hK => ?_) AllReadyH.nil
                go_simp
                refine hK.out _ _ trivial (fun hHeld => ?_)
                clear hK K'
                try simp only [Act.put, List.setIfInBounds_toArray, List.set_cons_zero, List.set_cons_succ]
                refine wpAnyH_done (by kernel_rfl) ?_ _
                clear ho9 hg9 hv hR c39 f39
                generalize w9.setCell ⟨w.heap.size, 0, none⟩ _ = w10 at *
                go_wp2_with fail
                go_meet
                case rel => exact ⟨nC, s3, r3, A8, c8, XC, hr3, Lib.hid J9⟩
        case rest =>
          obtain ⟨nC, s3, r3, A8, c8, XC, hr3, J4⟩ := hcut
          have hne := stF_lt XC.out
          clear J2 ERR
          generalize wc = w4 at *
          have hll : (l2 ++ [s3]).length = l2.length + 1 := by simp
          obtain ⟨B4, n4, nc4, hs4⟩ := J4.out.sx
          have x0 : w4.cell? ⟨q, 0, none⟩ = some (.slice A L.length c) := hs4.pt.blk.cell 0
          have x1 : w4.cell? ⟨q, 1, none⟩ = some (.int .i64 (r3 : Int)) := hs4.pt.blk.cell 1
          clear hs4
          by_cases h1 : r3 < L.length
          · have e1 : decide ((r3 : Int) < (L.length : Int)) = true := by simp; omega
            have ERR5 : Hid (∀ ei, wordsF L E r3 [[59]] = .error ei → ∃ n', stsF L E o n' r [] = some (.error ei)) := Lib.hid (fun ei h => CT.out (nC + 1) _ (by unfold stsF; rw [if_pos hc, XC.out]; simp only; rw [if_pos h1, h]))
            have CT5 : Hid (∀ r5, wordsF L E r3 [[59]] = .ok r5 → ∀ n y, stsF L E o n r5 (l2 ++ [s3]) = some y → ∃ n', stsF L E o n' r [] = some y) := Lib.hid (fun r5 h n y hy => CT.out (max n nC + 1) _ (by unfold stsF; rw [if_pos hc, show stF L E o (max n nC) l2.length r2 = _ from stF_mono L E o _ _ nC _ _ (Nat.le_max_right _ _) XC.out]; simp only; rw [if_pos h1, h]; exact stsF_mono L E o n _ _ _ _ (Nat.le_max_left _ _) hy))
            have e2 := decide_eq_true h1
            clear hc hbd
            go_upto_region 4 with fail
            go_quiet (fail)
            have J5 := Lib.hid (J4.out.below (below_drewN' w4.heap.size w4 nq))
            clear x0 x1 J4
            generalize w4.drewN nq = w5 at *
            have WH : Hid (Calls Tryz.prog 49 #[.pointer (some ⟨q, 0, none⟩), .slice (some ⟨w5.heap.size, 0, none⟩) 1 1] (w5.alloc (.cells #[.string ⟨#[59]⟩] 9)) fun e w' => Aw (rwd L E r3 [[59]]) (fun _ r' e w' => e = .returned (.tuple #[]) ∧ r3 ≤ r' ∧ Lx w w' base q A c L E m r' o w.heap.size (w.heap.size + 1) (l2 ++ [s3]) A8 c8) (Lz w q w.heap.size (w.heap.size + 1)) L E e w') := Lib.hid (J5.out.words [[59]] 1 rfl (by omega))
            go_upto_region 5 with fail
            go_wp2_with (go_at_call 49; refine WH.out.mono ?_; rintro e w6 ⟨y, hy, hm⟩; rcases y with ⟨er, i⟩ | ⟨un6, r6⟩ <;> first | (obtain ⟨rfl, hF⟩ := hm; have hX := ERR5.out (er, i) (rwd_err hy); obtain ⟨⟨v1, hl1⟩, ⟨v2, v3, hs1⟩, hF1, hb1, hb2, hne⟩ := hF; refine leaves_cons (f := 47) (args := #[.pointer (some ⟨w.heap.size, 0, none⟩), .pointer (some ⟨w.heap.size + 1, 0, none⟩)]) (by simp) (by simp [go_sem]) ?_; refine (catch_panic w.heap.size (w.heap.size + 1) er ((tokAt L E i).at_ : Int) _ hne v1 v2 v3 hl1 hs1).mono ?_; rintro e u' w'' ⟨rfl, rfl, ct⟩; exact leaves_err rfl rfl ct hF1 hb1 hb2 hX) | (obtain ⟨rfl, hr6, hJ⟩ := hm; have J6 := Lib.hid hJ; have CT6 := Lib.hid (CT5.out r6 (rwd_ok hy)); clear hJ hy))
            have RW6 := J6.out.lenAt
            go_roundw
            case rel => exact ⟨r6, l2 ++ [s3], A8, c8, by omega, J6, CT6⟩
            case measure => rw [RW6, RW]; omega
          · have e1 : decide ((r3 : Int) < (L.length : Int)) = false := by simp; omega
            have CT5 : Hid (∀ n y, stsF L E o n r3 (l2 ++ [s3]) = some y → ∃ n', stsF L E o n' r [] = some y) := Lib.hid (fun n y hy => CT.out (max n nC + 1) _ (by unfold stsF; rw [if_pos hc, show stF L E o (max n nC) l2.length r2 = _ from stF_mono L E o _ _ nC _ _ (Nat.le_max_right _ _) XC.out]; simp only; rw [if_neg h1]; exact stsF_mono L E o n _ _ _ _ (Nat.le_max_left _ _) hy))
            have e2 := decide_eq_false h1
            clear hc hbd
            go_upto_region 4 with fail
            go_quiet (fail)
            have J5 := Lib.hid (J4.out.below (below_drewN' w4.heap.size w4 nq))
            clear x0 x1 J4
            generalize w4.drewN nq = w5 at *
            have RW6 := J5.out.lenAt
            go_wp2_with fail
            go_roundw
            case rel => exact ⟨r3, l2 ++ [s3], A8, c8, by omega, J5, CT5⟩
            case measure => rw [RW6, RW]; omega
      | false =>
        have hc := of_decide_eq_false hbd
        have hX := CT.out 1 (.ok l2) (by unfold stsF; rw [if_neg hc])
        have x2 : w2.cell? ⟨w.heap.size, 0, none⟩ = some (.slice A9 l2.length c9) := J2.out.lb.cell 0
        have y2 : w2.frozen? ⟨w.heap.size, 0, none⟩ = false := J2.out.lb.frozen 0
        clear hc hbd CT
        have J3 := Lib.hid J2.out.again
        go_wp2_with ((with_reducible refine at_store (t := 26) ?_); refine wpList_store_blk _ rfl 26 _ _ rfl (w.heap.size + 1) _ 26 [.int .i64 0, .int .i64 0] rfl rfl J3.out.sb rfl Tryz.i26' (by simp [Value.oneCell']) ?_; intro w8 hb8 ho8; have X8 := Lib.hid hb8; have O8 := Lib.hid ho8; clear hb8 ho8)
        refine leaves_cons (f := 47) (args := #[.pointer (some ⟨w.heap.size, 0, none⟩), .pointer (some ⟨w.heap.size + 1, 0, none⟩)]) (by simp) (by simp [go_sem]) ?_
        refine (catch_idle ⟨w.heap.size, 0, none⟩ ⟨w.heap.size + 1, 0, none⟩ _).mono ?_
        rintro e u' w'' ⟨rfl, rfl, hB⟩
        obtain ⟨d1, d2, d3, d4⟩ := J3.out.fin X8.out O8.out hB
        exact leaves_ok rfl rfl d1 d2 d3 d4 hX
end Go.Proofs.YtiipglmbfgmbbaaGreatDoor
