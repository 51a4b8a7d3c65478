/-
  SELECT, behind its first word.
-/
import Derived.Test.YtiipglmbfgmbbaaGreatDoorP38
namespace Go.Proofs.YtiipglmbfgmbbaaGreatDoor
open Go.RowKit Go.Shelf
attribute [local go_sem] Oper.semAt_some
attribute [local go_sem ↓] ne36 eqG36

set_option maxRecDepth 100000 in
set_option maxHeartbeats 8000000 in
theorem choose_any (base q : Nat) (A : Option Addr) (c : Nat) (L : List Tk) (E m o g : Nat) (ho : o ≤ 16) (w : World) (r : Nat) (s : Sm) (x : Cx) (h : Bx w base q A c L E m r o g w.heap.size s x) (hl : lens s = 0) (hst : s.star = false) :
    Calls Tryz.prog 81 #[.pointer (some ⟨q, 0, none⟩), .pointer (some ⟨g, 0, none⟩)] w (Lr (fun n => chF L E o n r s) (Js w base q A c L E m o g) (Fg w.heap.size q g w) L E r) := by
  have J1 := Lib.hid (Jx.enter h)
  have hmf : ∀ (fn : Fn) (first cap : Array Value) (w : World), (Instr.makeFunc fn first cap).run Tryz.prog w = .ok (.func fn first cap) w := fun _ _ _ _ => rfl
  have CT1 : Hid (∀ n y, chF L E o n r s = some y → ∃ n', chF L E o n' r s = some y) := Lib.hid (fun n y h => ⟨n, h⟩)
  clear h
  go_enter Tryz.func81, Tryz.ntmps81
  go_upto_region 1 with fail
  generalize (w.alloc (.cells #[.pointer (some ⟨q, 0, none⟩)] 112)).alloc (.cells #[.pointer (some ⟨g, 0, none⟩)] 137) = w1 at *
  have CTa : Hid (∀ n y, chA L E o n r s = some y → ∃ n', chA L E o n' r s = some y) := Lib.hid (fun n y h => ⟨n, h⟩)
  obtain ⟨ba, hba⟩ : ∃ b, isB (tokAt L E r) [42] = b := ⟨_, rfl⟩
  obtain ⟨ra, hra⟩ : ∃ r', (if ba = true then r + 1 else r) = r' := ⟨_, rfl⟩
  have lera : r ≤ ra := by rw [← hra]; split <;> omega
  have J1d := Lib.hid (J1.out.below (w' := w1.drew) ⟨rfl, rfl, rfl, Nat.le_refl _, fun _ _ => rfl⟩)
  refine wp_region_held_drew (S := fun w' => w'.cell? ⟨(w.heap.size + 1), 0, none⟩ = some (.pointer (some ⟨g, 0, none⟩)) ∧ w'.cell? ⟨w.heap.size, 0, none⟩ = some (.pointer (some ⟨q, 0, none⟩))) (by kernel_rfl) J1d.out.w2 (fun hHeld => ?_)
  generalize w1.drew = w2 at *
  clear J1
  refine take_d (i := 0) (d := 4) (v := ?v23_4) rfl rfl (by kernel_rfl) (by kernel_rfl) (by kernel_rfl) (fun _ _ _ h => h) (Or.inl ⟨by kernel_rfl, ?v23_4h⟩) hHeld ?v23_4n
  case v23_4h => (intro w hSw; (try dsimp only at hSw); go_split_ands; go_simp; (try exact rfl))
  try simp only [Act.put, List.setIfInBounds_toArray, List.set_cons_zero, List.set_cons_succ]
  refine take_d (i := 1) (d := 5) (v := ?v24_5) rfl rfl (by kernel_rfl) (by kernel_rfl) (by kernel_rfl) (fun _ _ _ h => h) (Or.inl ⟨by kernel_rfl, ?v24_5h⟩) hHeld ?v24_5n
  case v24_5h => (intro w hSw; (try dsimp only at hSw); go_split_ands; go_simp; (try exact rfl))
  try simp only [Act.put, List.setIfInBounds_toArray, List.set_cons_zero, List.set_cons_succ]
  refine take_d (i := 2) (d := 6) (v := ?v25_6) rfl rfl (by kernel_rfl) (by kernel_rfl) (by kernel_rfl) (fun _ _ _ h => h) (Or.inl ⟨by kernel_rfl, ?v25_6h⟩) hHeld ?v25_6n
  case v25_6h => (intro w hSw; (try dsimp only at hSw); go_split_ands; go_simp; (try exact rfl))
  try simp only [Act.put, List.setIfInBounds_toArray, List.set_cons_zero, List.set_cons_succ]
  refine take_d (i := 3) (d := 7) (v := ?v26_7) rfl rfl (by kernel_rfl) (by kernel_rfl) (by kernel_rfl) (fun _ _ _ h => h) (Or.inl ⟨by kernel_rfl, ?v26_7h⟩) hHeld ?v26_7n
  case v26_7h => (intro w hSw; (try dsimp only at hSw); go_split_ands; go_simp; (try exact rfl))
  try simp only [Act.put, List.setIfInBounds_toArray, List.set_cons_zero, List.set_cons_succ]
  refine wpAnyH_ready (rs := [4]) (by kernel_rfl) (by simp) ?_
  refine AllReadyH.cons rfl (fun K' hK => ?_) AllReadyH.nil
  go_simp
  refine (J1d.out.foundB hba hra).mono ?_
  rintro e w3 ⟨rfl, hJ⟩
  have J3 := Lib.hid hJ
  clear hJ
  refine hK.out _ _ J3.out.w2 (fun hHeld => ?_)
  clear hK K'
  try simp only [Act.put, List.setIfInBounds_toArray, List.set_cons_zero, List.set_cons_succ]
  refine take_d (i := 5) (d := 9) (v := ?v27_9) rfl rfl (by kernel_rfl) (by kernel_rfl) (by kernel_rfl) (fun _ _ _ h => h) (Or.inl ⟨by kernel_rfl, ?v27_9h⟩) hHeld ?v27_9n
  case v27_9h => (intro w hSw; (try dsimp only at hSw); go_split_ands; go_simp; (try exact rfl))
  try simp only [Act.put, List.setIfInBounds_toArray, List.set_cons_zero, List.set_cons_succ]
  refine take_d (i := 6) (d := 10) (v := ?v28_10) rfl rfl (by kernel_rfl) (by kernel_rfl) (by kernel_rfl) (fun _ _ _ h => h) (Or.inl ⟨by kernel_rfl, ?v28_10h⟩) hHeld ?v28_10n
  case v28_10h => (intro w hSw; (try dsimp only at hSw); go_split_ands; go_simp; (try exact rfl))
  try simp only [Act.put, List.setIfInBounds_toArray, List.set_cons_zero, List.set_cons_succ]
  refine wpAnyH_ready (rs := [7]) (by kernel_rfl) (by simp) ?_
  refine AllReadyH.cons rfl (fun K' hK => ?_) AllReadyH.nil
  have f1 : w3.frozen? ⟨g, 5, none⟩ = false := J3.out.bx.blk.frozen 5
  have f2 : w3.cell? ⟨g, 5, none⟩ = some (.bool s.star) := J3.out.bx.blk.cell 5
  go_simp
  clear f1 f2
  have J4 := Lib.hid (J3.out.sta ba)
  refine hK.out _ _ J4.out.w2 (fun hHeld => ?_)
  clear hK K'
  try simp only [Act.put, List.setIfInBounds_toArray, List.set_cons_zero, List.set_cons_succ]
  refine wpAnyH_done (by kernel_rfl) ?_ _
  generalize w3.setCell ⟨g, 5, none⟩ (.bool ba) = w4 at *
  clear J3 J1d
  have c3 : w4.cell? ⟨(w.heap.size + 1), 0, none⟩ = some (.pointer (some ⟨g, 0, none⟩)) := J4.out.s.cell 0
  have c5 : w4.cell? ⟨g, 5, none⟩ = some (.bool ba) := J4.out.bx.blk.cell 5
  go_upto_if 15 with fail
  clear c3 c5
  go_cut [] from 16 (fun wx => ∃ (r2 : Nat) (s2 : Sm) (x2 : Cx), Hid (Jx w w.heap.size wx base q A c L E m r2 o g w.heap.size w.heap.size (w.heap.size + 1) s2 x2) ∧ r ≤ r2 ∧ Hid (∀ n y, chA2 L E n r2 s2 = some y → ∃ n', chA L E o n' r s = some y))
  case first =>
    cases ba with
    | true =>
      go_wp2_with fail
      go_meet
      case rel => exact ⟨ra, _, _, J4, lera, Lib.hid (ct_step CTa.out (Mono.ite (Mono.const _) (lsF_mono L E _ (itS_mono L E o) _ _)) (fun _ _ => Mono.const _) (n1 := 0) (show (if isB (tokAt L E r) [42] = true then rok { s with star := true } (r + 1) else lsF L E (itS L E o) 0 r s) = some (.ok ({ s with star := true }, ra)) from by rw [if_pos hba, ← hra]; rfl))⟩
    | false =>
    have es : { s with star := false } = s := by cases s; simp only at hst; subst hst; rfl
    obtain rfl : r = ra := by simpa using hra
    rw [es] at J4
    have cp4 : w4.cell? ⟨w.heap.size, 0, none⟩ = some (.pointer (some ⟨q, 0, none⟩)) := J4.out.p.cell 0
    have LH := Lib.hid (list_118 L E q (.pointer (some ⟨(w.heap.size + 1), 0, none⟩)) (.pointer (some ⟨w.heap.size, 0, none⟩)) (itS L E o) (itS_mono L E o) (Jn 0 w w.heap.size base q A c L E m o g w.heap.size w.heap.size (w.heap.size + 1)) (Jn 1 w w.heap.size base q A c L E m o g w.heap.size w.heap.size (w.heap.size + 1)) (Fg w.heap.size q g w) (fun W r s hJ => clo118 w w.heap.size base q A c L E m o g w.heap.size w.heap.size (w.heap.size + 1) ho W r s hJ) jn_found jn_read w4 r s ⟨⟨_, J4.out⟩, by omega⟩)
    go_wp2_with (go_at_call 111; refine LH.out.mono ?_; rintro e w5 ⟨nC, y, hy, hm⟩; rcases y with ⟨er, i⟩ | ⟨s5, r5⟩ <;> first | (obtain ⟨hz', hF⟩ := hm; have hz : e = .panicked [{ v := .iface 26 (.agg #[.int .i64 er, .int .i64 ((tokAt L E i).at_ : Int)]), recovered := false }] := hz'; subst hz; clear hz'; have hx := ct_err CTa.out (n1 := nC) (show (if isB (tokAt L E r) [42] = true then rok { s with star := true } (r + 1) else lsF L E (itS L E o) nC r s) = some (.error (er, i)) from by rw [if_neg (by rw [hba]; decide)]; exact hy); obtain ⟨n', hx⟩ := hx; have hx := ct_err CT1.out (n1 := n') hx; obtain ⟨n', hx⟩ := hx; exact ⟨rfl, n', .error (er, i), hx, rfl, hF⟩) | (obtain ⟨rfl, hr5, ⟨x5, hJ⟩, hl5⟩ := hm; have CT5 := Lib.hid (ct_step CTa.out (Mono.ite (Mono.const _) (lsF_mono L E _ (itS_mono L E o) _ _)) (fun _ _ => Mono.const _) (n1 := nC) (show (if isB (tokAt L E r) [42] = true then rok { s with star := true } (r + 1) else lsF L E (itS L E o) nC r s) = some (.ok (s5, r5)) from by rw [if_neg (by rw [hba]; decide)]; exact hy)); have J5 := Lib.hid hJ; clear hJ hy))
    go_meet
    case rel => exact ⟨r5, s5, x5, J5, hr5, CT5⟩
  case rest =>
    obtain ⟨rc, sc, xc, Jc, hrc, CTc0⟩ := hcut
    clear J4 hba hra lera CTa
    have cp6 : wc.cell? ⟨w.heap.size, 0, none⟩ = some (.pointer (some ⟨q, 0, none⟩)) := Jc.out.p.cell 0
    have WH : Hid (Calls Tryz.prog 49 #[.pointer (some ⟨q, 0, none⟩), .slice (some ⟨wc.heap.size, 0, none⟩) 1 1] (wc.alloc (.cells #[.string ⟨#[70, 82, 79, 77]⟩] 9)) fun e w' => Aw (rwd L E rc [[70, 82, 79, 77]]) (fun _ r' e w' => e = .returned (.tuple #[]) ∧ rc ≤ r' ∧ Jx w w.heap.size w' base q A c L E m r' o g w.heap.size w.heap.size (w.heap.size + 1) sc xc) (Fg w.heap.size q g w) L E e w') := Lib.hid (Jc.out.words [[70, 82, 79, 77]] 1 rfl (by omega))
    go_upto_region 5 with (go_at_call 49; refine WH.out.mono ?_; rintro e w7 ⟨y, hy, hm⟩; rcases y with ⟨er, i⟩ | ⟨un7, r7⟩ <;> first | (obtain ⟨rfl, hF⟩ := hm; have hx := ct_err CTc0.out (n1 := 0) hy; obtain ⟨n', hx⟩ := hx; have hx := ct_err CT1.out (n1 := n') hx; obtain ⟨n', hx⟩ := hx; exact ⟨rfl, n', .error (er, i), hx, rfl, hF⟩) | (obtain ⟨rfl, hr7, hJ⟩ := hm; have CT7 := Lib.hid (ct_step CTc0.out (Mono.const _) (fun _ _ => Mono.const _) (n1 := 0) hy); have J7 := Lib.hid hJ; clear hJ hy))
    clear WH cp6 CTc0
    have J7d := Lib.hid (J7.out.below (w' := w7.drew) ⟨rfl, rfl, rfl, Nat.le_refl _, fun _ _ => rfl⟩)
    refine wp_region_held_drew (S := fun w' => w'.cell? ⟨(w.heap.size + 1), 0, none⟩ = some (.pointer (some ⟨g, 0, none⟩)) ∧ w'.cell? ⟨w.heap.size, 0, none⟩ = some (.pointer (some ⟨q, 0, none⟩))) (by kernel_rfl) J7d.out.w2 (fun hHeld => ?_)
    generalize w7.drew = w8 at *
    clear J7
    refine take_d (i := 0) (d := 26) (v := ?v29_26) rfl rfl (by kernel_rfl) (by kernel_rfl) (by kernel_rfl) (fun _ _ _ h => h) (Or.inl ⟨by kernel_rfl, ?v29_26h⟩) hHeld ?v29_26n
    case v29_26h => (intro w hSw; (try dsimp only at hSw); go_split_ands; go_simp; (try exact rfl))
    try simp only [Act.put, List.setIfInBounds_toArray, List.set_cons_zero, List.set_cons_succ]
    refine take_d (i := 1) (d := 27) (v := ?v30_27) rfl rfl (by kernel_rfl) (by kernel_rfl) (by kernel_rfl) (fun _ _ _ h => h) (Or.inl ⟨by kernel_rfl, ?v30_27h⟩) hHeld ?v30_27n
    case v30_27h => (intro w hSw; (try dsimp only at hSw); go_split_ands; go_simp; (try exact rfl))
    try simp only [Act.put, List.setIfInBounds_toArray, List.set_cons_zero, List.set_cons_succ]
    refine take_d (i := 2) (d := 28) (v := ?v31_28) rfl rfl (by kernel_rfl) (by kernel_rfl) (by kernel_rfl) (fun _ _ _ h => h) (Or.inl ⟨by kernel_rfl, ?v31_28h⟩) hHeld ?v31_28n
    case v31_28h => (intro w hSw; (try dsimp only at hSw); go_split_ands; go_simp; (try exact rfl))
    try simp only [Act.put, List.setIfInBounds_toArray, List.set_cons_zero, List.set_cons_succ]
    refine take_d (i := 3) (d := 29) (v := ?v32_29) rfl rfl (by kernel_rfl) (by kernel_rfl) (by kernel_rfl) (fun _ _ _ h => h) (Or.inl ⟨by kernel_rfl, ?v32_29h⟩) hHeld ?v32_29n
    case v32_29h => (intro w hSw; (try dsimp only at hSw); go_split_ands; go_simp; (try exact rfl))
    try simp only [Act.put, List.setIfInBounds_toArray, List.set_cons_zero, List.set_cons_succ]
    refine wpAnyH_ready (rs := [4]) (by kernel_rfl) (by simp) ?_
    refine AllReadyH.cons rfl (fun K' hK => ?_) AllReadyH.nil
    go_simp
    refine (J7d.out.name).mono ?_
    rintro e w9 ⟨y, hy, hm⟩
    rcases y with ⟨er, i⟩ | ⟨t9, r9⟩
    · obtain ⟨rfl, hF⟩ := hm; have hx := ct_err CT7.out (n1 := 0) hy; obtain ⟨n', hx⟩ := hx; have hx := ct_err CT1.out (n1 := n') hx; obtain ⟨n', hx⟩ := hx; exact ⟨rfl, n', .error (er, i), hx, rfl, hF⟩
    obtain ⟨T9, hT, rfl, hr9, hJ⟩ := hm
    have CT9 := Lib.hid (ct_step CT7.out (Mono.const _) (fun _ _ => Mono.const _) (n1 := 0) hy)
    have J9 := Lib.hid hJ
    have HT9 := Lib.hid hT
    clear hJ hy hT CT7
    refine hK.out _ _ J9.out.w2 (fun hHeld => ?_)
    clear hK K'
    try simp only [Act.put, List.setIfInBounds_toArray, List.set_cons_zero, List.set_cons_succ]
    refine take_d (i := 5) (d := 31) (v := ?v33_31) rfl rfl (by kernel_rfl) (by kernel_rfl) (by kernel_rfl) (fun _ _ _ h => h) (Or.inl ⟨by kernel_rfl, ?v33_31h⟩) hHeld ?v33_31n
    case v33_31h => (intro w hSw; (try dsimp only at hSw); go_split_ands; go_simp; (try exact rfl))
    try simp only [Act.put, List.setIfInBounds_toArray, List.set_cons_zero, List.set_cons_succ]
    refine take_d (i := 6) (d := 32) (v := ?v34_32) rfl rfl (by kernel_rfl) (by kernel_rfl) (by kernel_rfl) (fun _ _ _ h => h) (Or.inl ⟨by kernel_rfl, ?v34_32h⟩) hHeld ?v34_32n
    case v34_32h => (intro w hSw; (try dsimp only at hSw); go_split_ands; go_simp; (try exact rfl))
    try simp only [Act.put, List.setIfInBounds_toArray, List.set_cons_zero, List.set_cons_succ]
    refine wpAnyH_ready (rs := [7]) (by kernel_rfl) (by simp) ?_
    refine AllReadyH.cons rfl (fun K' hK => ?_) AllReadyH.nil
    have f1 : w9.frozen? ⟨g, 1, none⟩ = false := J9.out.bx.blk.frozen 1
    have f2 : w9.cell? ⟨g, 1, none⟩ = some (tx sc.table) := J9.out.bx.blk.cell 1
    go_simp
    clear f1 f2
    have J10 := Lib.hid (J9.out.tab HT9.out)
    refine hK.out _ _ J10.out.w2 (fun hHeld => ?_)
    clear hK K'
    try simp only [Act.put, List.setIfInBounds_toArray, List.set_cons_zero, List.set_cons_succ]
    refine wpAnyH_done (by kernel_rfl) ?_ _
    generalize w9.setCell ⟨g, 1, none⟩ (.string T9) = w10 at *
    clear J9 J7d
    go_upto_region 6 with fail
    obtain ⟨nA, hA⟩ := CT9.out 0 _ rfl
    have CTo := Lib.hid (ct_step CT1.out (chA_mono L E o r s) (fun _ _ => chRB_mono L E o _ _) (n1 := nA) hA)
    clear CT9 hA CT1
    obtain ⟨s4, hs4⟩ : ∃ s4, { sc with table := t9 } = s4 := ⟨_, rfl⟩
    rw [hs4] at J10 CTo
    have hr4 : r ≤ r9 := by omega
    obtain ⟨bb, hbb⟩ : ∃ b, isB (tokAt L E r9) [73, 78, 78, 69, 82] = b := ⟨_, rfl⟩
    obtain ⟨rb_, hrb_⟩ : ∃ r', (if bb = true then r9 + 1 else r9) = r' := ⟨_, rfl⟩
    have lerb_ : r9 ≤ rb_ := by rw [← hrb_]; split <;> omega
    have cp10 : w10.cell? ⟨w.heap.size, 0, none⟩ = some (.pointer (some ⟨q, 0, none⟩)) := J10.out.p.cell 0
    have FB : Hid (Calls Tryz.prog 82 #[.pointer (some ⟨q, 0, none⟩), .string ⟨#[73, 78, 78, 69, 82]⟩] w10 fun e w' => e = .returned (.bool bb) ∧ Jx w w.heap.size w' base q A c L E m rb_ o g w.heap.size w.heap.size (w.heap.size + 1) s4 xc) := Lib.hid (J10.out.foundB hbb hrb_)
    go_upto_if 36 with (go_at_call 82; refine FB.out.mono ?_; rintro e w11 ⟨rfl, hJ⟩; have J11 := Lib.hid hJ; clear hJ)
    clear FB cp10 J10
    go_cut [] from 37 (fun wx => ∃ (r2 : Nat) (s2 : Sm) (x2 : Cx), Hid (Jx w w.heap.size wx base q A c L E m r2 o g w.heap.size w.heap.size (w.heap.size + 1) s2 x2) ∧ r ≤ r2 ∧ Hid (∀ n y, chRC L E o n r2 s2 = some y → ∃ n', chF L E o n' r s = some y))
    case first =>
      cases bb with
      | false =>
        go_wp2_with fail
        go_meet
        case rel => exact ⟨rb_, s4, xc, J11, by omega, Lib.hid (ct_step CTo.out (chB_mono L E o _ _) (fun _ _ => chRC_mono L E o _ _) (n1 := 0) (show chB L E o 0 r9 s4 = some (.ok (s4, rb_)) from by unfold chB; rw [if_neg (by rw [hbb]; decide), ← hrb_]; rfl))⟩
      | true =>
        have CTb : Hid (∀ n y, chB2 L E o n rb_ s4 = some y → ∃ n', chB L E o n' r9 s4 = some y) := Lib.hid (fun n y h => ⟨n, by unfold chB; rw [if_pos hbb]; rw [← hrb_] at h; exact h⟩)
        have cp12 : w11.cell? ⟨w.heap.size, 0, none⟩ = some (.pointer (some ⟨q, 0, none⟩)) := J11.out.p.cell 0
        have WH : Hid (Calls Tryz.prog 49 #[.pointer (some ⟨q, 0, none⟩), .slice (some ⟨w11.heap.size, 0, none⟩) 1 1] (w11.alloc (.cells #[.string ⟨#[74, 79, 73, 78]⟩] 9)) fun e w' => Aw (rwd L E rb_ [[74, 79, 73, 78]]) (fun _ r' e w' => e = .returned (.tuple #[]) ∧ rb_ ≤ r' ∧ Jx w w.heap.size w' base q A c L E m r' o g w.heap.size w.heap.size (w.heap.size + 1) s4 xc) (Fg w.heap.size q g w) L E e w') := Lib.hid (J11.out.words [[74, 79, 73, 78]] 1 rfl (by omega))
        go_upto_region 8 with (go_at_call 49; refine WH.out.mono ?_; rintro e w13 ⟨y, hy, hm⟩; rcases y with ⟨er, i⟩ | ⟨un13, r13⟩ <;> first | (obtain ⟨rfl, hF⟩ := hm; have hx := ct_err CTb.out (n1 := 0) hy; obtain ⟨n', hx⟩ := hx; have hx := ct_err CTo.out (n1 := n') hx; obtain ⟨n', hx⟩ := hx; exact ⟨rfl, n', .error (er, i), hx, rfl, hF⟩) | (obtain ⟨rfl, hr13, hJ⟩ := hm; have CT13 := Lib.hid (ct_step CTb.out (Mono.const _) (fun _ _ => Mono.rb (Mono.const _) fun _ _ => Mono.rb (Mono.const _) fun _ _ => Mono.rb (exN_mono _ _ _ _) fun _ _ => Mono.const _) (n1 := 0) hy); have J13 := Lib.hid hJ; clear hJ hy))
        clear WH cp12 CTb
        have J13d := Lib.hid (J13.out.below (w' := w13.drew) ⟨rfl, rfl, rfl, Nat.le_refl _, fun _ _ => rfl⟩)
        refine wp_region_held_drew (S := fun w' => w'.cell? ⟨(w.heap.size + 1), 0, none⟩ = some (.pointer (some ⟨g, 0, none⟩)) ∧ w'.cell? ⟨w.heap.size, 0, none⟩ = some (.pointer (some ⟨q, 0, none⟩))) (by kernel_rfl) J13d.out.w2 (fun hHeld => ?_)
        generalize w13.drew = w14 at *
        clear J13
        refine take_d (i := 0) (d := 42) (v := ?v35_42) rfl rfl (by kernel_rfl) (by kernel_rfl) (by kernel_rfl) (fun _ _ _ h => h) (Or.inl ⟨by kernel_rfl, ?v35_42h⟩) hHeld ?v35_42n
        case v35_42h => (intro w hSw; (try dsimp only at hSw); go_split_ands; go_simp; (try exact rfl))
        try simp only [Act.put, List.setIfInBounds_toArray, List.set_cons_zero, List.set_cons_succ]
        refine take_d (i := 1) (d := 43) (v := ?v36_43) rfl rfl (by kernel_rfl) (by kernel_rfl) (by kernel_rfl) (fun _ _ _ h => h) (Or.inl ⟨by kernel_rfl, ?v36_43h⟩) hHeld ?v36_43n
        case v36_43h => (intro w hSw; (try dsimp only at hSw); go_split_ands; go_simp; (try exact rfl))
        try simp only [Act.put, List.setIfInBounds_toArray, List.set_cons_zero, List.set_cons_succ]
        refine take_d (i := 2) (d := 44) (v := ?v37_44) rfl rfl (by kernel_rfl) (by kernel_rfl) (by kernel_rfl) (fun _ _ _ h => h) (Or.inl ⟨by kernel_rfl, ?v37_44h⟩) hHeld ?v37_44n
        case v37_44h => (intro w hSw; (try dsimp only at hSw); go_split_ands; go_simp; (try exact rfl))
        try simp only [Act.put, List.setIfInBounds_toArray, List.set_cons_zero, List.set_cons_succ]
        refine take_d (i := 3) (d := 45) (v := ?v38_45) rfl rfl (by kernel_rfl) (by kernel_rfl) (by kernel_rfl) (fun _ _ _ h => h) (Or.inl ⟨by kernel_rfl, ?v38_45h⟩) hHeld ?v38_45n
        case v38_45h => (intro w hSw; (try dsimp only at hSw); go_split_ands; go_simp; (try exact rfl))
        try simp only [Act.put, List.setIfInBounds_toArray, List.set_cons_zero, List.set_cons_succ]
        refine wpAnyH_ready (rs := [4]) (by kernel_rfl) (by simp) ?_
        refine AllReadyH.cons rfl (fun K' hK => ?_) AllReadyH.nil
        go_simp
        refine (J13d.out.name).mono ?_
        rintro e w15 ⟨y, hy, hm⟩
        rcases y with ⟨er, i⟩ | ⟨t15, r15⟩
        · obtain ⟨rfl, hF⟩ := hm; have hx := ct_err CT13.out (n1 := 0) hy; obtain ⟨n', hx⟩ := hx; have hx := ct_err CTo.out (n1 := n') hx; obtain ⟨n', hx⟩ := hx; exact ⟨rfl, n', .error (er, i), hx, rfl, hF⟩
        obtain ⟨T15, hT, rfl, hr15, hJ⟩ := hm
        have CT15 := Lib.hid (ct_step CT13.out (Mono.const _) (fun _ _ => Mono.rb (Mono.const _) fun _ _ => Mono.rb (exN_mono _ _ _ _) fun _ _ => Mono.const _) (n1 := 0) hy)
        have J15 := Lib.hid hJ
        have HT15 := Lib.hid hT
        clear hJ hy hT CT13
        refine hK.out _ _ J15.out.w2 (fun hHeld => ?_)
        clear hK K'
        try simp only [Act.put, List.setIfInBounds_toArray, List.set_cons_zero, List.set_cons_succ]
        refine take_d (i := 5) (d := 47) (v := ?v39_47) rfl rfl (by kernel_rfl) (by kernel_rfl) (by kernel_rfl) (fun _ _ _ h => h) (Or.inl ⟨by kernel_rfl, ?v39_47h⟩) hHeld ?v39_47n
        case v39_47h => (intro w hSw; (try dsimp only at hSw); go_split_ands; go_simp; (try exact rfl))
        try simp only [Act.put, List.setIfInBounds_toArray, List.set_cons_zero, List.set_cons_succ]
        refine take_d (i := 6) (d := 48) (v := ?v40_48) rfl rfl (by kernel_rfl) (by kernel_rfl) (by kernel_rfl) (fun _ _ _ h => h) (Or.inl ⟨by kernel_rfl, ?v40_48h⟩) hHeld ?v40_48n
        case v40_48h => (intro w hSw; (try dsimp only at hSw); go_split_ands; go_simp; (try exact rfl))
        try simp only [Act.put, List.setIfInBounds_toArray, List.set_cons_zero, List.set_cons_succ]
        refine wpAnyH_ready (rs := [7]) (by kernel_rfl) (by simp) ?_
        refine AllReadyH.cons rfl (fun K' hK => ?_) AllReadyH.nil
        have f1 : w15.frozen? ⟨g, 2, none⟩ = false := J15.out.bx.blk.frozen 2
        have f2 : w15.cell? ⟨g, 2, none⟩ = some (tx s4.join) := J15.out.bx.blk.cell 2
        go_simp
        clear f1 f2
        have J16 := Lib.hid (J15.out.joi HT15.out)
        refine hK.out _ _ J16.out.w2 (fun hHeld => ?_)
        clear hK K'
        try simp only [Act.put, List.setIfInBounds_toArray, List.set_cons_zero, List.set_cons_succ]
        refine wpAnyH_done (by kernel_rfl) ?_ _
        generalize w15.setCell ⟨g, 2, none⟩ (.string T15) = w16 at *
        clear J15 J13d
        go_upto_region 9 with fail
        have cp16 : w16.cell? ⟨w.heap.size, 0, none⟩ = some (.pointer (some ⟨q, 0, none⟩)) := J16.out.p.cell 0
        have WH : Hid (Calls Tryz.prog 49 #[.pointer (some ⟨q, 0, none⟩), .slice (some ⟨w16.heap.size, 0, none⟩) 1 1] (w16.alloc (.cells #[.string ⟨#[79, 78]⟩] 9)) fun e w' => Aw (rwd L E r15 [[79, 78]]) (fun _ r' e w' => e = .returned (.tuple #[]) ∧ r15 ≤ r' ∧ Jx w w.heap.size w' base q A c L E m r' o g w.heap.size w.heap.size (w.heap.size + 1) { s4 with join := t15 } xc) (Fg w.heap.size q g w) L E e w') := Lib.hid (J16.out.words [[79, 78]] 1 rfl (by omega))
        go_upto_region 10 with (go_at_call 49; refine WH.out.mono ?_; rintro e w17 ⟨y, hy, hm⟩; rcases y with ⟨er, i⟩ | ⟨un17, r17⟩ <;> first | (obtain ⟨rfl, hF⟩ := hm; have hx := ct_err CT15.out (n1 := 0) hy; obtain ⟨n', hx⟩ := hx; have hx := ct_err CTo.out (n1 := n') hx; obtain ⟨n', hx⟩ := hx; exact ⟨rfl, n', .error (er, i), hx, rfl, hF⟩) | (obtain ⟨rfl, hr17, hJ⟩ := hm; have CT17 := Lib.hid (ct_step CT15.out (Mono.const _) (fun _ _ => Mono.rb (exN_mono _ _ _ _) fun _ _ => Mono.const _) (n1 := 0) hy); have J17 := Lib.hid hJ; clear hJ hy))
        clear WH cp16 CT15
        have J17d := Lib.hid (J17.out.below (w' := w17.drew) ⟨rfl, rfl, rfl, Nat.le_refl _, fun _ _ => rfl⟩)
        refine wp_region_held_drew (S := fun w' => w'.cell? ⟨(w.heap.size + 1), 0, none⟩ = some (.pointer (some ⟨g, 0, none⟩)) ∧ w'.cell? ⟨w.heap.size, 0, none⟩ = some (.pointer (some ⟨q, 0, none⟩))) (by kernel_rfl) J17d.out.w2 (fun hHeld => ?_)
        generalize w17.drew = w18 at *
        clear J17
        refine take_d (i := 0) (d := 54) (v := ?v41_54) rfl rfl (by kernel_rfl) (by kernel_rfl) (by kernel_rfl) (fun _ _ _ h => h) (Or.inl ⟨by kernel_rfl, ?v41_54h⟩) hHeld ?v41_54n
        case v41_54h => (intro w hSw; (try dsimp only at hSw); go_split_ands; go_simp; (try exact rfl))
        try simp only [Act.put, List.setIfInBounds_toArray, List.set_cons_zero, List.set_cons_succ]
        refine take_d (i := 1) (d := 55) (v := ?v42_55) rfl rfl (by kernel_rfl) (by kernel_rfl) (by kernel_rfl) (fun _ _ _ h => h) (Or.inl ⟨by kernel_rfl, ?v42_55h⟩) hHeld ?v42_55n
        case v42_55h => (intro w hSw; (try dsimp only at hSw); go_split_ands; go_simp; (try exact rfl))
        try simp only [Act.put, List.setIfInBounds_toArray, List.set_cons_zero, List.set_cons_succ]
        refine wpAnyH_ready (rs := [2]) (by kernel_rfl) (by simp) ?_
        refine AllReadyH.cons rfl (fun K' hK => ?_) AllReadyH.nil
        go_simp
        refine (J17d.out.exA ho).mono ?_
        rintro e w19 ⟨nC, y, hy, hm⟩
        rcases y with ⟨er, i⟩ | ⟨ns19, r19⟩
        · obtain ⟨rfl, hF⟩ := hm; have hx := ct_err CT17.out (n1 := nC) hy; obtain ⟨n', hx⟩ := hx; have hx := ct_err CTo.out (n1 := n') hx; obtain ⟨n', hx⟩ := hx; exact ⟨rfl, n', .error (er, i), hx, rfl, hF⟩
        obtain ⟨B19, nc19, rfl, hr19, hN, hJ⟩ := hm
        have CT19 := Lib.hid (ct_step CT17.out (exN_mono _ _ _ _) (fun _ _ => Mono.const _) (n1 := nC) hy)
        have J19 := Lib.hid hJ
        have N19 := Lib.hid hN
        clear hJ hy hN CT17
        refine hK.out _ _ J19.out.w2 (fun hHeld => ?_)
        clear hK K'
        try simp only [Act.put, List.setIfInBounds_toArray, List.set_cons_zero, List.set_cons_succ]
        refine take_d (i := 3) (d := 57) (v := ?v43_57) rfl rfl (by kernel_rfl) (by kernel_rfl) (by kernel_rfl) (fun _ _ _ h => h) (Or.inl ⟨by kernel_rfl, ?v43_57h⟩) hHeld ?v43_57n
        case v43_57h => (intro w hSw; (try dsimp only at hSw); go_split_ands; go_simp; (try exact rfl))
        try simp only [Act.put, List.setIfInBounds_toArray, List.set_cons_zero, List.set_cons_succ]
        refine take_d (i := 4) (d := 58) (v := ?v44_58) rfl rfl (by kernel_rfl) (by kernel_rfl) (by kernel_rfl) (fun _ _ _ h => h) (Or.inl ⟨by kernel_rfl, ?v44_58h⟩) hHeld ?v44_58n
        case v44_58h => (intro w hSw; (try dsimp only at hSw); go_split_ands; go_simp; (try exact rfl))
        try simp only [Act.put, List.setIfInBounds_toArray, List.set_cons_zero, List.set_cons_succ]
        refine wpAnyH_ready (rs := [5]) (by kernel_rfl) (by simp) ?_
        refine AllReadyH.cons rfl (fun K' hK => ?_) AllReadyH.nil
        refine wp_store_exp rfl 34 _ _ rfl g 7 [.slice B19 ns19.length nc19] rfl rfl (J19.out.there (by simp)) Tryz.i34 (by simp [Value.oneCell']) ?_
        have J20 := Lib.hid (J19.out.onn N19.out)
        refine hK.out _ _ J20.out.w2 (fun hHeld => ?_)
        clear hK K'
        try simp only [Act.put, List.setIfInBounds_toArray, List.set_cons_zero, List.set_cons_succ]
        refine wpAnyH_done (by kernel_rfl) ?_ _
        generalize w19.setCells g 7 [.slice B19 ns19.length nc19] = w20 at *
        clear J19 J17d
        go_wp2_with fail
        go_meet
        obtain ⟨nB, hB⟩ := CT19.out 0 _ rfl
        case rel => exact ⟨r19, _, _, J20, by omega, Lib.hid (ct_step CTo.out (chB_mono L E o _ _) (fun _ _ => chRC_mono L E o _ _) (n1 := nB) hB)⟩
    case rest =>
      obtain ⟨rd, sd, xd, Jd, hrd, CTp⟩ := hcut
      clear J11 hbb hrb_ lerb_ CTo
      generalize wc = wc2 at *
      have CTc : Hid (∀ n y, chC L E o n rd sd = some y → ∃ n', chC L E o n' rd sd = some y) := Lib.hid (fun n y h => ⟨n, h⟩)
      go_upto_region 11 with fail
      have Jdd := Lib.hid (Jd.out.below (w' := wc2.drew) ⟨rfl, rfl, rfl, Nat.le_refl _, fun _ _ => rfl⟩)
      refine wp_region_held_drew (S := fun w' => w'.cell? ⟨(w.heap.size + 1), 0, none⟩ = some (.pointer (some ⟨g, 0, none⟩)) ∧ w'.cell? ⟨w.heap.size, 0, none⟩ = some (.pointer (some ⟨q, 0, none⟩))) (by kernel_rfl) Jdd.out.w2 (fun hHeld => ?_)
      generalize wc2.drew = w22 at *
      clear Jd
      refine take_d (i := 0) (d := 59) (v := ?v45_59) rfl rfl (by kernel_rfl) (by kernel_rfl) (by kernel_rfl) (fun _ _ _ h => h) (Or.inl ⟨by kernel_rfl, ?v45_59h⟩) hHeld ?v45_59n
      case v45_59h => (intro w hSw; (try dsimp only at hSw); go_split_ands; go_simp; (try exact rfl))
      try simp only [Act.put, List.setIfInBounds_toArray, List.set_cons_zero, List.set_cons_succ]
      refine take_d (i := 1) (d := 60) (v := ?v46_60) rfl rfl (by kernel_rfl) (by kernel_rfl) (by kernel_rfl) (fun _ _ _ h => h) (Or.inl ⟨by kernel_rfl, ?v46_60h⟩) hHeld ?v46_60n
      case v46_60h => (intro w hSw; (try dsimp only at hSw); go_split_ands; go_simp; (try exact rfl))
      try simp only [Act.put, List.setIfInBounds_toArray, List.set_cons_zero, List.set_cons_succ]
      refine wpAnyH_ready (rs := [2]) (by kernel_rfl) (by simp) ?_
      refine AllReadyH.cons rfl (fun K' hK => ?_) AllReadyH.nil
      go_simp
      refine (Jdd.out.exB ho [87, 72, 69, 82, 69]).mono ?_
      rintro e w23 ⟨nC, y, hy, hm⟩
      rcases y with ⟨er, i⟩ | ⟨ns23, r23⟩
      · obtain ⟨rfl, hF⟩ := hm; have hx := ct_err CTc.out (n1 := nC) hy; obtain ⟨n', hx⟩ := hx; have hx := ct_err CTp.out (n1 := n') hx; obtain ⟨n', hx⟩ := hx; exact ⟨rfl, n', .error (er, i), hx, rfl, hF⟩
      obtain ⟨B23, nc23, rfl, hr23, hN, hJ⟩ := hm
      have CT23 := Lib.hid (ct_step CTc.out (exB_mono _ _ _ _ _) (fun _ _ => Mono.const _) (n1 := nC) hy)
      have J23 := Lib.hid hJ
      have N23 := Lib.hid hN
      clear hJ hy hN CTc
      refine hK.out _ _ J23.out.w2 (fun hHeld => ?_)
      clear hK K'
      try simp only [Act.put, List.setIfInBounds_toArray, List.set_cons_zero, List.set_cons_succ]
      refine take_d (i := 3) (d := 62) (v := ?v47_62) rfl rfl (by kernel_rfl) (by kernel_rfl) (by kernel_rfl) (fun _ _ _ h => h) (Or.inl ⟨by kernel_rfl, ?v47_62h⟩) hHeld ?v47_62n
      case v47_62h => (intro w hSw; (try dsimp only at hSw); go_split_ands; go_simp; (try exact rfl))
      try simp only [Act.put, List.setIfInBounds_toArray, List.set_cons_zero, List.set_cons_succ]
      refine take_d (i := 4) (d := 63) (v := ?v48_63) rfl rfl (by kernel_rfl) (by kernel_rfl) (by kernel_rfl) (fun _ _ _ h => h) (Or.inl ⟨by kernel_rfl, ?v48_63h⟩) hHeld ?v48_63n
      case v48_63h => (intro w hSw; (try dsimp only at hSw); go_split_ands; go_simp; (try exact rfl))
      try simp only [Act.put, List.setIfInBounds_toArray, List.set_cons_zero, List.set_cons_succ]
      refine wpAnyH_ready (rs := [5]) (by kernel_rfl) (by simp) ?_
      refine AllReadyH.cons rfl (fun K' hK => ?_) AllReadyH.nil
      refine wp_store_exp rfl 34 _ _ rfl g 8 [.slice B23 ns23.length nc23] rfl rfl (J23.out.there (by simp)) Tryz.i34 (by simp [Value.oneCell']) ?_
      have J24 := Lib.hid (J23.out.whe N23.out)
      refine hK.out _ _ J24.out.w2 (fun hHeld => ?_)
      clear hK K'
      try simp only [Act.put, List.setIfInBounds_toArray, List.set_cons_zero, List.set_cons_succ]
      refine wpAnyH_done (by kernel_rfl) ?_ _
      generalize w23.setCells g 8 [.slice B23 ns23.length nc23] = w24 at *
      clear J23 Jdd
      go_upto_region 12 with fail
      have J24d := Lib.hid (J24.out.below (w' := w24.drew) ⟨rfl, rfl, rfl, Nat.le_refl _, fun _ _ => rfl⟩)
      refine wp_region_held_drew (S := fun w' => w'.cell? ⟨(w.heap.size + 1), 0, none⟩ = some (.pointer (some ⟨g, 0, none⟩)) ∧ w'.cell? ⟨w.heap.size, 0, none⟩ = some (.pointer (some ⟨q, 0, none⟩))) (by kernel_rfl) J24d.out.w2 (fun hHeld => ?_)
      generalize w24.drew = w25 at *
      clear J24
      refine take_d (i := 0) (d := 64) (v := ?v49_64) rfl rfl (by kernel_rfl) (by kernel_rfl) (by kernel_rfl) (fun _ _ _ h => h) (Or.inl ⟨by kernel_rfl, ?v49_64h⟩) hHeld ?v49_64n
      case v49_64h => (intro w hSw; (try dsimp only at hSw); go_split_ands; go_simp; (try exact rfl))
      try simp only [Act.put, List.setIfInBounds_toArray, List.set_cons_zero, List.set_cons_succ]
      refine take_d (i := 1) (d := 65) (v := ?v50_65) rfl rfl (by kernel_rfl) (by kernel_rfl) (by kernel_rfl) (fun _ _ _ h => h) (Or.inl ⟨by kernel_rfl, ?v50_65h⟩) hHeld ?v50_65n
      case v50_65h => (intro w hSw; (try dsimp only at hSw); go_split_ands; go_simp; (try exact rfl))
      try simp only [Act.put, List.setIfInBounds_toArray, List.set_cons_zero, List.set_cons_succ]
      refine wpAnyH_ready (rs := [2]) (by kernel_rfl) (by simp) ?_
      refine AllReadyH.cons rfl (fun K' hK => ?_) AllReadyH.nil
      go_simp
      refine (J24d.out.refB [71, 82, 79, 85, 80]).mono ?_
      rintro e w26 ⟨y, hy, hm⟩
      rcases y with ⟨er, i⟩ | ⟨⟨ta26, tb26⟩, r26⟩
      · obtain ⟨rfl, hF⟩ := hm; have hx := ct_err CT23.out (n1 := 0) hy; obtain ⟨n', hx⟩ := hx; have hx := ct_err CTp.out (n1 := n') hx; obtain ⟨n', hx⟩ := hx; exact ⟨rfl, n', .error (er, i), hx, rfl, hF⟩
      obtain ⟨Ta26, Tb26, hT, rfl, hr26, hJ⟩ := hm
      have CT26 := Lib.hid (ct_step CT23.out (Mono.const _) (fun _ _ => Mono.const _) (n1 := 0) hy)
      have J26 := Lib.hid hJ
      have HT26 := Lib.hid hT
      clear hJ hy hT CT23
      refine hK.out _ _ J26.out.w2 (fun hHeld => ?_)
      clear hK K'
      try simp only [Act.put, List.setIfInBounds_toArray, List.set_cons_zero, List.set_cons_succ]
      refine take_d (i := 3) (d := 67) (v := ?v51_67) rfl rfl (by kernel_rfl) (by kernel_rfl) (by kernel_rfl) (fun _ _ _ h => h) (Or.inl ⟨by kernel_rfl, ?v51_67h⟩) hHeld ?v51_67n
      case v51_67h => (intro w hSw; (try dsimp only at hSw); go_split_ands; go_simp; (try exact rfl))
      try simp only [Act.put, List.setIfInBounds_toArray, List.set_cons_zero, List.set_cons_succ]
      refine take_d (i := 4) (d := 68) (v := ?v52_68) rfl rfl (by kernel_rfl) (by kernel_rfl) (by kernel_rfl) (fun _ _ _ h => h) (Or.inl ⟨by kernel_rfl, ?v52_68h⟩) hHeld ?v52_68n
      case v52_68h => (intro w hSw; (try dsimp only at hSw); go_split_ands; go_simp; (try exact rfl))
      try simp only [Act.put, List.setIfInBounds_toArray, List.set_cons_zero, List.set_cons_succ]
      refine wpAnyH_ready (rs := [5]) (by kernel_rfl) (by simp) ?_
      refine AllReadyH.cons rfl (fun K' hK => ?_) AllReadyH.nil
      refine wp_store_exp rfl 36 _ _ rfl g 9 [.string Ta26, .string Tb26] rfl rfl (J26.out.there (by simp)) Tryz.i36 (by simp [Value.oneCell']) ?_
      have J27 := Lib.hid (J26.out.grp HT26.out)
      refine hK.out _ _ J27.out.w2 (fun hHeld => ?_)
      clear hK K'
      try simp only [Act.put, List.setIfInBounds_toArray, List.set_cons_zero, List.set_cons_succ]
      refine wpAnyH_done (by kernel_rfl) ?_ _
      generalize w26.setCells g 9 [.string Ta26, .string Tb26] = w27 at *
      clear J26 J24d
      go_upto_region 13 with fail
      have J27d := Lib.hid (J27.out.below (w' := w27.drew) ⟨rfl, rfl, rfl, Nat.le_refl _, fun _ _ => rfl⟩)
      refine wp_region_held_drew (S := fun w' => w'.cell? ⟨(w.heap.size + 1), 0, none⟩ = some (.pointer (some ⟨g, 0, none⟩)) ∧ w'.cell? ⟨w.heap.size, 0, none⟩ = some (.pointer (some ⟨q, 0, none⟩))) (by kernel_rfl) J27d.out.w2 (fun hHeld => ?_)
      generalize w27.drew = w28 at *
      clear J27
      refine take_d (i := 0) (d := 69) (v := ?v53_69) rfl rfl (by kernel_rfl) (by kernel_rfl) (by kernel_rfl) (fun _ _ _ h => h) (Or.inl ⟨by kernel_rfl, ?v53_69h⟩) hHeld ?v53_69n
      case v53_69h => (intro w hSw; (try dsimp only at hSw); go_split_ands; go_simp; (try exact rfl))
      try simp only [Act.put, List.setIfInBounds_toArray, List.set_cons_zero, List.set_cons_succ]
      refine take_d (i := 1) (d := 70) (v := ?v54_70) rfl rfl (by kernel_rfl) (by kernel_rfl) (by kernel_rfl) (fun _ _ _ h => h) (Or.inl ⟨by kernel_rfl, ?v54_70h⟩) hHeld ?v54_70n
      case v54_70h => (intro w hSw; (try dsimp only at hSw); go_split_ands; go_simp; (try exact rfl))
      try simp only [Act.put, List.setIfInBounds_toArray, List.set_cons_zero, List.set_cons_succ]
      refine wpAnyH_ready (rs := [2]) (by kernel_rfl) (by simp) ?_
      refine AllReadyH.cons rfl (fun K' hK => ?_) AllReadyH.nil
      go_simp
      refine (J27d.out.refB [79, 82, 68, 69, 82]).mono ?_
      rintro e w29 ⟨y, hy, hm⟩
      rcases y with ⟨er, i⟩ | ⟨⟨ta29, tb29⟩, r29⟩
      · obtain ⟨rfl, hF⟩ := hm; have hx := ct_err CT26.out (n1 := 0) hy; obtain ⟨n', hx⟩ := hx; have hx := ct_err CTp.out (n1 := n') hx; obtain ⟨n', hx⟩ := hx; exact ⟨rfl, n', .error (er, i), hx, rfl, hF⟩
      obtain ⟨Ta29, Tb29, hT, rfl, hr29, hJ⟩ := hm
      have CT29 := Lib.hid (ct_step CT26.out (Mono.const _) (fun _ _ => Mono.const _) (n1 := 0) hy)
      have J29 := Lib.hid hJ
      have HT29 := Lib.hid hT
      clear hJ hy hT CT26
      refine hK.out _ _ J29.out.w2 (fun hHeld => ?_)
      clear hK K'
      try simp only [Act.put, List.setIfInBounds_toArray, List.set_cons_zero, List.set_cons_succ]
      refine take_d (i := 3) (d := 72) (v := ?v55_72) rfl rfl (by kernel_rfl) (by kernel_rfl) (by kernel_rfl) (fun _ _ _ h => h) (Or.inl ⟨by kernel_rfl, ?v55_72h⟩) hHeld ?v55_72n
      case v55_72h => (intro w hSw; (try dsimp only at hSw); go_split_ands; go_simp; (try exact rfl))
      try simp only [Act.put, List.setIfInBounds_toArray, List.set_cons_zero, List.set_cons_succ]
      refine take_d (i := 4) (d := 73) (v := ?v56_73) rfl rfl (by kernel_rfl) (by kernel_rfl) (by kernel_rfl) (fun _ _ _ h => h) (Or.inl ⟨by kernel_rfl, ?v56_73h⟩) hHeld ?v56_73n
      case v56_73h => (intro w hSw; (try dsimp only at hSw); go_split_ands; go_simp; (try exact rfl))
      try simp only [Act.put, List.setIfInBounds_toArray, List.set_cons_zero, List.set_cons_succ]
      refine wpAnyH_ready (rs := [5]) (by kernel_rfl) (by simp) ?_
      refine AllReadyH.cons rfl (fun K' hK => ?_) AllReadyH.nil
      refine wp_store_exp rfl 36 _ _ rfl g 11 [.string Ta29, .string Tb29] rfl rfl (J29.out.there (by simp)) Tryz.i36 (by simp [Value.oneCell']) ?_
      have J30 := Lib.hid (J29.out.ord HT29.out)
      refine hK.out _ _ J30.out.w2 (fun hHeld => ?_)
      clear hK K'
      try simp only [Act.put, List.setIfInBounds_toArray, List.set_cons_zero, List.set_cons_succ]
      refine wpAnyH_done (by kernel_rfl) ?_ _
      generalize w29.setCells g 11 [.string Ta29, .string Tb29] = w30 at *
      clear J29 J27d
      go_upto_region 14 with fail
      have hC := CT29.out 0 (.ok ({ { { sd with wh := ns23 } with gt := ta26, gn := tb26 } with ot := ta29, on_ := tb29 }, r29)) rfl
      obtain ⟨s5, hs5⟩ : ∃ s5, { { { sd with wh := ns23 } with gt := ta26, gn := tb26 } with ot := ta29, on_ := tb29 } = s5 := ⟨_, rfl⟩
      rw [hs5] at J30 hC
      have hot : s5.ot = ta29 := by rw [← hs5]
      have hon : s5.on_ = tb29 := by rw [← hs5]
      obtain ⟨nC', hC⟩ := hC
      have CTd := Lib.hid (ct_step CTp.out (chC_mono L E o _ _) (fun _ _ => Mono.const _) (n1 := nC') hC)
      clear CT29 hC CTp
      have HO : Hid ((⟨s5.ot.toArray⟩ : ByteArray) = Ta29 ∧ (⟨s5.on_.toArray⟩ : ByteArray) = Tb29) := Lib.hid (by rw [hot, hon]; exact HT29.out)
      have hr5 : r ≤ r29 := by omega
      obtain ⟨be, hbe⟩ : ∃ be, EmP Ta29 Tb29 = be := ⟨_, rfl⟩
      have hei : Hid (be = true ↔ s5.ot = [] ∧ s5.on_ = []) := Lib.hid (by rw [← hbe]; exact emp_iff HO.out)
      obtain ⟨x5, hx5⟩ : ∃ x5, { xd with a5 := B23, c5 := nc23 } = x5 := ⟨_, rfl⟩
      rw [hx5] at J30
      clear hs5 hx5 hot hon
      have c3 : w30.cell? ⟨(w.heap.size + 1), 0, none⟩ = some (.pointer (some ⟨g, 0, none⟩)) := J30.out.s.cell 0
      go_cut [86] from 74 (fun v86 wx => ∃ (b : Bool) (r2 : Nat), v86 = .bool b ∧ r29 ≤ r2 ∧ Hid (Jx w w.heap.size wx base q A c L E m r2 o g w.heap.size w.heap.size (w.heap.size + 1) s5 x5) ∧ Hid (if b = true then r2 = r29 ∧ chD L E r29 s5 = chD2 L E r29 s5 else chD L E r29 s5 = rok s5 r2))
      case first =>
        cases be with
        | true =>
          go_wp2_with ((with_reducible refine at_load (t := 36) ?_); refine wpList_load_mid rfl 36 _ rfl g 11 rfl [.string Ta29, .string Tb29] _ (J30.out.ordR HO.out) Tryz.underlying36 rfl Tryz.i36 ?_)
          go_meet
          case rel => exact ⟨false, r29, rfl, Nat.le_refl _, J30, Lib.hid (by rw [if_neg (by decide)]; unfold chD; rw [if_pos (hei.out.1 (by simp))])⟩
        | false =>
          obtain ⟨bs, hbs⟩ : ∃ b, isB (tokAt L E r29) [65, 83, 67] = b := ⟨_, rfl⟩
          obtain ⟨rs_, hrs_⟩ : ∃ r', (if bs = true then r29 + 1 else r29) = r' := ⟨_, rfl⟩
          have lers_ : r29 ≤ rs_ := by rw [← hrs_]; split <;> omega
          have cp30 : w30.cell? ⟨w.heap.size, 0, none⟩ = some (.pointer (some ⟨q, 0, none⟩)) := J30.out.p.cell 0
          have FB : Hid (Calls Tryz.prog 82 #[.pointer (some ⟨q, 0, none⟩), .string ⟨#[65, 83, 67]⟩] w30 fun e w' => e = .returned (.bool bs) ∧ Jx w w.heap.size w' base q A c L E m rs_ o g w.heap.size w.heap.size (w.heap.size + 1) s5 x5) := Lib.hid (J30.out.foundB hbs hrs_)
          have hne : ¬ (s5.ot = [] ∧ s5.on_ = []) := fun h => absurd (hei.out.2 h) (by decide)
          cases bs with
          | true =>
            go_wp2_with (first | (go_at_call 82; refine FB.out.mono ?_; rintro e w31 ⟨rfl, hJ⟩; have J31 := Lib.hid hJ; clear hJ) | ((with_reducible refine at_load (t := 36) ?_); refine wpList_load_mid rfl 36 _ rfl g 11 rfl [.string Ta29, .string Tb29] _ (J30.out.ordR HO.out) Tryz.underlying36 rfl Tryz.i36 ?_))
            go_meet
            case rel => exact ⟨false, rs_, rfl, lers_, J31, Lib.hid (by rw [if_neg (by decide)]; unfold chD; rw [if_neg hne, if_pos hbs, ← hrs_]; rfl)⟩
          | false =>
            go_wp2_with (first | (go_at_call 82; refine FB.out.mono ?_; rintro e w31 ⟨rfl, hJ⟩; have J31 := Lib.hid hJ; clear hJ) | ((with_reducible refine at_load (t := 36) ?_); refine wpList_load_mid rfl 36 _ rfl g 11 rfl [.string Ta29, .string Tb29] _ (J30.out.ordR HO.out) Tryz.underlying36 rfl Tryz.i36 ?_))
            go_meet
            case rel => exact ⟨true, rs_, rfl, lers_, J31, Lib.hid (by rw [if_pos rfl]; refine ⟨by rw [← hrs_]; rfl, ?_⟩; unfold chD; rw [if_neg hne, if_neg (by rw [hbs]; decide)]; rfl)⟩
      case rest =>
        obtain ⟨b4, r6, rfl, hr6, J6, H6⟩ := hcut
        clear J30 c3 hbe hei
        generalize wc = wc3 at *
        go_upto_if 86 with fail
        go_cut [] from 87 (fun wx => ∃ (r2 : Nat) (s2 : Sm), Hid (Jx w w.heap.size wx base q A c L E m r2 o g w.heap.size w.heap.size (w.heap.size + 1) s2 x5) ∧ r29 ≤ r2 ∧ Hid (chD L E r29 s5 = rok s2 r2))
        case first =>
          cases b4 with
          | false =>
            go_wp2_with fail
            go_meet
            case rel => exact ⟨r6, s5, J6, hr6, Lib.hid (by have := H6.out; rw [if_neg (by decide)] at this; exact this)⟩
          | true =>
            have H6' := H6.out
            rw [if_pos rfl] at H6'
            obtain ⟨e6, H7⟩ := H6'
            obtain ⟨bd, hbd⟩ : ∃ b, isB (tokAt L E r6) [68, 69, 83, 67] = b := ⟨_, rfl⟩
            obtain ⟨rd_, hrd_⟩ : ∃ r', (if bd = true then r6 + 1 else r6) = r' := ⟨_, rfl⟩
            have lerd_ : r6 ≤ rd_ := by rw [← hrd_]; split <;> omega
            go_upto_region 15 with fail
            have J6d := Lib.hid (J6.out.below (w' := wc3.drew) ⟨rfl, rfl, rfl, Nat.le_refl _, fun _ _ => rfl⟩)
            refine wp_region_held_drew (S := fun w' => w'.cell? ⟨(w.heap.size + 1), 0, none⟩ = some (.pointer (some ⟨g, 0, none⟩)) ∧ w'.cell? ⟨w.heap.size, 0, none⟩ = some (.pointer (some ⟨q, 0, none⟩))) (by kernel_rfl) J6d.out.w2 (fun hHeld => ?_)
            generalize wc3.drew = w34 at *
            clear J6
            refine take_d (i := 0) (d := 87) (v := ?v57_87) rfl rfl (by kernel_rfl) (by kernel_rfl) (by kernel_rfl) (fun _ _ _ h => h) (Or.inl ⟨by kernel_rfl, ?v57_87h⟩) hHeld ?v57_87n
            case v57_87h => (intro w hSw; (try dsimp only at hSw); go_split_ands; go_simp; (try exact rfl))
            try simp only [Act.put, List.setIfInBounds_toArray, List.set_cons_zero, List.set_cons_succ]
            refine take_d (i := 1) (d := 88) (v := ?v58_88) rfl rfl (by kernel_rfl) (by kernel_rfl) (by kernel_rfl) (fun _ _ _ h => h) (Or.inl ⟨by kernel_rfl, ?v58_88h⟩) hHeld ?v58_88n
            case v58_88h => (intro w hSw; (try dsimp only at hSw); go_split_ands; go_simp; (try exact rfl))
            try simp only [Act.put, List.setIfInBounds_toArray, List.set_cons_zero, List.set_cons_succ]
            refine take_d (i := 2) (d := 89) (v := ?v59_89) rfl rfl (by kernel_rfl) (by kernel_rfl) (by kernel_rfl) (fun _ _ _ h => h) (Or.inl ⟨by kernel_rfl, ?v59_89h⟩) hHeld ?v59_89n
            case v59_89h => (intro w hSw; (try dsimp only at hSw); go_split_ands; go_simp; (try exact rfl))
            try simp only [Act.put, List.setIfInBounds_toArray, List.set_cons_zero, List.set_cons_succ]
            refine take_d (i := 3) (d := 90) (v := ?v60_90) rfl rfl (by kernel_rfl) (by kernel_rfl) (by kernel_rfl) (fun _ _ _ h => h) (Or.inl ⟨by kernel_rfl, ?v60_90h⟩) hHeld ?v60_90n
            case v60_90h => (intro w hSw; (try dsimp only at hSw); go_split_ands; go_simp; (try exact rfl))
            try simp only [Act.put, List.setIfInBounds_toArray, List.set_cons_zero, List.set_cons_succ]
            refine wpAnyH_ready (rs := [4]) (by kernel_rfl) (by simp) ?_
            refine AllReadyH.cons rfl (fun K' hK => ?_) AllReadyH.nil
            go_simp
            refine (J6d.out.foundB hbd hrd_).mono ?_
            rintro e w35 ⟨rfl, hJ⟩
            have J35 := Lib.hid hJ
            clear hJ
            refine hK.out _ _ J35.out.w2 (fun hHeld => ?_)
            clear hK K'
            try simp only [Act.put, List.setIfInBounds_toArray, List.set_cons_zero, List.set_cons_succ]
            refine take_d (i := 5) (d := 92) (v := ?v61_92) rfl rfl (by kernel_rfl) (by kernel_rfl) (by kernel_rfl) (fun _ _ _ h => h) (Or.inl ⟨by kernel_rfl, ?v61_92h⟩) hHeld ?v61_92n
            case v61_92h => (intro w hSw; (try dsimp only at hSw); go_split_ands; go_simp; (try exact rfl))
            try simp only [Act.put, List.setIfInBounds_toArray, List.set_cons_zero, List.set_cons_succ]
            refine take_d (i := 6) (d := 93) (v := ?v62_93) rfl rfl (by kernel_rfl) (by kernel_rfl) (by kernel_rfl) (fun _ _ _ h => h) (Or.inl ⟨by kernel_rfl, ?v62_93h⟩) hHeld ?v62_93n
            case v62_93h => (intro w hSw; (try dsimp only at hSw); go_split_ands; go_simp; (try exact rfl))
            try simp only [Act.put, List.setIfInBounds_toArray, List.set_cons_zero, List.set_cons_succ]
            refine wpAnyH_ready (rs := [7]) (by kernel_rfl) (by simp) ?_
            refine AllReadyH.cons rfl (fun K' hK => ?_) AllReadyH.nil
            have f1 : w35.frozen? ⟨g, 13, none⟩ = false := J35.out.bx.blk.frozen 13
            have f2 : w35.cell? ⟨g, 13, none⟩ = some (.bool s5.desc) := J35.out.bx.blk.cell 13
            go_simp
            clear f1 f2
            have J36 := Lib.hid (J35.out.des bd)
            refine hK.out _ _ J36.out.w2 (fun hHeld => ?_)
            clear hK K'
            try simp only [Act.put, List.setIfInBounds_toArray, List.set_cons_zero, List.set_cons_succ]
            refine wpAnyH_done (by kernel_rfl) ?_ _
            generalize w35.setCell ⟨g, 13, none⟩ (.bool bd) = w36 at *
            clear J35 J6d
            go_wp2_with fail
            go_meet
            case rel => exact ⟨rd_, _, J36, by omega, Lib.hid (by rw [H7]; unfold chD2; rw [← e6, hbd]; cases bd with | true => (rw [if_pos rfl, ← hrd_]; rfl) | false => (rw [if_neg (by decide), ← hrd_]; rfl))⟩
        case rest =>
          obtain ⟨r7, s7, J7, hr7, H7⟩ := hcut
          clear J6 H6
          generalize wc = wc4 at *
          have CTe := Lib.hid (ct_step CTd.out (Mono.const _) (fun _ _ => Mono.const _) (n1 := 0) H7.out)
          clear CTd H7
          obtain ⟨bl, hbl⟩ : ∃ b, isB (tokAt L E r7) [76, 73, 77, 73, 84] = b := ⟨_, rfl⟩
          obtain ⟨rl_, hrl_⟩ : ∃ r', (if bl = true then r7 + 1 else r7) = r' := ⟨_, rfl⟩
          have lerl_ : r7 ≤ rl_ := by rw [← hrl_]; split <;> omega
          cases bl with
          | false =>
            have cp38 : wc4.cell? ⟨w.heap.size, 0, none⟩ = some (.pointer (some ⟨q, 0, none⟩)) := J7.out.p.cell 0
            have FB : Hid (Calls Tryz.prog 82 #[.pointer (some ⟨q, 0, none⟩), .string ⟨#[76, 73, 77, 73, 84]⟩] wc4 fun e w' => e = .returned (.bool false) ∧ Jx w w.heap.size w' base q A c L E m rl_ o g w.heap.size w.heap.size (w.heap.size + 1) s7 x5) := Lib.hid (J7.out.foundB hbl hrl_)
            go_wp2_with (go_at_call 82; refine FB.out.mono ?_; rintro e w39 ⟨rfl, hJ⟩; have J39 := Lib.hid hJ; clear hJ)
            clear FB cp38 J7
            refine bodyPost_end (results_none rfl _ _ _) rfl ?_
            obtain ⟨n', hx⟩ := CTe.out 0 (.ok (s7, rl_)) (by unfold chE; rw [if_neg (by rw [hbl]; decide), ← hrl_]; rfl)
            exact ⟨n', _, hx, rfl, by omega, ⟨_, J39.out.bx⟩, J39.out.fr⟩
          | true =>
            obtain rfl : r7 + 1 = rl_ := by simpa using hrl_
            have CTf : Hid (∀ (n : Nat) y, rb (if ((tokAt L E (r7 + 1)).kind == 3) = true then rok (tokAt L E (r7 + 1)) (r7 + 1 + 1) else some (.error (210, r7 + 1))) (fun (t : Tk) r => rok { s7 with limit := t.num } r) = some y → ∃ n', chF L E o n' r s = some y) := Lib.hid (fun n y h => CTe.out n y (by rw [chE_one L E hbl]; exact h))
            have cp40 : wc4.cell? ⟨w.heap.size, 0, none⟩ = some (.pointer (some ⟨q, 0, none⟩)) := J7.out.p.cell 0
            have FB : Hid (Calls Tryz.prog 82 #[.pointer (some ⟨q, 0, none⟩), .string ⟨#[76, 73, 77, 73, 84]⟩] wc4 fun e w' => e = .returned (.bool true) ∧ Jx w w.heap.size w' base q A c L E m (r7 + 1) o g w.heap.size w.heap.size (w.heap.size + 1) s7 x5) := Lib.hid (J7.out.foundB hbl hrl_)
            go_upto_region 17 with (go_at_call 82; refine FB.out.mono ?_; rintro e w41 ⟨rfl, hJ⟩; have J41 := Lib.hid hJ; clear hJ)
            clear FB cp40 J7
            have J41d := Lib.hid (J41.out.below (w' := w41.drew) ⟨rfl, rfl, rfl, Nat.le_refl _, fun _ _ => rfl⟩)
            refine wp_region_held_drew (S := fun w' => w'.cell? ⟨(w.heap.size + 1), 0, none⟩ = some (.pointer (some ⟨g, 0, none⟩)) ∧ w'.cell? ⟨w.heap.size, 0, none⟩ = some (.pointer (some ⟨q, 0, none⟩))) (by kernel_rfl) J41d.out.w2 (fun hHeld => ?_)
            generalize w41.drew = w42 at *
            clear J41
            refine take_d (i := 0) (d := 98) (v := ?v63_98) rfl rfl (by kernel_rfl) (by kernel_rfl) (by kernel_rfl) (fun _ _ _ h => h) (Or.inl ⟨by kernel_rfl, ?v63_98h⟩) hHeld ?v63_98n
            case v63_98h => (intro w hSw; (try dsimp only at hSw); go_split_ands; go_simp; (try exact rfl))
            try simp only [Act.put, List.setIfInBounds_toArray, List.set_cons_zero, List.set_cons_succ]
            refine take_d (i := 1) (d := 99) (v := ?v64_99) rfl rfl (by kernel_rfl) (by kernel_rfl) (by kernel_rfl) (fun _ _ _ h => h) (Or.inl ⟨by kernel_rfl, ?v64_99h⟩) hHeld ?v64_99n
            case v64_99h => (intro w hSw; (try dsimp only at hSw); go_split_ands; go_simp; (try exact rfl))
            try simp only [Act.put, List.setIfInBounds_toArray, List.set_cons_zero, List.set_cons_succ]
            refine take_d (i := 2) (d := 100) (v := ?v65_100) rfl rfl (by kernel_rfl) (by kernel_rfl) (by kernel_rfl) (fun _ _ _ h => h) (Or.inl ⟨by kernel_rfl, ?v65_100h⟩) hHeld ?v65_100n
            case v65_100h => (intro w hSw; (try dsimp only at hSw); go_split_ands; go_simp; (try exact rfl))
            try simp only [Act.put, List.setIfInBounds_toArray, List.set_cons_zero, List.set_cons_succ]
            refine take_d (i := 3) (d := 101) (v := ?v66_101) rfl rfl (by kernel_rfl) (by kernel_rfl) (by kernel_rfl) (fun _ _ _ h => h) (Or.inl ⟨by kernel_rfl, ?v66_101h⟩) hHeld ?v66_101n
            case v66_101h => (intro w hSw; (try dsimp only at hSw); go_split_ands; go_simp; (try exact rfl))
            try simp only [Act.put, List.setIfInBounds_toArray, List.set_cons_zero, List.set_cons_succ]
            refine wpAnyH_ready (rs := [4]) (by kernel_rfl) (by simp) ?_
            refine AllReadyH.cons rfl (fun K' hK => ?_) AllReadyH.nil
            go_simp
            refine (J41d.out.one3).mono ?_
            rintro e w43 ⟨y, hy, hm⟩
            rcases y with ⟨er, i⟩ | ⟨tk, r9⟩
            · obtain ⟨rfl, hF⟩ := hm; have hx := ct_err CTf.out (n1 := 0) hy; obtain ⟨n', hx⟩ := hx; exact ⟨rfl, n', .error (er, i), hx, rfl, hF⟩
            obtain ⟨he, hr9, hJ⟩ := hm
            have he' : e = .returned (.agg #[.int .i64 tk.kind, tx tk.text, .int .i64 tk.num, .int .i64 (tk.at_ : Int), .int .i64 (tk.to_ : Int)]) := he
            subst he'
            have FL := field50_2t tk
            have CTg := Lib.hid (ct_step CTf.out (Mono.const _) (fun _ _ => Mono.const _) (n1 := 0) hy)
            have J43 := Lib.hid hJ
            clear hJ hy he CTf CTe
            refine hK.out _ _ J43.out.w2 (fun hHeld => ?_)
            clear hK K'
            try simp only [Act.put, List.setIfInBounds_toArray, List.set_cons_zero, List.set_cons_succ]
            refine take_d (i := 5) (d := 103) (v := ?v67_103) rfl rfl (by kernel_rfl) (by kernel_rfl) (by kernel_rfl) (fun _ _ _ h => h) (Or.inl ⟨by kernel_rfl, ?v67_103h⟩) hHeld ?v67_103n
            case v67_103h => (intro w hSw; (try dsimp only at hSw); go_split_ands; go_simp; (try exact rfl))
            try simp only [Act.put, List.setIfInBounds_toArray, List.set_cons_zero, List.set_cons_succ]
            refine take_d (i := 6) (d := 104) (v := ?v68_104) rfl rfl (by kernel_rfl) (by kernel_rfl) (by kernel_rfl) (fun _ _ _ h => h) (Or.inl ⟨by kernel_rfl, ?v68_104h⟩) hHeld ?v68_104n
            case v68_104h => (intro w hSw; (try dsimp only at hSw); go_split_ands; go_simp; (try exact rfl))
            try simp only [Act.put, List.setIfInBounds_toArray, List.set_cons_zero, List.set_cons_succ]
            refine take_d (i := 7) (d := 105) (v := ?v69_105) rfl rfl (by kernel_rfl) (by kernel_rfl) (by kernel_rfl) (fun _ _ _ h => h) (Or.inl ⟨by kernel_rfl, ?v69_105h⟩) hHeld ?v69_105n
            case v69_105h => (intro w hSw; (try dsimp only at hSw); go_split_ands; go_simp; (try exact rfl))
            try simp only [Act.put, List.setIfInBounds_toArray, List.set_cons_zero, List.set_cons_succ]
            refine wpAnyH_ready (rs := [8]) (by kernel_rfl) (by simp) ?_
            refine AllReadyH.cons rfl (fun K' hK => ?_) AllReadyH.nil
            have f1 : w43.frozen? ⟨g, 14, none⟩ = false := J43.out.bx.blk.frozen 14
            have f2 : w43.cell? ⟨g, 14, none⟩ = some (.int .i64 s7.limit) := J43.out.bx.blk.cell 14
            go_simp
            clear f1 f2
            have J44 := Lib.hid (J43.out.lim tk.num)
            refine hK.out _ _ J44.out.w2 (fun hHeld => ?_)
            clear hK K'
            try simp only [Act.put, List.setIfInBounds_toArray, List.set_cons_zero, List.set_cons_succ]
            refine wpAnyH_done (by kernel_rfl) ?_ _
            generalize w43.setCell ⟨g, 14, none⟩ (.int .i64 tk.num) = w44 at *
            clear J43 J41d
            go_wp2_with fail
            refine bodyPost_end (results_none rfl _ _ _) rfl ?_
            obtain ⟨n', hx⟩ := CTg.out 0 _ rfl
            exact ⟨n', _, hx, rfl, by omega, ⟨_, J44.out.bx⟩, J44.out.fr⟩
end Go.Proofs.YtiipglmbfgmbbaaGreatDoor
