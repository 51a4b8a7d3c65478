/-
  UPDATE, behind its first word.
-/
import Derived.Test.YtiipglmbfgmbbaaGreatDoorP36
namespace Go.Proofs.YtiipglmbfgmbbaaGreatDoor
open Go.RowKit Go.Shelf
attribute [local go_sem] Oper.semAt_some

set_option maxRecDepth 100000 in
set_option maxHeartbeats 8000000 in
theorem update_any (base q : Nat) (A : Option Addr) (c : Nat) (L : List Tk) (E m o g : Nat) (ho : o ≤ 16) (w : World) (r : Nat) (s : Sm) (x : Cx) (h : Bx w base q A c L E m r o g w.heap.size s x) (hl : lens s = 0) :
    Calls Tryz.prog 79 #[.pointer (some ⟨q, 0, none⟩), .pointer (some ⟨g, 0, none⟩)] w (Lr (fun n => updF L E o n r s) (Js w base q A c L E m o g) (Fg w.heap.size q g w) L E r) := by
  have J1 := Lib.hid (Jx.enter h)
  have hmf : ∀ (fn : Fn) (first cap : Array Value) (w : World), (Instr.makeFunc fn first cap).run Tryz.prog w = .ok (.func fn first cap) w := fun _ _ _ _ => rfl
  have CT1 : Hid (∀ n y, updF L E o n r s = some y → ∃ n', updF L E o n' r s = some y) := Lib.hid (fun n y h => ⟨n, h⟩)
  clear h
  go_enter Tryz.func79, Tryz.ntmps79
  go_upto_region 1 with fail
  generalize (w.alloc (.cells #[.pointer (some ⟨q, 0, none⟩)] 112)).alloc (.cells #[.pointer (some ⟨g, 0, none⟩)] 137) = w1 at *
  have J1d := Lib.hid (J1.out.below (w' := w1.drew) ⟨rfl, rfl, rfl, Nat.le_refl _, fun _ _ => rfl⟩)
  refine wp_region_held_drew (S := fun w' => w'.cell? ⟨(w.heap.size + 1), 0, none⟩ = some (.pointer (some ⟨g, 0, none⟩)) ∧ w'.cell? ⟨w.heap.size, 0, none⟩ = some (.pointer (some ⟨q, 0, none⟩))) (by kernel_rfl) J1d.out.w2 (fun hHeld => ?_)
  generalize w1.drew = w2 at *
  clear J1
  refine take_d (i := 0) (d := 4) (v := ?v13_4) rfl rfl (by kernel_rfl) (by kernel_rfl) (by kernel_rfl) (fun _ _ _ h => h) (Or.inl ⟨by kernel_rfl, ?v13_4h⟩) hHeld ?v13_4n
  case v13_4h => (intro w hSw; (try dsimp only at hSw); go_split_ands; go_simp; (try exact rfl))
  try simp only [Act.put, List.setIfInBounds_toArray, List.set_cons_zero, List.set_cons_succ]
  refine take_d (i := 1) (d := 5) (v := ?v14_5) rfl rfl (by kernel_rfl) (by kernel_rfl) (by kernel_rfl) (fun _ _ _ h => h) (Or.inl ⟨by kernel_rfl, ?v14_5h⟩) hHeld ?v14_5n
  case v14_5h => (intro w hSw; (try dsimp only at hSw); go_split_ands; go_simp; (try exact rfl))
  try simp only [Act.put, List.setIfInBounds_toArray, List.set_cons_zero, List.set_cons_succ]
  refine take_d (i := 2) (d := 6) (v := ?v15_6) rfl rfl (by kernel_rfl) (by kernel_rfl) (by kernel_rfl) (fun _ _ _ h => h) (Or.inl ⟨by kernel_rfl, ?v15_6h⟩) hHeld ?v15_6n
  case v15_6h => (intro w hSw; (try dsimp only at hSw); go_split_ands; go_simp; (try exact rfl))
  try simp only [Act.put, List.setIfInBounds_toArray, List.set_cons_zero, List.set_cons_succ]
  refine take_d (i := 3) (d := 7) (v := ?v16_7) rfl rfl (by kernel_rfl) (by kernel_rfl) (by kernel_rfl) (fun _ _ _ h => h) (Or.inl ⟨by kernel_rfl, ?v16_7h⟩) hHeld ?v16_7n
  case v16_7h => (intro w hSw; (try dsimp only at hSw); go_split_ands; go_simp; (try exact rfl))
  try simp only [Act.put, List.setIfInBounds_toArray, List.set_cons_zero, List.set_cons_succ]
  refine wpAnyH_ready (rs := [4]) (by kernel_rfl) (by simp) ?_
  refine AllReadyH.cons rfl (fun K' hK => ?_) AllReadyH.nil
  go_simp
  refine (J1d.out.name).mono ?_
  rintro e w3 ⟨y, hy, hm⟩
  rcases y with ⟨er, i⟩ | ⟨t3, r3⟩
  · obtain ⟨rfl, hF⟩ := hm; have hx := ct_err CT1.out (n1 := 0) hy; obtain ⟨n', hx⟩ := hx; exact ⟨rfl, n', .error (er, i), hx, rfl, hF⟩
  obtain ⟨T3, hT, rfl, hr3, hJ⟩ := hm
  have CT3 := Lib.hid (ct_step CT1.out (Mono.const _) (fun _ _ => Mono.rb (Mono.const _) fun _ _ => Mono.rb (lsF_mono L E _ (updS_mono L E o) _ _) fun _ _ => Mono.rb (exB_mono _ _ _ _ _) fun _ _ => Mono.const _) (n1 := 0) hy)
  have J3 := Lib.hid hJ
  have HT3 := Lib.hid hT
  clear hJ hy hT CT1
  refine hK.out _ _ J3.out.w2 (fun hHeld => ?_)
  clear hK K'
  try simp only [Act.put, List.setIfInBounds_toArray, List.set_cons_zero, List.set_cons_succ]
  refine take_d (i := 5) (d := 9) (v := ?v17_9) rfl rfl (by kernel_rfl) (by kernel_rfl) (by kernel_rfl) (fun _ _ _ h => h) (Or.inl ⟨by kernel_rfl, ?v17_9h⟩) hHeld ?v17_9n
  case v17_9h => (intro w hSw; (try dsimp only at hSw); go_split_ands; go_simp; (try exact rfl))
  try simp only [Act.put, List.setIfInBounds_toArray, List.set_cons_zero, List.set_cons_succ]
  refine take_d (i := 6) (d := 10) (v := ?v18_10) rfl rfl (by kernel_rfl) (by kernel_rfl) (by kernel_rfl) (fun _ _ _ h => h) (Or.inl ⟨by kernel_rfl, ?v18_10h⟩) hHeld ?v18_10n
  case v18_10h => (intro w hSw; (try dsimp only at hSw); go_split_ands; go_simp; (try exact rfl))
  try simp only [Act.put, List.setIfInBounds_toArray, List.set_cons_zero, List.set_cons_succ]
  refine wpAnyH_ready (rs := [7]) (by kernel_rfl) (by simp) ?_
  refine AllReadyH.cons rfl (fun K' hK => ?_) AllReadyH.nil
  have f1 : w3.frozen? ⟨g, 1, none⟩ = false := J3.out.bx.blk.frozen 1
  have f2 : w3.cell? ⟨g, 1, none⟩ = some (tx s.table) := J3.out.bx.blk.cell 1
  go_simp
  clear f1 f2
  have J4 := Lib.hid (J3.out.tab HT3.out)
  refine hK.out _ _ J4.out.w2 (fun hHeld => ?_)
  clear hK K'
  try simp only [Act.put, List.setIfInBounds_toArray, List.set_cons_zero, List.set_cons_succ]
  refine wpAnyH_done (by kernel_rfl) ?_ _
  generalize w3.setCell ⟨g, 1, none⟩ (.string T3) = w4 at *
  clear J3 J1d
  go_upto_region 2 with fail
  have cp4 : w4.cell? ⟨w.heap.size, 0, none⟩ = some (.pointer (some ⟨q, 0, none⟩)) := J4.out.p.cell 0
  have WH : Hid (Calls Tryz.prog 49 #[.pointer (some ⟨q, 0, none⟩), .slice (some ⟨w4.heap.size, 0, none⟩) 1 1] (w4.alloc (.cells #[.string ⟨#[83, 69, 84]⟩] 9)) fun e w' => Aw (rwd L E r3 [[83, 69, 84]]) (fun _ r' e w' => e = .returned (.tuple #[]) ∧ r3 ≤ r' ∧ Jx w w.heap.size w' base q A c L E m r' o g w.heap.size w.heap.size (w.heap.size + 1) { s with table := t3 } x) (Fg w.heap.size q g w) L E e w') := Lib.hid (J4.out.words [[83, 69, 84]] 1 rfl (by omega))
  go_upto_region 3 with (go_at_call 49; refine WH.out.mono ?_; rintro e w5 ⟨y, hy, hm⟩; rcases y with ⟨er, i⟩ | ⟨un5, r5⟩ <;> first | (obtain ⟨rfl, hF⟩ := hm; have hx := ct_err CT3.out (n1 := 0) hy; obtain ⟨n', hx⟩ := hx; exact ⟨rfl, n', .error (er, i), hx, rfl, hF⟩) | (obtain ⟨rfl, hr5, hJ⟩ := hm; have CT5 := Lib.hid (ct_step CT3.out (Mono.const _) (fun _ _ => Mono.rb (lsF_mono L E _ (updS_mono L E o) _ _) fun _ _ => Mono.rb (exB_mono _ _ _ _ _) fun _ _ => Mono.const _) (n1 := 0) hy); have J5 := Lib.hid hJ; clear hJ hy))
  clear WH cp4 CT3
  have cp5 : w5.cell? ⟨w.heap.size, 0, none⟩ = some (.pointer (some ⟨q, 0, none⟩)) := J5.out.p.cell 0
  have LH := Lib.hid (list_117 L E q (.pointer (some ⟨w.heap.size, 0, none⟩)) (.pointer (some ⟨(w.heap.size + 1), 0, none⟩)) (updS L E o) (updS_mono L E o) (Jn 0 w w.heap.size base q A c L E m o g w.heap.size w.heap.size (w.heap.size + 1)) (Jn 1 w w.heap.size base q A c L E m o g w.heap.size w.heap.size (w.heap.size + 1)) (Fg w.heap.size q g w) (fun W r s hJ => clo117 w w.heap.size base q A c L E m o g w.heap.size w.heap.size (w.heap.size + 1) ho W r s hJ) jn_found jn_read w5 r5 _ ⟨⟨_, J5.out⟩, by show lens s ≤ _; omega⟩)
  go_upto_region 4 with (go_at_call 111; refine LH.out.mono ?_; rintro e w6 ⟨nC, y, hy, hm⟩; rcases y with ⟨er, i⟩ | ⟨s6, r6⟩ <;> first | (obtain ⟨hz', hF⟩ := hm; have hz : e = .panicked [{ v := .iface 26 (.agg #[.int .i64 er, .int .i64 ((tokAt L E i).at_ : Int)]), recovered := false }] := hz'; subst hz; clear hz'; have hx := ct_err CT5.out (n1 := nC) hy; obtain ⟨n', hx⟩ := hx; exact ⟨rfl, n', .error (er, i), hx, rfl, hF⟩) | (obtain ⟨rfl, hr6, ⟨x6, hJ⟩, hl6⟩ := hm; have CT6 := Lib.hid (ct_step CT5.out (lsF_mono L E _ (updS_mono L E o) _ _) (fun _ _ => Mono.rb (exB_mono _ _ _ _ _) fun _ _ => Mono.const _) (n1 := nC) hy); have J6 := Lib.hid hJ; clear hJ hy))
  clear LH cp5 CT5
  have J6d := Lib.hid (J6.out.below (w' := w6.drew) ⟨rfl, rfl, rfl, Nat.le_refl _, fun _ _ => rfl⟩)
  refine wp_region_held_drew (S := fun w' => w'.cell? ⟨(w.heap.size + 1), 0, none⟩ = some (.pointer (some ⟨g, 0, none⟩)) ∧ w'.cell? ⟨w.heap.size, 0, none⟩ = some (.pointer (some ⟨q, 0, none⟩))) (by kernel_rfl) J6d.out.w2 (fun hHeld => ?_)
  generalize w6.drew = w7 at *
  clear J6
  refine take_d (i := 0) (d := 21) (v := ?v19_21) rfl rfl (by kernel_rfl) (by kernel_rfl) (by kernel_rfl) (fun _ _ _ h => h) (Or.inl ⟨by kernel_rfl, ?v19_21h⟩) hHeld ?v19_21n
  case v19_21h => (intro w hSw; (try dsimp only at hSw); go_split_ands; go_simp; (try exact rfl))
  try simp only [Act.put, List.setIfInBounds_toArray, List.set_cons_zero, List.set_cons_succ]
  refine take_d (i := 1) (d := 22) (v := ?v20_22) rfl rfl (by kernel_rfl) (by kernel_rfl) (by kernel_rfl) (fun _ _ _ h => h) (Or.inl ⟨by kernel_rfl, ?v20_22h⟩) hHeld ?v20_22n
  case v20_22h => (intro w hSw; (try dsimp only at hSw); go_split_ands; go_simp; (try exact rfl))
  try simp only [Act.put, List.setIfInBounds_toArray, List.set_cons_zero, List.set_cons_succ]
  refine wpAnyH_ready (rs := [2]) (by kernel_rfl) (by simp) ?_
  refine AllReadyH.cons rfl (fun K' hK => ?_) AllReadyH.nil
  go_simp
  refine (J6d.out.exB ho [87, 72, 69, 82, 69]).mono ?_
  rintro e w8 ⟨nC, y, hy, hm⟩
  rcases y with ⟨er, i⟩ | ⟨ns8, r8⟩
  · obtain ⟨rfl, hF⟩ := hm; have hx := ct_err CT6.out (n1 := nC) hy; obtain ⟨n', hx⟩ := hx; exact ⟨rfl, n', .error (er, i), hx, rfl, hF⟩
  obtain ⟨B8, nc8, rfl, hr8, hN, hJ⟩ := hm
  have CT8 := Lib.hid (ct_step CT6.out (exB_mono _ _ _ _ _) (fun _ _ => Mono.const _) (n1 := nC) hy)
  have J8 := Lib.hid hJ
  have N8 := Lib.hid hN
  clear hJ hy hN CT6
  refine hK.out _ _ J8.out.w2 (fun hHeld => ?_)
  clear hK K'
  try simp only [Act.put, List.setIfInBounds_toArray, List.set_cons_zero, List.set_cons_succ]
  refine take_d (i := 3) (d := 24) (v := ?v21_24) rfl rfl (by kernel_rfl) (by kernel_rfl) (by kernel_rfl) (fun _ _ _ h => h) (Or.inl ⟨by kernel_rfl, ?v21_24h⟩) hHeld ?v21_24n
  case v21_24h => (intro w hSw; (try dsimp only at hSw); go_split_ands; go_simp; (try exact rfl))
  try simp only [Act.put, List.setIfInBounds_toArray, List.set_cons_zero, List.set_cons_succ]
  refine take_d (i := 4) (d := 25) (v := ?v22_25) rfl rfl (by kernel_rfl) (by kernel_rfl) (by kernel_rfl) (fun _ _ _ h => h) (Or.inl ⟨by kernel_rfl, ?v22_25h⟩) hHeld ?v22_25n
  case v22_25h => (intro w hSw; (try dsimp only at hSw); go_split_ands; go_simp; (try exact rfl))
  try simp only [Act.put, List.setIfInBounds_toArray, List.set_cons_zero, List.set_cons_succ]
  refine wpAnyH_ready (rs := [5]) (by kernel_rfl) (by simp) ?_
  refine AllReadyH.cons rfl (fun K' hK => ?_) AllReadyH.nil
  refine wp_store_exp rfl 34 _ _ rfl g 8 [.slice B8 ns8.length nc8] rfl rfl (J8.out.there (by simp)) Tryz.i34 (by simp [Value.oneCell']) ?_
  have J9 := Lib.hid (J8.out.whe N8.out)
  refine hK.out _ _ J9.out.w2 (fun hHeld => ?_)
  clear hK K'
  try simp only [Act.put, List.setIfInBounds_toArray, List.set_cons_zero, List.set_cons_succ]
  refine wpAnyH_done (by kernel_rfl) ?_ _
  generalize w8.setCells g 8 [.slice B8 ns8.length nc8] = w9 at *
  clear J8 J6d
  go_wp2_with fail
  refine bodyPost_end (results_none rfl _ _ _) rfl ?_
  obtain ⟨n', hx⟩ := CT8.out 0 _ rfl
  exact ⟨n', _, hx, rfl, by omega, ⟨_, J9.out.bx⟩, J9.out.fr⟩
end Go.Proofs.YtiipglmbfgmbbaaGreatDoor
