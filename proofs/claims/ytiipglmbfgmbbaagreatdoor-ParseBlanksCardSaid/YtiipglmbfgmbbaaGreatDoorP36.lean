/-
  CREATE and INSERT, behind their first words.
-/
import Derived.Test.YtiipglmbfgmbbaaGreatDoorP35
namespace Go.Proofs.YtiipglmbfgmbbaaGreatDoor
open Go.RowKit Go.Shelf
attribute [local go_sem] Oper.semAt_some

theorem wp_store_exp {P : Program} {o : Oper} {a : Act} {K : Act → World → Prop} {Q : Exit → Act → World → Prop} {w : World} (hd : o.dst = none) (ty : TypeId) (x y : Operand) (ho : o.op = .store ty x y) (g off : Nat) (l : List Value)
    (hx : a.eval x = .pointer (some ⟨g, off, none⟩)) (hy : a.eval y = .agg l.toArray) (ht : w.there g off l.length) (hi : (P.info? ty).map (·.size) = some l.length) (h1 : ∀ v ∈ l, v.oneCell' = true) (h : K a (w.setCells g off l)) : Oper.wp P o a w K Q :=
  wp_store_mid ty x y ho g off l.toArray hx hy (by simpa using ht) (by simpa using hi) (all_oneCell_toArray h1) (by rw [hd]; exact h)
set_option maxRecDepth 100000 in
set_option maxHeartbeats 8000000 in
theorem create_any (base q : Nat) (A : Option Addr) (c : Nat) (L : List Tk) (E m o g : Nat) (ho : o ≤ 16) (w : World) (r : Nat) (s : Sm) (x : Cx) (h : Bx w base q A c L E m r o g w.heap.size s x) (hl : lens s = 0) :
    Calls Tryz.prog 76 #[.pointer (some ⟨q, 0, none⟩), .pointer (some ⟨g, 0, none⟩)] w (Lr (fun n => creF L E n r s) (Js w base q A c L E m o g) (Fg w.heap.size q g w) L E r) := by
  have J1 := Lib.hid (Jx.enter h)
  have hmf : ∀ (fn : Fn) (first cap : Array Value) (w : World), (Instr.makeFunc fn first cap).run Tryz.prog w = .ok (.func fn first cap) w := fun _ _ _ _ => rfl
  have CT1 : Hid (∀ n y, creF L E n r s = some y → ∃ n', creF L E n' r s = some y) := Lib.hid (fun n y h => ⟨n, h⟩)
  clear h
  go_enter Tryz.func76, Tryz.ntmps76
  go_upto_region 1 with fail
  generalize (w.alloc (.cells #[.pointer (some ⟨q, 0, none⟩)] 112)).alloc (.cells #[.pointer (some ⟨g, 0, none⟩)] 137) = w1 at *
  have cp1 : w1.cell? ⟨w.heap.size, 0, none⟩ = some (.pointer (some ⟨q, 0, none⟩)) := J1.out.p.cell 0
  have WH : Hid (Calls Tryz.prog 49 #[.pointer (some ⟨q, 0, none⟩), .slice (some ⟨w1.heap.size, 0, none⟩) 1 1] (w1.alloc (.cells #[.string ⟨#[84, 65, 66, 76, 69]⟩] 9)) fun e w' => Aw (rwd L E r [[84, 65, 66, 76, 69]]) (fun _ r' e w' => e = .returned (.tuple #[]) ∧ r ≤ r' ∧ Jx w w.heap.size w' base q A c L E m r' o g w.heap.size w.heap.size (w.heap.size + 1) s x) (Fg w.heap.size q g w) L E e w') := Lib.hid (J1.out.words [[84, 65, 66, 76, 69]] 1 rfl (by omega))
  go_upto_region 2 with (go_at_call 49; refine WH.out.mono ?_; rintro e w2 ⟨y, hy, hm⟩; rcases y with ⟨er, i⟩ | ⟨un2, r2⟩ <;> first | (obtain ⟨rfl, hF⟩ := hm; have hx := ct_err CT1.out (n1 := 0) hy; obtain ⟨n', hx⟩ := hx; exact ⟨rfl, n', .error (er, i), hx, rfl, hF⟩) | (obtain ⟨rfl, hr2, hJ⟩ := hm; have CT2 := Lib.hid (ct_step CT1.out (Mono.const _) (fun _ _ => Mono.rb (Mono.const _) fun _ _ => Mono.rb (Mono.const _) fun _ _ => Mono.rb (lsF_mono L E _ (colS_mono L E) _ _) fun _ _ => Mono.rb (Mono.const _) fun _ _ => Mono.const _) (n1 := 0) hy); have J2 := Lib.hid hJ; clear hJ hy))
  clear WH cp1 CT1
  have J2d := Lib.hid (J2.out.below (w' := w2.drew) ⟨rfl, rfl, rfl, Nat.le_refl _, fun _ _ => rfl⟩)
  refine wp_region_held_drew (S := fun w' => w'.cell? ⟨(w.heap.size + 1), 0, none⟩ = some (.pointer (some ⟨g, 0, none⟩)) ∧ w'.cell? ⟨w.heap.size, 0, none⟩ = some (.pointer (some ⟨q, 0, none⟩))) (by kernel_rfl) J2d.out.w2 (fun hHeld => ?_)
  generalize w2.drew = w3 at *
  clear J2
  refine take_d (i := 0) (d := 9) (v := ?v1_9) rfl rfl (by kernel_rfl) (by kernel_rfl) (by kernel_rfl) (fun _ _ _ h => h) (Or.inl ⟨by kernel_rfl, ?v1_9h⟩) hHeld ?v1_9n
  case v1_9h => (intro w hSw; (try dsimp only at hSw); go_split_ands; go_simp; (try exact rfl))
  try simp only [Act.put, List.setIfInBounds_toArray, List.set_cons_zero, List.set_cons_succ]
  refine take_d (i := 1) (d := 10) (v := ?v2_10) rfl rfl (by kernel_rfl) (by kernel_rfl) (by kernel_rfl) (fun _ _ _ h => h) (Or.inl ⟨by kernel_rfl, ?v2_10h⟩) hHeld ?v2_10n
  case v2_10h => (intro w hSw; (try dsimp only at hSw); go_split_ands; go_simp; (try exact rfl))
  try simp only [Act.put, List.setIfInBounds_toArray, List.set_cons_zero, List.set_cons_succ]
  refine take_d (i := 2) (d := 11) (v := ?v3_11) rfl rfl (by kernel_rfl) (by kernel_rfl) (by kernel_rfl) (fun _ _ _ h => h) (Or.inl ⟨by kernel_rfl, ?v3_11h⟩) hHeld ?v3_11n
  case v3_11h => (intro w hSw; (try dsimp only at hSw); go_split_ands; go_simp; (try exact rfl))
  try simp only [Act.put, List.setIfInBounds_toArray, List.set_cons_zero, List.set_cons_succ]
  refine take_d (i := 3) (d := 12) (v := ?v4_12) rfl rfl (by kernel_rfl) (by kernel_rfl) (by kernel_rfl) (fun _ _ _ h => h) (Or.inl ⟨by kernel_rfl, ?v4_12h⟩) hHeld ?v4_12n
  case v4_12h => (intro w hSw; (try dsimp only at hSw); go_split_ands; go_simp; (try exact rfl))
  try simp only [Act.put, List.setIfInBounds_toArray, List.set_cons_zero, List.set_cons_succ]
  refine wpAnyH_ready (rs := [4]) (by kernel_rfl) (by simp) ?_
  refine AllReadyH.cons rfl (fun K' hK => ?_) AllReadyH.nil
  go_simp
  refine (J2d.out.name).mono ?_
  rintro e w4 ⟨y, hy, hm⟩
  rcases y with ⟨er, i⟩ | ⟨t4, r4⟩
  · obtain ⟨rfl, hF⟩ := hm; have hx := ct_err CT2.out (n1 := 0) hy; obtain ⟨n', hx⟩ := hx; exact ⟨rfl, n', .error (er, i), hx, rfl, hF⟩
  obtain ⟨T4, hT, rfl, hr4, hJ⟩ := hm
  have CT4 := Lib.hid (ct_step CT2.out (Mono.const _) (fun _ _ => Mono.rb (Mono.const _) fun _ _ => Mono.rb (lsF_mono L E _ (colS_mono L E) _ _) fun _ _ => Mono.rb (Mono.const _) fun _ _ => Mono.const _) (n1 := 0) hy)
  have J4 := Lib.hid hJ
  have HT4 := Lib.hid hT
  clear hJ hy hT CT2
  refine hK.out _ _ J4.out.w2 (fun hHeld => ?_)
  clear hK K'
  try simp only [Act.put, List.setIfInBounds_toArray, List.set_cons_zero, List.set_cons_succ]
  refine take_d (i := 5) (d := 14) (v := ?v5_14) rfl rfl (by kernel_rfl) (by kernel_rfl) (by kernel_rfl) (fun _ _ _ h => h) (Or.inl ⟨by kernel_rfl, ?v5_14h⟩) hHeld ?v5_14n
  case v5_14h => (intro w hSw; (try dsimp only at hSw); go_split_ands; go_simp; (try exact rfl))
  try simp only [Act.put, List.setIfInBounds_toArray, List.set_cons_zero, List.set_cons_succ]
  refine take_d (i := 6) (d := 15) (v := ?v6_15) rfl rfl (by kernel_rfl) (by kernel_rfl) (by kernel_rfl) (fun _ _ _ h => h) (Or.inl ⟨by kernel_rfl, ?v6_15h⟩) hHeld ?v6_15n
  case v6_15h => (intro w hSw; (try dsimp only at hSw); go_split_ands; go_simp; (try exact rfl))
  try simp only [Act.put, List.setIfInBounds_toArray, List.set_cons_zero, List.set_cons_succ]
  refine wpAnyH_ready (rs := [7]) (by kernel_rfl) (by simp) ?_
  refine AllReadyH.cons rfl (fun K' hK => ?_) AllReadyH.nil
  have f1 : w4.frozen? ⟨g, 1, none⟩ = false := J4.out.bx.blk.frozen 1
  have f2 : w4.cell? ⟨g, 1, none⟩ = some (tx s.table) := J4.out.bx.blk.cell 1
  go_simp
  clear f1 f2
  have J5 := Lib.hid (J4.out.tab HT4.out)
  refine hK.out _ _ J5.out.w2 (fun hHeld => ?_)
  clear hK K'
  try simp only [Act.put, List.setIfInBounds_toArray, List.set_cons_zero, List.set_cons_succ]
  refine wpAnyH_done (by kernel_rfl) ?_ _
  generalize w4.setCell ⟨g, 1, none⟩ (.string T4) = w5 at *
  clear J4 J2d
  go_upto_region 3 with fail
  have cp5 : w5.cell? ⟨w.heap.size, 0, none⟩ = some (.pointer (some ⟨q, 0, none⟩)) := J5.out.p.cell 0
  have WH : Hid (Calls Tryz.prog 49 #[.pointer (some ⟨q, 0, none⟩), .slice (some ⟨w5.heap.size, 0, none⟩) 1 1] (w5.alloc (.cells #[.string ⟨#[40]⟩] 9)) fun e w' => Aw (rwd L E r4 [[40]]) (fun _ r' e w' => e = .returned (.tuple #[]) ∧ r4 ≤ r' ∧ Jx w w.heap.size w' base q A c L E m r' o g w.heap.size w.heap.size (w.heap.size + 1) { s with table := t4 } x) (Fg w.heap.size q g w) L E e w') := Lib.hid (J5.out.words [[40]] 1 rfl (by omega))
  go_upto_region 4 with (go_at_call 49; refine WH.out.mono ?_; rintro e w6 ⟨y, hy, hm⟩; rcases y with ⟨er, i⟩ | ⟨un6, r6⟩ <;> first | (obtain ⟨rfl, hF⟩ := hm; have hx := ct_err CT4.out (n1 := 0) hy; obtain ⟨n', hx⟩ := hx; exact ⟨rfl, n', .error (er, i), hx, rfl, hF⟩) | (obtain ⟨rfl, hr6, hJ⟩ := hm; have CT6 := Lib.hid (ct_step CT4.out (Mono.const _) (fun _ _ => Mono.rb (lsF_mono L E _ (colS_mono L E) _ _) fun _ _ => Mono.rb (Mono.const _) fun _ _ => Mono.const _) (n1 := 0) hy); have J6 := Lib.hid hJ; clear hJ hy))
  clear WH cp5 CT4
  have cp6 : w6.cell? ⟨w.heap.size, 0, none⟩ = some (.pointer (some ⟨q, 0, none⟩)) := J6.out.p.cell 0
  have LH := Lib.hid (list_112 L E q (.pointer (some ⟨(w.heap.size + 1), 0, none⟩)) (.pointer (some ⟨w.heap.size, 0, none⟩)) (colS L E) (colS_mono L E) (Jn 0 w w.heap.size base q A c L E m o g w.heap.size w.heap.size (w.heap.size + 1)) (Jn 1 w w.heap.size base q A c L E m o g w.heap.size w.heap.size (w.heap.size + 1)) (Fg w.heap.size q g w) (fun W r s hJ => clo112 w w.heap.size base q A c L E m o g w.heap.size w.heap.size (w.heap.size + 1) ho W r s hJ) jn_found jn_read w6 r6 _ ⟨⟨_, J6.out⟩, by show lens s ≤ _; omega⟩)
  go_upto_region 5 with (go_at_call 111; refine LH.out.mono ?_; rintro e w7 ⟨nC, y, hy, hm⟩; rcases y with ⟨er, i⟩ | ⟨s7, r7⟩ <;> first | (obtain ⟨hz', hF⟩ := hm; have hz : e = .panicked [{ v := .iface 26 (.agg #[.int .i64 er, .int .i64 ((tokAt L E i).at_ : Int)]), recovered := false }] := hz'; subst hz; clear hz'; have hx := ct_err CT6.out (n1 := nC) hy; obtain ⟨n', hx⟩ := hx; exact ⟨rfl, n', .error (er, i), hx, rfl, hF⟩) | (obtain ⟨rfl, hr7, ⟨x7, hJ⟩, hl7⟩ := hm; have CT7 := Lib.hid (ct_step CT6.out (lsF_mono L E _ (colS_mono L E) _ _) (fun _ _ => Mono.rb (Mono.const _) fun _ _ => Mono.const _) (n1 := nC) hy); have J7 := Lib.hid hJ; clear hJ hy))
  clear LH cp6 CT6
  have cp7 : w7.cell? ⟨w.heap.size, 0, none⟩ = some (.pointer (some ⟨q, 0, none⟩)) := J7.out.p.cell 0
  have WH : Hid (Calls Tryz.prog 49 #[.pointer (some ⟨q, 0, none⟩), .slice (some ⟨w7.heap.size, 0, none⟩) 1 1] (w7.alloc (.cells #[.string ⟨#[41]⟩] 9)) fun e w' => Aw (rwd L E r7 [[41]]) (fun _ r' e w' => e = .returned (.tuple #[]) ∧ r7 ≤ r' ∧ Jx w w.heap.size w' base q A c L E m r' o g w.heap.size w.heap.size (w.heap.size + 1) s7 x7) (Fg w.heap.size q g w) L E e w') := Lib.hid (J7.out.words [[41]] 1 rfl (by omega))
  go_wp2_with (go_at_call 49; refine WH.out.mono ?_; rintro e w8 ⟨y, hy, hm⟩; rcases y with ⟨er, i⟩ | ⟨un8, r8⟩ <;> first | (obtain ⟨rfl, hF⟩ := hm; have hx := ct_err CT7.out (n1 := 0) hy; obtain ⟨n', hx⟩ := hx; exact ⟨rfl, n', .error (er, i), hx, rfl, hF⟩) | (obtain ⟨rfl, hr8, hJ⟩ := hm; have CT8 := Lib.hid (ct_step CT7.out (Mono.const _) (fun _ _ => Mono.const _) (n1 := 0) hy); have J8 := Lib.hid hJ; clear hJ hy))
  clear WH cp7 CT7
  go_end0
  obtain ⟨n', hx⟩ := CT8.out 0 _ rfl
  exact ⟨n', _, hx, rfl, by omega, ⟨_, J8.out.bx⟩, J8.out.fr⟩
set_option maxRecDepth 100000 in
set_option maxHeartbeats 8000000 in
theorem insert_any (base q : Nat) (A : Option Addr) (c : Nat) (L : List Tk) (E m o g : Nat) (ho : o ≤ 16) (w : World) (r : Nat) (s : Sm) (x : Cx) (h : Bx w base q A c L E m r o g w.heap.size s x) (hl : lens s = 0) :
    Calls Tryz.prog 78 #[.pointer (some ⟨q, 0, none⟩), .pointer (some ⟨g, 0, none⟩)] w (Lr (fun n => insF L E o n r s) (Js w base q A c L E m o g) (Fg w.heap.size q g w) L E r) := by
  have J1 := Lib.hid (Jx.enter h)
  have hmf : ∀ (fn : Fn) (first cap : Array Value) (w : World), (Instr.makeFunc fn first cap).run Tryz.prog w = .ok (.func fn first cap) w := fun _ _ _ _ => rfl
  have CT1 : Hid (∀ n y, insF L E o n r s = some y → ∃ n', insF L E o n' r s = some y) := Lib.hid (fun n y h => ⟨n, h⟩)
  clear h
  go_enter Tryz.func78, Tryz.ntmps78
  go_upto_region 1 with fail
  generalize (w.alloc (.cells #[.pointer (some ⟨q, 0, none⟩)] 112)).alloc (.cells #[.pointer (some ⟨g, 0, none⟩)] 137) = w1 at *
  have cp1 : w1.cell? ⟨w.heap.size, 0, none⟩ = some (.pointer (some ⟨q, 0, none⟩)) := J1.out.p.cell 0
  have WH : Hid (Calls Tryz.prog 49 #[.pointer (some ⟨q, 0, none⟩), .slice (some ⟨w1.heap.size, 0, none⟩) 1 1] (w1.alloc (.cells #[.string ⟨#[73, 78, 84, 79]⟩] 9)) fun e w' => Aw (rwd L E r [[73, 78, 84, 79]]) (fun _ r' e w' => e = .returned (.tuple #[]) ∧ r ≤ r' ∧ Jx w w.heap.size w' base q A c L E m r' o g w.heap.size w.heap.size (w.heap.size + 1) s x) (Fg w.heap.size q g w) L E e w') := Lib.hid (J1.out.words [[73, 78, 84, 79]] 1 rfl (by omega))
  go_upto_region 2 with (go_at_call 49; refine WH.out.mono ?_; rintro e w2 ⟨y, hy, hm⟩; rcases y with ⟨er, i⟩ | ⟨un2, r2⟩ <;> first | (obtain ⟨rfl, hF⟩ := hm; have hx := ct_err CT1.out (n1 := 0) hy; obtain ⟨n', hx⟩ := hx; exact ⟨rfl, n', .error (er, i), hx, rfl, hF⟩) | (obtain ⟨rfl, hr2, hJ⟩ := hm; have CT2 := Lib.hid (ct_step CT1.out (Mono.const _) (fun _ _ => Mono.rb (Mono.const _) fun _ _ => Mono.rb (Mono.const _) fun _ _ => Mono.rb (lsF_mono L E _ (insS_mono L E o) _ _) fun _ _ => Mono.rb (Mono.const _) fun _ _ => Mono.const _) (n1 := 0) hy); have J2 := Lib.hid hJ; clear hJ hy))
  clear WH cp1 CT1
  have J2d := Lib.hid (J2.out.below (w' := w2.drew) ⟨rfl, rfl, rfl, Nat.le_refl _, fun _ _ => rfl⟩)
  refine wp_region_held_drew (S := fun w' => w'.cell? ⟨(w.heap.size + 1), 0, none⟩ = some (.pointer (some ⟨g, 0, none⟩)) ∧ w'.cell? ⟨w.heap.size, 0, none⟩ = some (.pointer (some ⟨q, 0, none⟩))) (by kernel_rfl) J2d.out.w2 (fun hHeld => ?_)
  generalize w2.drew = w3 at *
  clear J2
  refine take_d (i := 0) (d := 9) (v := ?v7_9) rfl rfl (by kernel_rfl) (by kernel_rfl) (by kernel_rfl) (fun _ _ _ h => h) (Or.inl ⟨by kernel_rfl, ?v7_9h⟩) hHeld ?v7_9n
  case v7_9h => (intro w hSw; (try dsimp only at hSw); go_split_ands; go_simp; (try exact rfl))
  try simp only [Act.put, List.setIfInBounds_toArray, List.set_cons_zero, List.set_cons_succ]
  refine take_d (i := 1) (d := 10) (v := ?v8_10) rfl rfl (by kernel_rfl) (by kernel_rfl) (by kernel_rfl) (fun _ _ _ h => h) (Or.inl ⟨by kernel_rfl, ?v8_10h⟩) hHeld ?v8_10n
  case v8_10h => (intro w hSw; (try dsimp only at hSw); go_split_ands; go_simp; (try exact rfl))
  try simp only [Act.put, List.setIfInBounds_toArray, List.set_cons_zero, List.set_cons_succ]
  refine take_d (i := 2) (d := 11) (v := ?v9_11) rfl rfl (by kernel_rfl) (by kernel_rfl) (by kernel_rfl) (fun _ _ _ h => h) (Or.inl ⟨by kernel_rfl, ?v9_11h⟩) hHeld ?v9_11n
  case v9_11h => (intro w hSw; (try dsimp only at hSw); go_split_ands; go_simp; (try exact rfl))
  try simp only [Act.put, List.setIfInBounds_toArray, List.set_cons_zero, List.set_cons_succ]
  refine take_d (i := 3) (d := 12) (v := ?v10_12) rfl rfl (by kernel_rfl) (by kernel_rfl) (by kernel_rfl) (fun _ _ _ h => h) (Or.inl ⟨by kernel_rfl, ?v10_12h⟩) hHeld ?v10_12n
  case v10_12h => (intro w hSw; (try dsimp only at hSw); go_split_ands; go_simp; (try exact rfl))
  try simp only [Act.put, List.setIfInBounds_toArray, List.set_cons_zero, List.set_cons_succ]
  refine wpAnyH_ready (rs := [4]) (by kernel_rfl) (by simp) ?_
  refine AllReadyH.cons rfl (fun K' hK => ?_) AllReadyH.nil
  go_simp
  refine (J2d.out.name).mono ?_
  rintro e w4 ⟨y, hy, hm⟩
  rcases y with ⟨er, i⟩ | ⟨t4, r4⟩
  · obtain ⟨rfl, hF⟩ := hm; have hx := ct_err CT2.out (n1 := 0) hy; obtain ⟨n', hx⟩ := hx; exact ⟨rfl, n', .error (er, i), hx, rfl, hF⟩
  obtain ⟨T4, hT, rfl, hr4, hJ⟩ := hm
  have CT4 := Lib.hid (ct_step CT2.out (Mono.const _) (fun _ _ => Mono.rb (Mono.const _) fun _ _ => Mono.rb (lsF_mono L E _ (insS_mono L E o) _ _) fun _ _ => Mono.rb (Mono.const _) fun _ _ => Mono.const _) (n1 := 0) hy)
  have J4 := Lib.hid hJ
  have HT4 := Lib.hid hT
  clear hJ hy hT CT2
  refine hK.out _ _ J4.out.w2 (fun hHeld => ?_)
  clear hK K'
  try simp only [Act.put, List.setIfInBounds_toArray, List.set_cons_zero, List.set_cons_succ]
  refine take_d (i := 5) (d := 14) (v := ?v11_14) rfl rfl (by kernel_rfl) (by kernel_rfl) (by kernel_rfl) (fun _ _ _ h => h) (Or.inl ⟨by kernel_rfl, ?v11_14h⟩) hHeld ?v11_14n
  case v11_14h => (intro w hSw; (try dsimp only at hSw); go_split_ands; go_simp; (try exact rfl))
  try simp only [Act.put, List.setIfInBounds_toArray, List.set_cons_zero, List.set_cons_succ]
  refine take_d (i := 6) (d := 15) (v := ?v12_15) rfl rfl (by kernel_rfl) (by kernel_rfl) (by kernel_rfl) (fun _ _ _ h => h) (Or.inl ⟨by kernel_rfl, ?v12_15h⟩) hHeld ?v12_15n
  case v12_15h => (intro w hSw; (try dsimp only at hSw); go_split_ands; go_simp; (try exact rfl))
  try simp only [Act.put, List.setIfInBounds_toArray, List.set_cons_zero, List.set_cons_succ]
  refine wpAnyH_ready (rs := [7]) (by kernel_rfl) (by simp) ?_
  refine AllReadyH.cons rfl (fun K' hK => ?_) AllReadyH.nil
  have f1 : w4.frozen? ⟨g, 1, none⟩ = false := J4.out.bx.blk.frozen 1
  have f2 : w4.cell? ⟨g, 1, none⟩ = some (tx s.table) := J4.out.bx.blk.cell 1
  go_simp
  clear f1 f2
  have J5 := Lib.hid (J4.out.tab HT4.out)
  refine hK.out _ _ J5.out.w2 (fun hHeld => ?_)
  clear hK K'
  try simp only [Act.put, List.setIfInBounds_toArray, List.set_cons_zero, List.set_cons_succ]
  refine wpAnyH_done (by kernel_rfl) ?_ _
  generalize w4.setCell ⟨g, 1, none⟩ (.string T4) = w5 at *
  clear J4 J2d
  go_upto_region 3 with fail
  have cp5 : w5.cell? ⟨w.heap.size, 0, none⟩ = some (.pointer (some ⟨q, 0, none⟩)) := J5.out.p.cell 0
  have WH : Hid (Calls Tryz.prog 49 #[.pointer (some ⟨q, 0, none⟩), .slice (some ⟨w5.heap.size, 0, none⟩) 2 2] (w5.alloc (.cells #[.string ⟨#[86, 65, 76, 85, 69, 83]⟩, .string ⟨#[40]⟩] 9)) fun e w' => Aw (rwd L E r4 [[86, 65, 76, 85, 69, 83], [40]]) (fun _ r' e w' => e = .returned (.tuple #[]) ∧ r4 ≤ r' ∧ Jx w w.heap.size w' base q A c L E m r' o g w.heap.size w.heap.size (w.heap.size + 1) { s with table := t4 } x) (Fg w.heap.size q g w) L E e w') := Lib.hid (J5.out.words [[86, 65, 76, 85, 69, 83], [40]] 2 rfl (by omega))
  go_upto_region 4 with (go_at_call 49; refine WH.out.mono ?_; rintro e w6 ⟨y, hy, hm⟩; rcases y with ⟨er, i⟩ | ⟨un6, r6⟩ <;> first | (obtain ⟨rfl, hF⟩ := hm; have hx := ct_err CT4.out (n1 := 0) hy; obtain ⟨n', hx⟩ := hx; exact ⟨rfl, n', .error (er, i), hx, rfl, hF⟩) | (obtain ⟨rfl, hr6, hJ⟩ := hm; have CT6 := Lib.hid (ct_step CT4.out (Mono.const _) (fun _ _ => Mono.rb (lsF_mono L E _ (insS_mono L E o) _ _) fun _ _ => Mono.rb (Mono.const _) fun _ _ => Mono.const _) (n1 := 0) hy); have J6 := Lib.hid hJ; clear hJ hy))
  clear WH cp5 CT4
  have cp6 : w6.cell? ⟨w.heap.size, 0, none⟩ = some (.pointer (some ⟨q, 0, none⟩)) := J6.out.p.cell 0
  have LH := Lib.hid (list_115 L E q (.pointer (some ⟨(w.heap.size + 1), 0, none⟩)) (.pointer (some ⟨w.heap.size, 0, none⟩)) (insS L E o) (insS_mono L E o) (Jn 0 w w.heap.size base q A c L E m o g w.heap.size w.heap.size (w.heap.size + 1)) (Jn 1 w w.heap.size base q A c L E m o g w.heap.size w.heap.size (w.heap.size + 1)) (Fg w.heap.size q g w) (fun W r s hJ => clo115 w w.heap.size base q A c L E m o g w.heap.size w.heap.size (w.heap.size + 1) ho W r s hJ) jn_found jn_read w6 r6 _ ⟨⟨_, J6.out⟩, by show lens s ≤ _; omega⟩)
  go_upto_region 5 with (go_at_call 111; refine LH.out.mono ?_; rintro e w7 ⟨nC, y, hy, hm⟩; rcases y with ⟨er, i⟩ | ⟨s7, r7⟩ <;> first | (obtain ⟨hz', hF⟩ := hm; have hz : e = .panicked [{ v := .iface 26 (.agg #[.int .i64 er, .int .i64 ((tokAt L E i).at_ : Int)]), recovered := false }] := hz'; subst hz; clear hz'; have hx := ct_err CT6.out (n1 := nC) hy; obtain ⟨n', hx⟩ := hx; exact ⟨rfl, n', .error (er, i), hx, rfl, hF⟩) | (obtain ⟨rfl, hr7, ⟨x7, hJ⟩, hl7⟩ := hm; have CT7 := Lib.hid (ct_step CT6.out (lsF_mono L E _ (insS_mono L E o) _ _) (fun _ _ => Mono.rb (Mono.const _) fun _ _ => Mono.const _) (n1 := nC) hy); have J7 := Lib.hid hJ; clear hJ hy))
  clear LH cp6 CT6
  have cp7 : w7.cell? ⟨w.heap.size, 0, none⟩ = some (.pointer (some ⟨q, 0, none⟩)) := J7.out.p.cell 0
  have WH : Hid (Calls Tryz.prog 49 #[.pointer (some ⟨q, 0, none⟩), .slice (some ⟨w7.heap.size, 0, none⟩) 1 1] (w7.alloc (.cells #[.string ⟨#[41]⟩] 9)) fun e w' => Aw (rwd L E r7 [[41]]) (fun _ r' e w' => e = .returned (.tuple #[]) ∧ r7 ≤ r' ∧ Jx w w.heap.size w' base q A c L E m r' o g w.heap.size w.heap.size (w.heap.size + 1) s7 x7) (Fg w.heap.size q g w) L E e w') := Lib.hid (J7.out.words [[41]] 1 rfl (by omega))
  go_wp2_with (go_at_call 49; refine WH.out.mono ?_; rintro e w8 ⟨y, hy, hm⟩; rcases y with ⟨er, i⟩ | ⟨un8, r8⟩ <;> first | (obtain ⟨rfl, hF⟩ := hm; have hx := ct_err CT7.out (n1 := 0) hy; obtain ⟨n', hx⟩ := hx; exact ⟨rfl, n', .error (er, i), hx, rfl, hF⟩) | (obtain ⟨rfl, hr8, hJ⟩ := hm; have CT8 := Lib.hid (ct_step CT7.out (Mono.const _) (fun _ _ => Mono.const _) (n1 := 0) hy); have J8 := Lib.hid hJ; clear hJ hy))
  clear WH cp7 CT7
  go_end0
  obtain ⟨n', hx⟩ := CT8.out 0 _ rfl
  exact ⟨n', _, hx, rfl, by omega, ⟨_, J8.out.bx⟩, J8.out.fr⟩
end Go.Proofs.YtiipglmbfgmbbaaGreatDoor
