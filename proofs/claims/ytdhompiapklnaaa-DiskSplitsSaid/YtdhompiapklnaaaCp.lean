/-
  Copy.
-/
import Derived.Test.YtdhompiapklnaaaWk
namespace Go.Proofs.Ytdhompiapklnaaa
open Go.RowKit
attribute [local go_sem ↓] Try.z39 Try.z86

theorem clone41_nil (n c : Nat) (w : World) : Calls Try.prog 41 #[.slice none n c] w fun e w' => e = .returned (.slice none 0 0) ∧ w = w' := by
  have q : ∀ (w : World) (a : Option Addr) (n c n' c' : Nat), (binOp .eql 29 (.slice a n c) (.slice none n' c')).run Try.prog w = .ok (.bool a.isNone) w := fun w a n c n' c' => Lib.run_eql_slice_nil w _ _ a n c n' c' Try.underlying29
  go_enter Try.func41, Try.ntmps41
  go_wp2
  go_ret
  exact ⟨rfl, rfl⟩

theorem buildN41 (w : World) : (Instr.buildSlice 29 0 #[]).run Try.prog w = .ok (.slice (some ⟨w.heap.size, 0, none⟩) 0 0) (w.alloc (.cells #[] 39)) := by
  obtain ⟨i0, hi, _⟩ := info_parts (show (Try.prog.info? 39).map (fun i => (i.zero, i.size, i.bytes)) = some (some (.agg Z0.toArray), 64, 64) by kernel_rfl)
  simp [Instr.buildSlice, run_underlying Try.underlying29, sizeOf, typeInfo, hi, Instr.fill, newRow, (show Array.range 0 = #[] from by decide)]

set_option maxRecDepth 100000 in
set_option maxHeartbeats 2000000 in
theorem clone41_at (g n c : Nat) (l : List (List Value)) (base : Nat) (w : World) (hn : l.length = n) (h : Own w base 39 64 (.slice (some ⟨g, 0, none⟩) n c) l) (hl : n ≤ 1000000) (hone : ∀ b ∈ l, ∀ v ∈ b, v.oneCell' = true) :
    Calls Try.prog 41 #[.slice (some ⟨g, 0, none⟩) n c] w fun e w' => ∃ g' c', e = .returned (.slice (some ⟨g', 0, none⟩) n c') ∧ Own w' w.heap.size 39 64 (.slice (some ⟨g', 0, none⟩) n c') l ∧ Below w.heap.size w w' := by
  obtain ⟨i0, hi, hz0, hz1, hz2⟩ := info_parts (show (Try.prog.info? 39).map (fun i => (i.zero, i.size, i.bytes)) = some (some (.agg Z0.toArray), 64, 64) by kernel_rfl)
  have q : ∀ (w : World) (a : Option Addr) (n c n' c' : Nat), (binOp .eql 29 (.slice a n c) (.slice none n' c')).run Try.prog w = .ok (.bool a.isNone) w := fun w a n c n' c' => Lib.run_eql_slice_nil w _ _ a n c n' c' Try.underlying29
  have hbn := buildN41
  have P := h.2
  have hnews : ∀ j u, l.flatten[j]? = some u → (w.alloc (.cells #[] 39)).cell? ((⟨g, 0, none⟩ : Addr).add j) = some u := by
    intro j u hj
    refine Lib.cell?_alloc_some _ ?_
    exact h.1.cells (g := g) rfl j u hj
  have h1c : ∀ u ∈ l.flatten, u.oneCell' = true := by
    intro u hu
    obtain ⟨b, hb, hub⟩ := List.mem_flatten.1 hu
    exact hone b hb u hub
  have hlen : l.flatten.length = n * 64 := by rw [P.len, hn]
  have HN := Lib.hid hnews
  have H1 := Lib.hid h1c
  have HL := Lib.hid hlen
  have HP := Lib.hid P
  have HNN := Lib.hid hn
  clear h hnews h1c hlen P hone hn
  generalize hF : l.flatten = F at *
  have HF := Lib.hid hF
  clear hF
  go_enter Try.func41, Try.ntmps41
  go_wp2_with (at_builtin; refine wpList_append_own _ rfl _ _ 29 rfl w.heap.size 39 i0 (.agg Z0.toArray) 64 64 Try.underlying29 hi hz0 hz1 hz2 (by rfl) (by decide) _ _ _ rfl (World.ownsRow_made w #[] 0 (Nat.le_refl _) (Nat.zero_le _) rfl) ⟨g, 0, none⟩ n c F rfl HL.out HN.out H1.out (by unfold maxLen; omega) (by omega) (by simp) ?_; intro v' w1 hown hgrow hnil)
  have hB : Below w.heap.size w w1 := ((Below.refl _ w).alloc (Nat.le_refl _) _).grown hgrow (by simp) (fun k hk => by cases hk; exact Nat.le_refl _)
  have hne : v' ≠ .slice none 0 0 := fun e => by
    have := (hnil.1 e).1
    cases this
  rcases hown.2 with ⟨e, _⟩ | ⟨g', cap, cur, rfl, r⟩
  · exact absurd e hne
  · have ho : World.ownsRow w1 w.heap.size 39 64 (.slice (some ⟨g', 0, none⟩) n cap) n F := by simpa using hown
    have HO := Lib.hid ho
    clear hown ho r hnil hne hgrow
    simp only [Nat.zero_add]
    go_wp2
    go_ret
    exact ⟨g', cap, rfl, ⟨by rw [HNN.out, HF.out]; exact HO.out, HP.out⟩, hB⟩

theorem clone42_nil (n c : Nat) (w : World) : Calls Try.prog 42 #[.slice none n c] w fun e w' => e = .returned (.slice none 0 0) ∧ w = w' := by
  have q : ∀ (w : World) (a : Option Addr) (n c n' c' : Nat), (binOp .eql 71 (.slice a n c) (.slice none n' c')).run Try.prog w = .ok (.bool a.isNone) w := fun w a n c n' c' => Lib.run_eql_slice_nil w _ _ a n c n' c' Try.underlying71
  go_enter Try.func42, Try.ntmps42
  go_wp2
  go_ret
  exact ⟨rfl, rfl⟩

theorem buildN42 (w : World) : (Instr.buildSlice 71 0 #[]).run Try.prog w = .ok (.slice (some ⟨w.heap.size, 0, none⟩) 0 0) (w.alloc (.cells #[] 86)) := by
  obtain ⟨i0, hi, _⟩ := info_parts (show (Try.prog.info? 86).map (fun i => (i.zero, i.size, i.bytes)) = some (some (.agg (Value.int .i64 0 :: Z0).toArray), 65, 72) by kernel_rfl)
  simp [Instr.buildSlice, run_underlying Try.underlying71, sizeOf, typeInfo, hi, Instr.fill, newRow, (show Array.range 0 = #[] from by decide)]

set_option maxRecDepth 100000 in
set_option maxHeartbeats 2000000 in
theorem clone42_at (g n c : Nat) (l : List (List Value)) (base : Nat) (w : World) (hn : l.length = n) (h : Own w base 86 65 (.slice (some ⟨g, 0, none⟩) n c) l) (hl : n ≤ 1000000) (hone : ∀ b ∈ l, ∀ v ∈ b, v.oneCell' = true) :
    Calls Try.prog 42 #[.slice (some ⟨g, 0, none⟩) n c] w fun e w' => ∃ g' c', e = .returned (.slice (some ⟨g', 0, none⟩) n c') ∧ Own w' w.heap.size 86 65 (.slice (some ⟨g', 0, none⟩) n c') l ∧ Below w.heap.size w w' := by
  obtain ⟨i0, hi, hz0, hz1, hz2⟩ := info_parts (show (Try.prog.info? 86).map (fun i => (i.zero, i.size, i.bytes)) = some (some (.agg (Value.int .i64 0 :: Z0).toArray), 65, 72) by kernel_rfl)
  have q : ∀ (w : World) (a : Option Addr) (n c n' c' : Nat), (binOp .eql 71 (.slice a n c) (.slice none n' c')).run Try.prog w = .ok (.bool a.isNone) w := fun w a n c n' c' => Lib.run_eql_slice_nil w _ _ a n c n' c' Try.underlying71
  have hbn := buildN42
  have P := h.2
  have hnews : ∀ j u, l.flatten[j]? = some u → (w.alloc (.cells #[] 86)).cell? ((⟨g, 0, none⟩ : Addr).add j) = some u := by
    intro j u hj
    refine Lib.cell?_alloc_some _ ?_
    exact h.1.cells (g := g) rfl j u hj
  have h1c : ∀ u ∈ l.flatten, u.oneCell' = true := by
    intro u hu
    obtain ⟨b, hb, hub⟩ := List.mem_flatten.1 hu
    exact hone b hb u hub
  have hlen : l.flatten.length = n * 65 := by rw [P.len, hn]
  have HN := Lib.hid hnews
  have H1 := Lib.hid h1c
  have HL := Lib.hid hlen
  have HP := Lib.hid P
  have HNN := Lib.hid hn
  clear h hnews h1c hlen P hone hn
  generalize hF : l.flatten = F at *
  have HF := Lib.hid hF
  clear hF
  go_enter Try.func42, Try.ntmps42
  go_wp2_with (at_builtin; refine wpList_append_own _ rfl _ _ 71 rfl w.heap.size 86 i0 (.agg (Value.int .i64 0 :: Z0).toArray) 65 72 Try.underlying71 hi hz0 hz1 hz2 (by rfl) (by decide) _ _ _ rfl (World.ownsRow_made w #[] 0 (Nat.le_refl _) (Nat.zero_le _) rfl) ⟨g, 0, none⟩ n c F rfl HL.out HN.out H1.out (by unfold maxLen; omega) (by omega) (by simp) ?_; intro v' w1 hown hgrow hnil)
  have hB : Below w.heap.size w w1 := ((Below.refl _ w).alloc (Nat.le_refl _) _).grown hgrow (by simp) (fun k hk => by cases hk; exact Nat.le_refl _)
  have hne : v' ≠ .slice none 0 0 := fun e => by
    have := (hnil.1 e).1
    cases this
  rcases hown.2 with ⟨e, _⟩ | ⟨g', cap, cur, rfl, r⟩
  · exact absurd e hne
  · have ho : World.ownsRow w1 w.heap.size 86 65 (.slice (some ⟨g', 0, none⟩) n cap) n F := by simpa using hown
    have HO := Lib.hid ho
    clear hown ho r hnil hne hgrow
    simp only [Nat.zero_add]
    go_wp2
    go_ret
    exact ⟨g', cap, rfl, ⟨by rw [HNN.out, HF.out]; exact HO.out, HP.out⟩, hB⟩

theorem put1s_one {q : List (Int × List Value)} (h : ∀ e ∈ q, B64 e.2) : ∀ b ∈ q.map put1, ∀ v ∈ b, v.oneCell' = true := by
  intro b hb
  obtain ⟨e, he, rfl⟩ := List.mem_map.1 hb
  exact put1_one (h e he)

/-- What a clone of a queue leaves. -/
theorem clone_queue (v : Value) (q : List (Int × List Value)) (base : Nat) (w : World) (h : Own w base 86 65 v (q.map put1)) (hq : q.length ≤ 1000000) (hb : ∀ e ∈ q, B64 e.2) :
    Calls Try.prog 42 #[v] w fun e w' => ∃ v', e = .returned v' ∧ Own w' w.heap.size 86 65 v' (q.map put1) ∧ Below w.heap.size w w' := by
  rcases h.form with ⟨rfl, e⟩ | ⟨g, c, cur, rfl, r⟩
  · refine (clone42_nil 0 0 w).mono ?_
    rintro e' w' ⟨rfl, rfl⟩
    exact ⟨_, rfl, by rw [e]; exact Own.nil _ _ _ _, Below.refl _ _⟩
  · refine (clone42_at g (q.map put1).length c (q.map put1) base w rfl h (by simpa using hq) (put1s_one hb)).mono ?_
    rintro e w' ⟨g', c', rfl, h1, h2⟩
    exact ⟨_, rfl, h1, h2⟩

/-- What Copy leaves. -/
def Copied (w : World) (S : DSt) (e : Ending) (w' : World) : Prop := ∃ p gs, e = .returned (.pointer (some ⟨p, 0, none⟩)) ∧ Dk w' w.heap.size p gs S ∧ Below w.heap.size w w'

set_option maxHeartbeats 2000000 in
theorem copy_any (w : World) (base p gs : Nat) (S : DSt) (h : Dk w base p gs S) (hq : S.q.length ≤ 1000000) (hh : S.has.length ≤ 2048) :
    Calls Try.prog 17 #[.pointer (some ⟨p, 0, none⟩)] w (Copied w S) := by
  obtain ⟨cs, vq, hb, ho, hw⟩ := h.own
  have ok := h.ok
  have hp := hb.lt
  obtain ⟨Aq, cq, hvq⟩ := hw.val
  rw [List.length_map] at hvq
  subst hvq
  have hB0 : Below w.heap.size w (w.alloc (.cells #[.slice (some ⟨gs, 0, none⟩) S.has.length cs, .slice Aq S.q.length cq, .int .i64 S.armed, .int .i64 S.doomed, .bool S.dead, .int .i64 S.ops] 73)) := (Below.refl _ w).alloc (Nat.le_refl _) _
  have b0 : Blk (w.alloc (.cells #[.slice (some ⟨gs, 0, none⟩) S.has.length cs, .slice Aq S.q.length cq, .int .i64 S.armed, .int .i64 S.doomed, .bool S.dead, .int .i64 S.ops] 73)) w.heap.size 73 #[.slice (some ⟨gs, 0, none⟩) S.has.length cs, .slice Aq S.q.length cq, .int .i64 S.armed, .int .i64 S.doomed, .bool S.dead, .int .i64 S.ops] := Blk.new w 73 _
  have h0 : w.cell? ⟨p, 0, none⟩ = some (.slice (some ⟨gs, 0, none⟩) S.has.length cs) := hb.cell 0
  have h1 : w.cell? ⟨p, 1, none⟩ = some (.slice Aq S.q.length cq) := hb.cell 1
  have h2 : w.cell? ⟨p, 2, none⟩ = some (.int .i64 S.armed) := hb.cell 2
  have h3 : w.cell? ⟨p, 3, none⟩ = some (.int .i64 S.doomed) := hb.cell 3
  have h4 : w.cell? ⟨p, 4, none⟩ = some (.bool S.dead) := hb.cell 4
  have h5 : w.cell? ⟨p, 5, none⟩ = some (.int .i64 S.ops) := hb.cell 5
  have HC := Lib.hid (clone41_at gs S.has.length cs S.has base _ rfl (ho.below hB0) (by omega) (fun b hb' => (ok.has b hb').one))
  have HW := Lib.hid hw
  have HBL := Lib.hid hb
  have HB0 := Lib.hid hB0
  have B0 := Lib.hid b0
  have OK := Lib.hid ok
  clear h ho hw hb hB0 b0 ok
  go_enter Try.func17, Try.ntmps17
  go_wp2_with fail
  refine HC.out.mono ?_
  rintro e w1 ⟨g', c', rfl, ho1, hb1⟩
  have k1 := B0.out.below hb1 B0.out.lt
  have hB1 := HB0.out.trans (hb1.mono HB0.out.size)
  have n0 : w1.cell? ⟨w.heap.size, 0, none⟩ = some (.slice (some ⟨gs, 0, none⟩) S.has.length cs) := k1.cell 0
  have f0 := k1.frozen 0
  have g1 : w1.cell? ⟨p, 1, none⟩ = some (.slice Aq S.q.length cq) := (hB1.cell (p := ⟨p, 1, none⟩) hp).trans h1
  clear h0 h1 h2 h3 h4 h5 HC HB0 B0 hb1
  have hsz := hB1.size
  have k1n := k1.lt
  have k2 := k1.set_ 0 (.slice (some ⟨g', 0, none⟩) S.has.length c')
  have hB2 : Below w.heap.size w (w1.setCell ⟨w.heap.size, 0, none⟩ (.slice (some ⟨g', 0, none⟩) S.has.length c')) := hB1.setCell (Nat.le_refl _) _
  have ho2 : Own (w1.setCell ⟨w.heap.size, 0, none⟩ (.slice (some ⟨g', 0, none⟩) S.has.length c')) w.heap.size 39 64 (.slice (some ⟨g', 0, none⟩) S.has.length c') S.has := Own.keep (ho1.down (by simp)) fun g cur _ _ hg => Below.heap_setCell w1 _ _ g (hg.ne k1 (by decide))
  have hw2 : Own (w1.setCell ⟨w.heap.size, 0, none⟩ (.slice (some ⟨g', 0, none⟩) S.has.length c')) base 86 65 (.slice Aq S.q.length cq) (S.q.map put1) := Own.keep (HW.out.below hB1) fun g cur _ _ hg => Below.heap_setCell w1 _ _ g (hg.ne k1 (by decide))
  have HQ := Lib.hid (clone_queue _ S.q base _ hw2 hq fun e he => (OK.out.q e he).1)
  have HO2 := Lib.hid ho2
  have HB2 := Lib.hid hB2
  have K2 := Lib.hid k2
  clear ho1 k1 hB1 k2 hB2 ho2 hw2
  go_wp2_with fail
  refine HQ.out.mono ?_
  rintro e w3 ⟨v', rfl, hq3, hb3⟩
  obtain ⟨A3, c3, hv3⟩ := hq3.val
  subst hv3
  have k3 := K2.out.below hb3 K2.out.lt
  have hB3 := HB2.out.trans (hb3.mono HB2.out.size)
  have ho3 := HO2.out.below hb3
  have n1 : w3.cell? ⟨w.heap.size, 1, none⟩ = some (.slice Aq S.q.length cq) := k3.cell 1
  have f1 := k3.frozen 1
  have fin : Copied w S (.returned (.pointer (some ⟨w.heap.size, 0, none⟩))) (w3.setCell ⟨w.heap.size, 1, none⟩ (.slice A3 (S.q.map put1).length c3)) := by
    refine ⟨w.heap.size, g', rfl, ⟨⟨c', .slice A3 (S.q.map put1).length c3, k3.set_ 1 _, ho3.keep fun g cur _ _ hg => Below.heap_setCell w3 _ _ g (hg.ne k3 (by decide)), Own.keep (hq3.down HB2.out.size) fun g cur _ _ hg => Below.heap_setCell w3 _ _ g (hg.ne k3 (by decide))⟩, Nat.le_refl _, OK.out⟩, hB3.setCell (Nat.le_refl _) _⟩
  have FIN := Lib.hid fin
  clear fin HQ n0 f0 g1 HO2 HB2 K2 hq3 hb3 k3 ho3
  generalize (S.q.map put1).length = nq at *
  go_wp2
  go_ret
  exact FIN.out

end Go.Proofs.Ytdhompiapklnaaa
