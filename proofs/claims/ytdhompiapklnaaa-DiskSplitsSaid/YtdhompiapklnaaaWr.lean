/-
  Write.
-/
import Derived.Test.YtdhompiapklnaaaSy
import Derived.Test.YtdhompiapklnaaaBd
namespace Go.Proofs.Ytdhompiapklnaaa
open Go.RowKit
attribute [local go_sem ↓] Try.z39 Try.z86 Go.wp_at_zero Go.wp_at_succ

theorem info86 : (Try.prog.info? 86).map (fun i => (i.zero, i.size, i.bytes)) = some (some (.agg (Value.int .i64 0 :: Z0).toArray), 65, 72) := by kernel_rfl

set_option maxRecDepth 100000 in
set_option maxHeartbeats 4000000 in
theorem write1 (w : World) (base p gs b1 b2 b3 : Nat) (i : Int) (B : List Value) (S : DSt) (h : Dk w base p gs S) (hq : S.q.length < 1000000) (hB : B64 B) (hb1 : Blk w b1 24 #[.pointer (some ⟨p, 0, none⟩)]) (hb2 : Blk w b2 3 #[.int .i64 i]) (h3 : Blk w b3 39 B.toArray) (hi0' : 0 ≤ i) (hi1' : i < S.has.length) :
    Calls Try.prog 56 #[.pointer (some ⟨b1, 0, none⟩), .pointer (some ⟨b2, 0, none⟩), .pointer (some ⟨b3, 0, none⟩)] w fun e w' => (∃ v, e = .returned v) ∧ Dk w' base p gs (wrote S i B) ∧ Fr base p gs w w' := by
  have h1 : w.cell? ⟨b1, 0, none⟩ = some (.pointer (some ⟨p, 0, none⟩)) := hb1.cell 0
  have h2 : w.cell? ⟨b2, 0, none⟩ = some (.int .i64 i) := hb2.cell 0
  obtain ⟨i0, hi0, hz0, hz1, hz2⟩ := info_parts info86
  obtain ⟨cs, vq, hb, ho, hw⟩ := h.own
  obtain ⟨Aq, cq, hvq⟩ := hw.val
  rw [List.length_map] at hvq
  subst hvq
  have hc1 : w.cell? ⟨p, 1, none⟩ = some (.slice Aq S.q.length cq) := hb.cell 1
  have r3 : w.rangeAt b3 0 B := by
    intro j v hj
    rw [h3.cell, Nat.zero_add, List.getElem?_toArray]
    exact hj
  have hl64 := hB.1
  have hone := hB.one
  have i39 : (Try.prog.info? 39).map (·.size) = some B.length := by rw [hl64]; exact Try.i39
  have hu := Try.underlying39
  have hpl := hb.lt
  have X1 := World.block_lt_of_cell? w _ h1
  have X2 := World.block_lt_of_cell? w _ h2
  have OWN := Lib.hid (show World.ownsRow (w.alloc (.cells (put1 (i, B)).toArray 86)).drew base 86 65 (.slice Aq S.q.length cq) S.q.length (S.q.map put1).flatten by have := (hw.alloc (.cells (put1 (i, B)).toArray 86)).1; rw [List.length_map] at this; exact this)
  have LEN := Lib.hid (show (put1 (i, B)).length = 1 * 65 from put1_len (e := (i, B)) hB)
  have NEWS := Lib.hid (World.news_of_block (w := (w.alloc (.cells (put1 (i, B)).toArray 86)).drew) (cs := (put1 (i, B)).toArray) (t := 86) (fr := (0, 0)) (heap_alloc_new w _))
  have ONE := Lib.hid (put1_one (e := (i, B)) hB)
  have SZ := Lib.hid (show base ≤ (w.alloc (.cells (put1 (i, B)).toArray 86)).drew.heap.size by have := h.base; simp; omega)
  have hHb : (w.alloc (.cells (put1 (i, B)).toArray 86)).drew.cell? ⟨b1, 0, none⟩ = some (.pointer (some ⟨p, 0, none⟩)) ∧ (w.alloc (.cells (put1 (i, B)).toArray 86)).drew.cell? ⟨b2, 0, none⟩ = some (.int .i64 i) ∧ (w.alloc (.cells (put1 (i, B)).toArray 86)).drew.rangeAt b3 0 B := ⟨Lib.cell?_alloc_some _ h1, Lib.cell?_alloc_some _ h2, World.rangeAt_alloc r3 _⟩
  have far : ∀ b, b < w.heap.size → (∀ cur, ¬ Blk w b 86 cur) → ∀ w1, (w.alloc (.cells (put1 (i, B)).toArray 86)).drew.grownBy w1 (Value.ownBlock (.slice Aq S.q.length cq)) → w1.heap[b]? = w.heap[b]? := by
    intro b hb' hn w1 hg
    refine (hg.block b (show b < (w.alloc _).heap.size by simp; omega) ?_).trans (Below.heap_alloc w _ b hb')
    intro e
    rcases hw.form with ⟨hv, _⟩ | ⟨g', c', cur, hv, _, hbl, _⟩
    · rw [hv] at e; cases e
    · rw [hv] at e
      injection e with e
      subst e
      exact hn _ hbl
  have KEEP : Hid (∀ w1, (w.alloc (.cells (put1 (i, B)).toArray 86)).drew.grownBy w1 (Value.ownBlock (.slice Aq S.q.length cq)) → w1.cell? ⟨b1, 0, none⟩ = some (.pointer (some ⟨p, 0, none⟩)) ∧ w1.cell? ⟨b2, 0, none⟩ = some (.int .i64 i) ∧ w1.rangeAt b3 0 B) := fun w1 hg =>
    ⟨(World.cell?_of_block (a := ⟨b1, 0, none⟩) (far b1 X1 (fun cur hc => hb1.ne hc (by decide) rfl) w1 hg)).trans h1, (World.cell?_of_block (a := ⟨b2, 0, none⟩) (far b2 X2 (fun cur hc => hb2.ne hc (by decide) rfl) w1 hg)).trans h2, fun j v hj => (World.cell?_of_block (a := ⟨b3, 0 + j, none⟩) (far b3 h3.lt (fun cur hc => h3.ne hc (by decide) rfl) w1 hg)).trans (r3 j v hj)⟩
  have PBLK : Hid (∀ w1, (w.alloc (.cells (put1 (i, B)).toArray 86)).drew.grownBy w1 (Value.ownBlock (.slice Aq S.q.length cq)) → Blk w1 p 73 (dcells gs S.has.length cs (.slice Aq S.q.length cq) S)) := fun w1 hg => (far p hpl (fun cur hc => hb.ne hc (by decide) rfl) w1 hg).trans hb
  have SETP : Hid (∀ (w1 : World) (u : Value), (w1.cell? ⟨b1, 0, none⟩ = some (.pointer (some ⟨p, 0, none⟩)) ∧ w1.cell? ⟨b2, 0, none⟩ = some (.int .i64 i) ∧ w1.rangeAt b3 0 B) → ((w1.setCell ⟨p, 1, none⟩ u).cell? ⟨b1, 0, none⟩ = some (.pointer (some ⟨p, 0, none⟩)) ∧ (w1.setCell ⟨p, 1, none⟩ u).cell? ⟨b2, 0, none⟩ = some (.int .i64 i) ∧ (w1.setCell ⟨p, 1, none⟩ u).rangeAt b3 0 B)) := fun w1 u hh =>
    ⟨(World.cell?_setCell_other _ _ _ _ (fun e => by injection e with e; exact hb1.ne hb (by decide) e.symm)).trans hh.1, (World.cell?_setCell_other _ _ _ _ (fun e => by injection e with e; exact hb2.ne hb (by decide) e.symm)).trans hh.2.1, fun j v hj => (World.cell?_setCell_other _ _ _ _ (fun e => by injection e with e; exact h3.ne hb (by decide) e.symm)).trans (hh.2.2 j v hj)⟩
  have FIN : Hid (∀ g cap w1, World.ownsRow w1 base 86 65 (.slice (some ⟨g, 0, none⟩) (S.q.length + 1) cap) (S.q.length + 1) ((S.q.map put1).flatten ++ put1 (i, B)) → (w.alloc (.cells (put1 (i, B)).toArray 86)).drew.grownBy w1 (Value.ownBlock (.slice Aq S.q.length cq)) → (Value.ownBlock (.slice Aq S.q.length cq) = some g ∨ g = w.heap.size + 1) → g < w1.heap.size →
      (∃ v, Ending.returned (.tuple #[]) = .returned v) ∧ Dk (w1.setCell ⟨p, 1, none⟩ (.slice (some ⟨g, 0, none⟩) (S.q.length + 1) cap)) base p gs (wrote S i B) ∧ Fr base p gs w (w1.setCell ⟨p, 1, none⟩ (.slice (some ⟨g, 0, none⟩) (S.q.length + 1) cap))) := fun g cap w1 hown hg _ _ => by
    have hp1 := PBLK.out w1 hg
    have hgs := ho.gs
    obtain ⟨_, cur, hgl⟩ := hgs
    refine ⟨⟨_, rfl⟩, ⟨⟨cs, .slice (some ⟨g, 0, none⟩) (S.q.length + 1) cap, ?_, ?_, ?_⟩, h.base, wrote_ok h.ok hB hi0' hi1'⟩, ?_⟩
    · exact hp1.set_ 1 _
    · have h39 : w1.heap[gs]? = w.heap[gs]? := far gs hgl.lt (fun cur' hc => hgl.ne hc (by decide) rfl) w1 hg
      have hgl1 : Blk w1 gs 39 cur := h39.trans hgl
      refine ho.keep fun g' cur' _ hv _ => ?_
      simp only [Value.ownBlock, Option.some.injEq] at hv
      subst hv
      exact (Below.heap_setCell w1 _ _ gs (hgl1.ne hp1 (by decide))).trans h39
    · have hfl : ((wrote S i B).q.map put1).flatten = (S.q.map put1).flatten ++ put1 (i, B) := by simp [wrote]
      have hln : ((wrote S i B).q.map put1).length = S.q.length + 1 := by simp [wrote]
      have hown' : Own w1 base 86 65 (.slice (some ⟨g, 0, none⟩) (S.q.length + 1) cap) ((wrote S i B).q.map put1) := ⟨by rw [hfl, hln]; exact hown, (wrote_ok h.ok hB hi0' hi1').qparts⟩
      exact hown'.keep fun g' cur' _ _ hg' => Below.heap_setCell w1 _ _ g' (hg'.ne hp1 (by decide))
    · refine Fr.set ?_ h.base _ _
      refine ⟨hg.os, hg.tape, hg.output, Nat.le_trans (by simp) hg.size, fun k hk hc => ?_⟩
      refine (hg.block k (show k < (w.alloc _).heap.size by simp; omega) ?_).trans (Below.heap_alloc w _ k hk)
      intro e
      rcases hw.form with ⟨hv, _⟩ | ⟨g', c', cur', hv, hgb, hbl, _⟩
      · rw [hv] at e; cases e
      · rw [hv] at e
        injection e with e
        subst e
        rcases hc with hc | ⟨_, _, hc⟩
        · exact absurd hgb (by show ¬ base ≤ k; omega)
        · exact hc _ _ hbl
  clear h ho hw hb far
  go_enter Try.func56, Try.ntmps56
  go_wp2_with fail
  have hS0 : w.drew.cell? ⟨b1, 0, none⟩ = some (.pointer (some ⟨p, 0, none⟩)) ∧ w.drew.cell? ⟨b2, 0, none⟩ = some (.int .i64 i) ∧ w.drew.rangeAt b3 0 B := ⟨h1, h2, r3⟩
  refine wp_region_noPanic ?_
  refine wp_region_held_drew (S := fun w' => w'.cell? ⟨b1, 0, none⟩ = some (.pointer (some ⟨p, 0, none⟩)) ∧ w'.cell? ⟨b2, 0, none⟩ = some (.int .i64 i) ∧ w'.rangeAt b3 0 B) (by kernel_rfl) hS0 (fun hHeld => ?_)
  refine wpAnyH_take (i := 0) (v := .pointer (some ⟨p, 0, none⟩)) rfl (by kernel_rfl) (by kernel_rfl) (by kernel_rfl) (fun _ _ _ h => h) (Or.inl ⟨by rfl, fun w hSw => by obtain ⟨s1, s2, s3⟩ := hSw; go_simp⟩) hHeld ?_
  refine wpAnyH_take (i := 1) (v := .pointer (some ⟨p, 0, none⟩)) rfl (by kernel_rfl) (by kernel_rfl) (by kernel_rfl) (fun _ _ _ h => h) (Or.inl ⟨by rfl, fun w hSw => by obtain ⟨s1, s2, s3⟩ := hSw; go_simp⟩) hHeld ?_
  refine wpAnyH_take (i := 2) (v := .pointer (some ⟨p, 0, none⟩)) rfl (by kernel_rfl) (by kernel_rfl) (by kernel_rfl) (fun _ _ _ h => h) (Or.inl ⟨by rfl, fun w hSw => by obtain ⟨s1, s2, s3⟩ := hSw; go_simp⟩) hHeld ?_
  refine wpAnyH_take (i := 3) (v := .pointer (some ⟨p, 1, none⟩)) rfl (by kernel_rfl) (by kernel_rfl) (by kernel_rfl) (fun _ _ _ h => h) (Or.inl ⟨by rfl, fun w hSw => by obtain ⟨s1, s2, s3⟩ := hSw; go_simp⟩) hHeld ?_
  refine wpAnyH_take (i := 5) (v := .int .i64 i) rfl (by kernel_rfl) (by kernel_rfl) (by kernel_rfl) (fun _ _ _ h => h) (Or.inl ⟨by rfl, fun w hSw => by obtain ⟨s1, s2, s3⟩ := hSw; go_simp⟩) hHeld ?_
  refine wpAnyH_take (i := 6) (v := .agg B.toArray) rfl (by kernel_rfl) (by kernel_rfl) (by kernel_rfl) (fun _ _ _ h => h) (yieldsIf_load_mid (by rfl) _ _ rfl _ _ rfl _ _ (fun w h => h.2.2) Try.underlying39 rfl i39) hHeld ?_
  refine wpAnyH_take (i := 7) (v := .agg (put1 (i, B)).toArray) rfl (by kernel_rfl) (by kernel_rfl) (by kernel_rfl) (fun _ _ _ h => h) (Or.inl ⟨by rfl, fun w _ => exec_build86 _ _ i B (by rfl) (by rfl) (by rfl) hl64 w⟩) hHeld ?_
  refine wpAnyH_ready (rs := [4, 8]) (by kernel_rfl) (by simp) ?_
  refine AllReadyH.cons rfl (fun K hK => ?_) (AllReadyH.cons rfl (fun K hK => ?_) AllReadyH.nil)
  · go_simp
    refine hK.out _ _ hHeld (fun hHeld => ?_)
    clear hK K
    refine wpAnyH_ready (rs := [8]) (by kernel_rfl) (by simp) ?_
    refine AllReadyH.cons rfl (fun K hK => ?_) AllReadyH.nil
    rw [if_pos (by rfl)]
    refine wp_buildS86 _ (put1 (i, B)) (by rfl) (by rfl) LEN.out ?_
    refine hK.out _ _ hHb (fun hHeld => ?_)
    clear hK K
    refine wpAnyH_ready (rs := [9]) (by kernel_rfl) (by simp) ?_
    refine AllReadyH.cons rfl (fun K hK => ?_) AllReadyH.nil
    refine step_append_lies _ (by rfl) _ _ 71 (by rfl) base 86 i0 _ 65 72 Try.underlying71 hi0 hz0 hz1 hz2 (by rfl) (by omega) (.slice Aq S.q.length cq) S.q.length ((S.q.map put1).flatten) (by rfl) OWN.out ⟨w.heap.size, 0, none⟩ 1 1 (put1 (i, B)) (by rfl) LEN.out NEWS.out ONE.out (by omega) (by unfold maxLen; omega) (by omega) SZ.out (w.heap.size + 1) (by simp) ?_
    intro g cap w1 hown1 hgrow hat hlt
    have hHc : w1.cell? ⟨b1, 0, none⟩ = some (.pointer (some ⟨p, 0, none⟩)) ∧ w1.cell? ⟨b2, 0, none⟩ = some (.int .i64 i) ∧ w1.rangeAt b3 0 B := KEEP.out _ hgrow
    have hP1 := PBLK.out _ hgrow
    have HO1 := Lib.hid hown1
    have HG := Lib.hid hgrow
    have HAT := Lib.hid hat
    clear hown1 hgrow hat hHeld
    refine hK.out _ _ hHc (fun hHeld => ?_)
    clear hK K
    refine wpAnyH_take (i := 10) (v := .pointer (some ⟨p, 0, none⟩)) rfl (by kernel_rfl) (by kernel_rfl) (by kernel_rfl) (fun _ _ _ h => h) (Or.inl ⟨by rfl, fun w hSw => by obtain ⟨s1, s2, s3⟩ := hSw; go_simp⟩) hHeld ?_
    refine wpAnyH_take (i := 11) (v := .pointer (some ⟨p, 1, none⟩)) rfl (by kernel_rfl) (by kernel_rfl) (by kernel_rfl) (fun _ _ _ h => h) (Or.inl ⟨by rfl, fun w hSw => by obtain ⟨s1, s2, s3⟩ := hSw; go_simp⟩) hHeld ?_
    refine wpAnyH_ready (rs := [12]) (by kernel_rfl) (by simp) ?_
    refine AllReadyH.cons rfl (fun K hK => ?_) AllReadyH.nil
    have pc : w1.cell? ⟨p, 1, none⟩ = some (.slice Aq S.q.length cq) := hP1.cell 1
    have pf := hP1.frozen 1
    go_simp
    refine hK.out _ _ (SETP.out _ _ hHc) (fun hHeld => ?_)
    clear hK K
    refine wpAnyH_done (by kernel_rfl) ?_ _
    refine NoPanic.normal ?_
    go_wp2
    go_end0
    exact FIN.out g cap w1 HO1.out HG.out HAT.out hlt
  · rw [if_pos (by rfl)]
    refine wp_buildS86 _ (put1 (i, B)) (by rfl) (by rfl) LEN.out ?_
    refine hK.out _ _ hHb (fun hHeld => ?_)
    clear hK K
    refine wpAnyH_ready (rs := [4]) (by kernel_rfl) (by simp) ?_
    refine AllReadyH.cons rfl (fun K hK => ?_) AllReadyH.nil
    go_simp
    refine hK.out _ _ hHeld (fun hHeld => ?_)
    clear hK K
    refine wpAnyH_ready (rs := [9]) (by kernel_rfl) (by simp) ?_
    refine AllReadyH.cons rfl (fun K hK => ?_) AllReadyH.nil
    refine step_append_lies _ (by rfl) _ _ 71 (by rfl) base 86 i0 _ 65 72 Try.underlying71 hi0 hz0 hz1 hz2 (by rfl) (by omega) (.slice Aq S.q.length cq) S.q.length ((S.q.map put1).flatten) (by rfl) OWN.out ⟨w.heap.size, 0, none⟩ 1 1 (put1 (i, B)) (by rfl) LEN.out NEWS.out ONE.out (by omega) (by unfold maxLen; omega) (by omega) SZ.out (w.heap.size + 1) (by simp) ?_
    intro g cap w1 hown1 hgrow hat hlt
    have hHc : w1.cell? ⟨b1, 0, none⟩ = some (.pointer (some ⟨p, 0, none⟩)) ∧ w1.cell? ⟨b2, 0, none⟩ = some (.int .i64 i) ∧ w1.rangeAt b3 0 B := KEEP.out _ hgrow
    have hP1 := PBLK.out _ hgrow
    have HO1 := Lib.hid hown1
    have HG := Lib.hid hgrow
    have HAT := Lib.hid hat
    clear hown1 hgrow hat hHeld
    refine hK.out _ _ hHc (fun hHeld => ?_)
    clear hK K
    refine wpAnyH_take (i := 10) (v := .pointer (some ⟨p, 0, none⟩)) rfl (by kernel_rfl) (by kernel_rfl) (by kernel_rfl) (fun _ _ _ h => h) (Or.inl ⟨by rfl, fun w hSw => by obtain ⟨s1, s2, s3⟩ := hSw; go_simp⟩) hHeld ?_
    refine wpAnyH_take (i := 11) (v := .pointer (some ⟨p, 1, none⟩)) rfl (by kernel_rfl) (by kernel_rfl) (by kernel_rfl) (fun _ _ _ h => h) (Or.inl ⟨by rfl, fun w hSw => by obtain ⟨s1, s2, s3⟩ := hSw; go_simp⟩) hHeld ?_
    refine wpAnyH_ready (rs := [12]) (by kernel_rfl) (by simp) ?_
    refine AllReadyH.cons rfl (fun K hK => ?_) AllReadyH.nil
    have pc : w1.cell? ⟨p, 1, none⟩ = some (.slice Aq S.q.length cq) := hP1.cell 1
    have pf := hP1.frozen 1
    go_simp
    refine hK.out _ _ (SETP.out _ _ hHc) (fun hHeld => ?_)
    clear hK K
    refine wpAnyH_done (by kernel_rfl) ?_ _
    refine NoPanic.normal ?_
    go_wp2
    go_end0
    exact FIN.out g cap w1 HO1.out HG.out HAT.out hlt

end Go.Proofs.Ytdhompiapklnaaa
