/-
  As what a sector reads.
-/
import Derived.Test.YtdhompiapklnaaaIt
namespace Go.Proofs.Ytdhompiapklnaaa
open Go.RowKit Go.Shelf
attribute [local go_sem] Oper.semAt_some
attribute [local go_sem ↓] Try.z39 Try.z86 Go.wp_at_zero Go.wp_at_succ

theorem Blk.kept {w w' : World} {g : Nat} {t : TypeId} {cs : Array Value} {row : Option Nat} (h : Blk w g t cs) (hg : w.grownBy w' row) (hr : ∀ r, row = some r → ∃ o : Obj, w.heap[r]? = some o ∧ o.isCells = false) : Blk w' g t cs :=
  (hg.block g h.lt (fun e => by
    obtain ⟨o, ho, hc⟩ := hr g e.symm
    rw [show w.heap[g]? = _ from h] at ho
    cases ho
    cases hc)).trans h
theorem KeepsOthers.setCells {w : World} {g : Nat} {t : TypeId} {cs : Array Value} (h : Blk w g t cs) (o : Nat) (vs : List Value) : KeepsOthers w (w.setCells g o vs) :=
  ⟨by rw [(setCells_rest vs w g o).2.2.2]; exact Nat.le_refl _, fun k ob hk ho => by
    by_cases e : k = g
    · subst e
      rw [show w.heap[k]? = _ from h] at hk
      cases hk
      cases ho
    · exact (heap_setCells_other vs w g o k e).trans hk⟩

theorem readN_hit {S : DSt} {i : Int} : ∀ (n k : Nat), k < n → (S.q.getD k (0, [])).1 = i → (∀ j, k < j → j < n → (S.q.getD j (0, [])).1 ≠ i) → readN S i n = (S.q.getD k (0, [])).2
  | 0, _, h, _, _ => absurd h (by omega)
  | n + 1, k, h, he, hn => by
    rw [readN]
    by_cases e : k = n
    · subst e
      rw [if_pos he]
    · rw [if_neg (hn n (by omega) (by omega))]
      exact readN_hit n k (by omega) he fun j h1 h2 => hn j h1 (by omega)
theorem readN_miss {S : DSt} {i : Int} : ∀ (n : Nat), (∀ j, j < n → (S.q.getD j (0, [])).1 ≠ i) → readN S i n = S.has.getD i.toNat []
  | 0, _ => rfl
  | n + 1, h => by
    rw [readN, if_neg (h n (by omega))]
    exact readN_miss n fun j hj => h j (by omega)

theorem bAt {q : List (Int × List Value)} (h : ∀ e ∈ q, B64 e.2) {j : Nat} (hj : j < q.length) : B64 (q.getD j (0, [])).2 := by
  have e' : q.getD j (0, []) = q[j] := by simp [List.getD, hj]
  rw [e']
  exact h _ (List.getElem_mem hj)

set_option maxRecDepth 100000 in
set_option maxHeartbeats 4000000 in
theorem reads_any {w : World} {base p gs : Nat} {S : DSt} (k : Nat) (h : Dk w base p gs S) (hq : S.q.length ≤ 1000000) (h1 : k < S.has.length) :
    Calls Try.prog 55 #[.pointer (some ⟨p, 0, none⟩), .int .i64 (k : Int)] w fun e w' => e = .returned (.agg (readAs S k).toArray) ∧ Below w.heap.size w w' := by
  obtain ⟨cs, vq, hb, ho, hw⟩ := h.own
  obtain ⟨Aq, cq, hvq⟩ := hw.val
  rw [List.length_map] at hvq
  subst hvq
  have hp := h.lt
  have hc1 : w.cell? ⟨p, 1, none⟩ = some (.slice Aq S.q.length cq) := hb.cell 1
  have HB : Hid (∀ e ∈ S.q, B64 e.2) := fun e he => (h.ok.q e he).1
  have HO := Lib.hid ho
  have HW := Lib.hid hw
  have HBl := Lib.hid hb
  have HH := Lib.hid h
  clear h hb ho hw
  refine (callsIn_wide (n := 6)).1 (callsIn_of_wp_marks Try.func55 rfl trivial (wpIn_wide.2 ?_) rfl)
  simp only [Try.ntmps55, List.size_toArray, List.length_cons, List.length_nil, Nat.reduceAdd, Nat.reduceSub, Array.replicate_succ, Array.replicate_zero, List.push_toArray, List.append_toArray, List.nil_append, List.cons_append]
  go_wp2_with (go_at_call 66; refine (fromEnd_any _ _ _ _).mono ?_; rintro e w' ⟨rfl, rfl⟩)
  have b0 : Blk (((w.alloc (.cells #[.int .i64 (k : Int)] 3)).alloc (.cells Z0.toArray 39)).alloc (.cells #[.slice Aq S.q.length cq] 71)) w.heap.size 3 #[.int .i64 (k : Int)] := ((Blk.new w 3 _).alloc _).alloc _
  have b1 : Blk (((w.alloc (.cells #[.int .i64 (k : Int)] 3)).alloc (.cells Z0.toArray 39)).alloc (.cells #[.slice Aq S.q.length cq] 71)) (w.heap.size + 1) 39 Z0.toArray := (Blk.new' (w.alloc _) 39 _ (by simp)).alloc _
  have b2 : Blk (((w.alloc (.cells #[.int .i64 (k : Int)] 3)).alloc (.cells Z0.toArray 39)).alloc (.cells #[.slice Aq S.q.length cq] 71)) (w.heap.size + 1 + 1) 71 #[.slice Aq S.q.length cq] := Blk.new' ((w.alloc _).alloc _) 71 _ (by simp)
  have hB0 : Below w.heap.size w (((w.alloc (.cells #[.int .i64 (k : Int)] 3)).alloc (.cells Z0.toArray 39)).alloc (.cells #[.slice Aq S.q.length cq] 71)) := (((Below.refl _ w).alloc (Nat.le_refl _) _).alloc (by simp) _).alloc (by simp; omega) _
  have hsz : (((w.alloc (.cells #[.int .i64 (k : Int)] 3)).alloc (.cells Z0.toArray 39)).alloc (.cells #[.slice Aq S.q.length cq] 71)).heap.size = w.heap.size + 3 := by simp
  generalize ((w.alloc (.cells #[.int .i64 (k : Int)] 3)).alloc (.cells Z0.toArray 39)).alloc (.cells #[.slice Aq S.q.length cq] 71) = W0 at *
  have HSZ := Lib.hid hsz
  have hQ : Qs (w.heap.size + 3) W0 Aq S.q := fun hq' => by
    obtain ⟨g, hA, hr, _⟩ := qAt HW.out HB.out (j := 0) hq' hB0
    refine ⟨g, hA, ?_, fun j hj => ?_⟩
    · rcases HW.out.form with ⟨hv, _⟩ | ⟨g', c', cur, hv, _, hbl, _⟩
      · subst hA; cases hv
      · subst hA
        injection hv with hv
        injection hv with hv
        injection hv with hv
        have := hbl.lt
        omega
    · obtain ⟨g', hA', hr', _⟩ := qAt HW.out HB.out hj hB0
      rw [hA] at hA'
      injection hA' with hA'
      injection hA' with hA'
      subst hA'
      exact hr'
  have HQ := Lib.hid hQ
  clear hsz hQ
  refine wpIn_wide.1 (wpIn_rangeFunc_ownH (n := 6) rfl (by omega) (gf := 70) (lb := #[.pointer (some ⟨w.heap.size + 1 + 1, 0, none⟩)]) rfl trivial (enters_of Try.func70 (by kernel_rfl) rfl)
    (iter_stops (w.heap.size + 1 + 1) (w.heap.size + 3) Aq cq S.q hq HB.out (by omega) W0 (by rw [HSZ.out]; exact Nat.le_refl _) (b2.cell 0) HQ.out) belowK_t (belowK_b (by rw [HSZ.out]; exact Nat.le_refl _)) (Below.refl _ _) (fun _ => rfl)
    (fun pre W => ((∀ x ∈ pre, (S.q.getD x.1 (0, [])).1 ≠ (k : Int)) ∧ Blk W w.heap.size 3 #[.int .i64 (k : Int)] ∧ Blk W (w.heap.size + 1) 39 Z0.toArray ∧ w.heap.size + 3 ≤ W.heap.size) ∧ Below w.heap.size w W)
    (fun c pre W => (c = .ret ∧ ∃ ini x, pre = ini ++ [x] ∧ (∀ y ∈ ini, (S.q.getD y.1 (0, [])).1 ≠ (k : Int)) ∧ (S.q.getD x.1 (0, [])).1 = (k : Int) ∧ Blk W (w.heap.size + 1) 39 (S.q.getD x.1 (0, [])).2.toArray) ∧ Below w.heap.size w W)
    (OwnFrom.and (Go.Own.from (fun s A B row hs hg hr => ⟨hs.1, hs.2.1.kept hg hr, hs.2.2.1.kept hg hr, Nat.le_trans hs.2.2.2 hg.size⟩) _) (ownFrom_below (Nat.le_refl _) (by rw [HSZ.out]; omega)))
    (fun c => OwnFrom.and (Go.Own.from (fun s A B row hs hg hr => by obtain ⟨hc, ini, x, e1, e2, e3, e4⟩ := hs; exact ⟨hc, ini, x, e1, e2, e3, e4.kept hg hr⟩) _) (ownFrom_below (Nat.le_refl _) (by rw [HSZ.out]; omega)))
    ⟨⟨by simp, b0, b1, Nat.le_of_eq HSZ.out.symm⟩, hB0⟩
    (fun x a' W => ∃ Bx, w.heap.size + 3 ≤ Bx ∧ Blk W Bx 86 (put1 (S.q.getD x.1 (0, []))).toArray ∧ a' = { tmps := #[.pointer (some ⟨p, 0, none⟩), .int .i64 (k : Int), undef, .pointer (some ⟨w.heap.size, 0, none⟩), .pointer (some ⟨w.heap.size + 1, 0, none⟩), undef, .pointer (some ⟨Bx, 0, none⟩), .pointer (some ⟨p, 0, none⟩), .pointer (some ⟨p, 0, none⟩), .pointer (some ⟨p, 1, none⟩), .slice Aq S.q.length cq, .func (.func 70) #[] #[.pointer (some ⟨w.heap.size + 1 + 1, 0, none⟩)], .int .i64 (x.1 : Int), .agg (put1 (S.q.getD x.1 (0, []))).toArray, undef, undef, undef, undef, undef, undef, undef, undef, undef, undef, undef, undef, undef], defers := [] })
    (fun x a' => Go.Own.from (fun s A B row hs hg hr => by obtain ⟨Bx, e1, e2, e3⟩ := hs; exact ⟨Bx, e1, e2.kept hg hr, e3⟩) _)
    ?assign ?body ?done ?stop)
  case assign =>
    rintro l pre x W K ⟨⟨hi1, hi2, hi3, hi4⟩, hB⟩ hK
    have hbe := bAt HB.out x.2
    have hone := Lib.hid (put1_one hbe)
    have hi86 := Lib.hid (show (Try.prog.info? 86).map (·.size) = some (put1 (S.q.getD x.1 (0, []))).length by rw [put1_len hbe]; exact Try.i86)
    have hz := Lib.hid (show (Value.int .i64 0 :: Z0).toArray.size = (put1 (S.q.getD x.1 (0, []))).length by rw [put1_len hbe]; rfl)
    have H1 := Lib.hid hi1
    have HK := Lib.hid hK
    clear hbe hi1 hK
    simp only [encQ]
    generalize put1 (S.q.getD x.1 (0, [])) = P at *
    gi_wp2_with ((with_reducible refine at_storeIn (t := 86) ?_); refine wpListIn_store_new W rfl 86 _ _ rfl _ _ _ P rfl rfl rfl hz.out hi86.out hone.out ?_)
    exact HK.out _ _ ((KeepsOthers.alloc _ _).from _) ((Below.refl _ W).alloc hi4 _) ⟨⟨H1.out, hi2.alloc _, hi3.alloc _, by simp; omega⟩, hB.alloc hB.size _⟩ ⟨W.heap.size, hi4, Blk.new W 86 _, rfl⟩
  case body =>
    rintro l pre x a' W hl hr ⟨⟨hi1, hi2, hi3, hi4⟩, hB⟩ ⟨Bx, hBx, hX, rfl⟩ hlen
    have hbe := bAt HB.out x.2
    have H1 := Lib.hid hi1
    have c0 : W.cell? ⟨w.heap.size, 0, none⟩ = some (.int .i64 (k : Int)) := hi2.cell 0
    have x0 : W.cell? ⟨Bx, 0, none⟩ = some (.int .i64 (S.q.getD x.1 (0, [])).1) := hX.cell 0
    have xr : W.rangeAt Bx 1 (S.q.getD x.1 (0, [])).2 := by
      intro j v hj
      rw [hX.cell (1 + j), List.getElem?_toArray, Nat.add_comm, put1, List.getElem?_cons_succ]
      exact hj
    have xt : W.there (w.heap.size + 1) 0 (S.q.getD x.1 (0, [])).2.length := by
      intro j hj
      rw [hbe.1] at hj
      refine ⟨?_, hi3.frozen _⟩
      rw [hi3.cell, Nat.zero_add, List.getElem?_toArray, Z0, List.getElem?_replicate, if_pos hj]
      rfl
    have i39 := Lib.hid (show (Try.prog.info? 39).map (·.size) = some (S.q.getD x.1 (0, [])).2.length by rw [hbe.1]; exact Try.i39)
    have hone := Lib.hid hbe.one
    have XR := Lib.hid xr
    have XT := Lib.hid xt
    have hZ := Lib.hid (show Z0.toArray.size = (S.q.getD x.1 (0, [])).2.length by rw [hbe.1]; rfl)
    clear hi1 hr hlen xr xt hbe
    generalize hE : S.q.getD x.1 (0, []) = E at *
    have HE := Lib.hid hE
    clear hE
    by_cases he : E.1 = (k : Int)
    · have he' : (E.1 == (k : Int)) = true := by simpa using he
      have HEK := Lib.hid he
      clear he
      gi_wp2_with (first
        | ((with_reducible refine at_loadIn (t := 39) ?_); refine wpListIn_load_mid rfl 39 _ rfl Bx 1 rfl E.2 _ XR.out Try.underlying39 rfl i39.out ?_)
        | ((with_reducible refine at_storeIn (t := 39) ?_); refine wpListIn_store_mid rfl 39 _ _ rfl (w.heap.size + 1) 0 E.2 rfl rfl XT.out i39.out hone.out ?_))
      refine ⟨(KeepsOthers.setCells hi3 0 E.2).from _, ⟨rfl, pre, x, rfl, H1.out, by rw [HE.out]; exact HEK.out, ?_⟩, Below.setCells hB (by omega) _ _⟩
      rw [HE.out]
      have := hi3.setCells 0 E.2
      rwa [lay_whole _ _ hZ.out] at this
    · have he' : (E.1 == (k : Int)) = false := by simpa using he
      have HEK := Lib.hid he
      clear he
      gi_wp2
      refine ⟨KeepsFrom.refl _ _, Below.refl _ _, ⟨fun y hy => ?_, hi2, hi3, hi4⟩, hB⟩
      rcases List.mem_append.1 hy with hy | hy
      · exact H1.out y hy
      · rw [List.mem_singleton.1 hy, HE.out]; exact HEK.out
  case done =>
    rintro D ys W hD hys ⟨⟨hi1, hi2, hi3, hi4⟩, hB⟩ hK
    have hk' : (k : Int) < S.has.length := by omega
    have hk0 : (0 : Int) ≤ (k : Int) := by omega
    have hread : readAs S k = S.has.getD k [] := readN_miss _ fun j hj => hi1 ⟨j, hj⟩ (hys ⟨j, hj⟩)
    have HR := Lib.hid hread
    have p0 : W.cell? ⟨p, 0, none⟩ = some (.slice (some ⟨gs, 0, none⟩) S.has.length cs) := (hB.cell (p := ⟨p, 0, none⟩) hp).trans (HBl.out.cell 0)
    have c0 : W.cell? ⟨w.heap.size, 0, none⟩ = some (.int .i64 (k : Int)) := hi2.cell 0
    have gr : W.rangeAt gs (k * 64) (S.has.getD k []) := (HO.out.below hB).range rfl h1
    have hbk : B64 (S.has.getD k []) := by
      have e : S.has.getD k [] = S.has[k] := by simp [List.getD, h1]
      rw [e]
      exact HH.out.ok.has _ (List.getElem_mem h1)
    generalize S.has.getD k [] = B at *
    have hl64 := hbk.1
    have hone := hbk.one
    have i39 : (Try.prog.info? 39).map (·.size) = some B.length := by rw [hl64]; exact Try.i39
    have hu := Try.underlying39
    have ht : W.there (w.heap.size + 1) 0 64 := by
      intro j hj
      refine ⟨?_, hi3.frozen _⟩
      rw [hi3.cell, Nat.zero_add, List.getElem?_toArray, Z0, List.getElem?_replicate, if_pos hj]
      rfl
    have hgs : gs < w.heap.size := by
      rcases HO.out.form with ⟨hv, _⟩ | ⟨g', c', cur, hv, _, hbl, _⟩
      · cases hv
      · injection hv with hv
        injection hv with hv
        injection hv with hv
        have := hbl.lt
        omega
    have K1 : (W.drew.setCells (w.heap.size + 1) 0 B).cell? ⟨p, 0, none⟩ = some (.slice (some ⟨gs, 0, none⟩) S.has.length cs) ∧ (W.drew.setCells (w.heap.size + 1) 0 B).cell? ⟨w.heap.size, 0, none⟩ = some (.int .i64 (k : Int)) ∧ (W.drew.setCells (w.heap.size + 1) 0 B).rangeAt gs (k * 64) B ∧ (W.drew.setCells (w.heap.size + 1) 0 B).there (w.heap.size + 1) 0 64 :=
      ⟨by rw [World.cell?_setCells_out _ _ _ _ _ (fun e _ => by dsimp only at e; omega)]; exact p0, by rw [World.cell?_setCells_out _ _ _ _ _ (fun e _ => by dsimp only at e; omega)]; exact c0, World.rangeAt_setCells_apart (w := W.drew) gr _ _ _ (.inl (by omega)), World.there_setCells (w := W.drew) ht _ _ _⟩
    have hZ := Lib.hid (show Z0.toArray.size = B.length by rw [hl64]; rfl)
    have HK1 := Lib.hid K1
    clear hi1 hys hread hbk hc1 b0 b1 b2 hB0 K1
    go_wp2_with fail
    go_region_held3 (fun w' => w'.cell? ⟨p, 0, none⟩ = some (.slice (some ⟨gs, 0, none⟩) S.has.length cs) ∧ w'.cell? ⟨w.heap.size, 0, none⟩ = some (.int .i64 (k : Int)) ∧ w'.rangeAt gs (k * 64) B ∧ w'.there (w.heap.size + 1) 0 64) (first | exact HK1.out | go_keep_ranges | go_keep) (fail)
    go_wp2
    have hi3' : Blk W.drew (w.heap.size + 1) 39 Z0.toArray := hi3
    have hK' := (KeepsOthers.setCells hi3' 0 B).same D _ hK rfl
    refine ⟨by simp, .inl ⟨_, _, rfl, run_takeDeferred hK', ?_⟩⟩
    have hX := hi3'.setCells 0 B
    rw [lay_whole _ _ hZ.out] at hX
    have hX' := hX.kept (grownBy_putObj' _ D (.deferred none)) (fun r e => by cases e; exact ⟨_, hK', rfl⟩)
    refine ⟨.agg B.toArray, ?_, by rw [HR.out], (Below.setCells hB.drew (by omega) _ _).trans (belowK_b (w := w) (Nat.le_refl _) _ D _ _ (by rw [HSZ.out] at hD; omega) hK' rfl rfl)⟩
    exact results_cell_row (p := 4) (ty := 39) rfl _ _ (w.heap.size + 1) 39 B.toArray (0, 0) _ rfl hX' Try.underlying39 rfl (by rw [List.size_toArray, hl64]; exact Try.i39)
  case stop =>
    rintro D c pre W hD hpre ⟨⟨rfl, ini, x, e1, e2, e3, hX⟩, hB⟩ hK
    have hread : readAs S k = (S.q.getD x.1 (0, [])).2 := readN_hit _ x.1 x.2 e3 fun j h1 h2 => e2 ⟨j, h2⟩ (hpre ini x e1 ⟨j, h2⟩ h1)
    have hbe := bAt HB.out x.2
    have HR := Lib.hid hread
    generalize (S.q.getD x.1 (0, [])).2 = B at *
    clear e1 e2 e3 hpre hread
    refine wpIn_wide.2 ?_
    go_wp2
    refine ⟨by simp, .inl ⟨_, _, rfl, run_takeDeferred hK, ?_⟩⟩
    have hX' := hX.kept (grownBy_putObj' _ D (.deferred none)) (fun r e => by cases e; exact ⟨_, hK, rfl⟩)
    refine ⟨.agg B.toArray, ?_, by rw [HR.out], hB.trans (belowK_b (w := w) (Nat.le_refl _) W D _ _ (by rw [HSZ.out] at hD; omega) hK rfl rfl)⟩
    exact results_cell_row (p := 4) (ty := 39) rfl _ _ (w.heap.size + 1) 39 B.toArray (0, 0) _ rfl hX' Try.underlying39 rfl (by rw [List.size_toArray, hbe.1]; exact Try.i39)

end Go.Proofs.Ytdhompiapklnaaa
