/-
  All sectors of a disk, and of the document's.
-/
import Derived.Test.YtdhompiapklnaaaEI
import Derived.Test.YtdhompiapklnaaaEq
namespace Go.Proofs.Ytdhompiapklnaaa
open Go.RowKit

theorem Own.at_form {w : World} {b : Nat} {t : TypeId} {k n c g : Nat} {Ah : Option Addr} {l : List (List Value)} (h : Own w b t k (.slice Ah n c) l) (hv : (Value.slice Ah n c).ownBlock = some g) : Ah = some ⟨g, 0, none⟩ := by
  rcases h.1.2 with ⟨e, _⟩ | ⟨g2, cap, cur, e, _⟩
  · injection e with e1 _ _
    subst e1
    cases hv
  · injection e with e1 _ _
    subst e1
    simp only [Value.ownBlock, Option.some.injEq] at hv
    subst hv
    rfl
section
variable {F : Nat → Prop} {w w' : World} {base p gs : Nat} {S S0 : DSt} {r : List Value}
theorem RRow.rk (h : RRow F w S r) (ok : S.ok) (hF : ∀ g, F g → g ≠ gs) : Rk w gs r.toArray S := by
  obtain ⟨Ah, ch, Aq, cq, dm, h1, rfl, h3, h4, h5⟩ := h
  exact ⟨⟨_, _, dm, rfl, h1, h3, h4, fun e => hF _ (h5 _ (h3.at_form e)) rfl⟩, ok⟩
theorem RRow.fr (h : RRow F w S r) (hd : Dk w base p gs S0) (hf : Fr base p gs w w') (hF : ∀ g, F g → g ≠ gs) : RRow F w' S r := by
  obtain ⟨Ah, ch, Aq, cq, dm, h1, rfl, h3, h4, h5⟩ := h
  obtain ⟨_, _, hbk, ho, _⟩ := hd.own
  obtain ⟨_, _, hgl⟩ := ho.gs
  refine ⟨Ah, ch, Aq, cq, dm, h1, rfl, h3.keep fun g cur _ hv hg => ?_, h4.keep fun g cur _ hv hg => ?_, h5⟩
  · exact (hg.fr hf (hg.ne hbk (by decide)) (hF _ (h5 _ (h3.at_form hv))) (by decide)).trans hg.symm
  · exact (hg.fr hf (hg.ne hbk (by decide)) (hg.ne hgl (by decide)) (by decide)).trans hg.symm
theorem RRow.drew (h : RRow F w S r) : RRow F w.drew S r := h
theorem RRow.alloc (h : RRow F w S r) (o : Obj) : RRow F (w.alloc o) S r := h.below ((Below.refl _ _).alloc (Nat.le_refl _) o)
end

/-- All writes done: what a sector reads as. -/
theorem done_read (S : DSt) (ok : S.ok) (d : Nat → Bool) (i : Nat) (hi : i < S.has.length) : ∀ n, n ≤ S.q.length → (∀ k, k < n → d k = true) → (doN d S.q S.has n).getD i [] = readN S i n
  | 0, _, _ => by simp [doN, readN]
  | n + 1, hn, hd => by
    have ih := done_read S ok d i hi n (by omega) (fun k hk => hd k (by omega))
    have hq := ok.at_ (show n < S.q.length by omega)
    have hl := doN_len d S.q S.has n
    rw [doN, if_pos (hd n (by omega)), readN]
    by_cases he : (S.q.getD n (0, [])).1 = (i : Int)
    · rw [if_pos he, he, Int.toNat_natCast]
      simp only [List.getD, List.getElem?_set]
      rw [if_pos trivial, if_pos (by omega)]
      rfl
    · rw [if_neg he, ← ih]
      simp only [List.getD, List.getElem?_set]
      rw [if_neg (by simp only [List.getD] at hq he; omega)]

/-- A disk that is quiet: nothing in its queue, no count. -/
structure Calm (C S : DSt) : Prop where
  has : S.has = C.has
  q : S.q = []
  dead : S.dead = false
  doomed : S.doomed = -1
theorem Calm.err {C S : DSt} (h : Calm C S) {i : Nat} (hi : i < C.has.length) : askErr S false i = 0 := by
  unfold askErr
  rw [h.dead, h.doomed, h.has]
  simp
  omega
theorem Calm.read {C S : DSt} (h : Calm C S) {i : Nat} (hi : i < C.has.length) : readB S i = C.has.getD i [] := by
  unfold readB
  rw [if_pos (h.err hi)]
  unfold readAs
  rw [h.q]
  simp [readN, h.has]
theorem Calm.next {C S : DSt} (h : Calm C S) (i : Nat) : Calm C (askSt S false i) := by
  refine ⟨by rw [askSt_has]; exact h.has, by rw [askSt_q]; exact h.q, ?_, ?_⟩
  · unfold askSt
    rw [h.dead, h.doomed]
    simp only [Bool.false_eq_true, if_false, false_and]
    split <;> simp [h.dead]
  · unfold askSt
    rw [h.dead, h.doomed]
    simp only [Bool.false_eq_true, if_false, false_and]
    split <;> simp [less, h.doomed]

def allK (n : Nat) : List Bool := (List.range n).map fun k => decide (k < n)
theorem allK_len (n : Nat) : (allK n).length = n := by simp [allK]
theorem allK_dn {n k : Nat} (hk : k < n) : dn n (allK n) k = true := by
  have : kept (allK n) k = true := by unfold allK; rw [kept_row _ hk]; simp [hk]
  unfold dn
  rw [this]
  rfl
theorem calm_crash (S : DSt) : Calm (crashed S (allK S.q.length)) (crashed S (allK S.q.length)) := ⟨rfl, rfl, rfl, rfl⟩
theorem crash_reads (S : DSt) (ok : S.ok) {i : Nat} (hi : i < S.has.length) : (crashed S (allK S.q.length)).has.getD i [] = readAs S i :=
  done_read S ok _ i hi S.q.length (Nat.le_refl _) (fun _ hk => allK_dn hk)

/-- Where sectors stands. -/
structure SC (F : Nat → Prop) (w0 : World) (base p gs : Nat) (S : DSt) (r : List Value) (w : World) : Prop where
  b3 : Blk w w0.heap.size 32 r.toArray
  row : RRow F w S r
  fr : Fr base p gs w0 w
theorem SC.low {F : Nat → Prop} {w0 w w' : World} {base p gs : Nat} {S : DSt} {r : List Value} (h : SC F w0 base p gs S r w) (hb : Below w.heap.size w w') : SC F w0 base p gs S r w' :=
  ⟨h.b3.below hb h.b3.lt, h.row.below hb, h.fr.trans (.of_below hb)⟩
theorem SC.step {F : Nat → Prop} {w0 w w' : World} {base p gs : Nat} {S S' : DSt} {r : List Value} (h : SC F w0 base p gs S r w) (hd : Dk w base p gs S') (hf : Fr base p gs w w') (hF : ∀ g, F g → g ≠ gs) (hp : p < w0.heap.size) (hg : gs < w0.heap.size) : SC F w0 base p gs S r w' :=
  ⟨h.b3.fr hf (by omega) (by omega) (by decide), h.row.fr hd hf hF, h.fr.trans hf⟩

set_option linter.unusedSimpArgs false in
set_option linter.unusedVariables false in
set_option maxRecDepth 100000 in
set_option maxHeartbeats 2000000 in
theorem sectors16_any (F : Nat → Prop) (base p gs : Nat) (S : DSt) (r : List Value) (w : World) (hd : Dk w base p gs S) (hr : RRow F w S r) (hF : ∀ g, F g → g ≠ gs) (hq : S.q.length ≤ 1000000) (hn : S.has.length ≤ 1000000) :
    Calls Try.prog 16 #[.pointer (some ⟨p, 0, none⟩), .agg r.toArray] w fun e w' => e = .returned (.bool true) ∧ Fr base p gs w w' := by
  have ok := hd.ok
  have hgs := hd.own
  obtain ⟨_, _, hb0, ho0, _⟩ := hgs
  obtain ⟨_, _, hgl⟩ := ho0.gs
  have PL := Lib.hid hb0.lt
  have GL := Lib.hid hgl.lt
  have HF := Lib.hid hF
  have OK := Lib.hid ok
  have X0 : Hid (SC F w base p gs S r (w.alloc (.cells r.toArray 32))) := ⟨Blk.new w 32 _, hr.alloc _, .of_below ((Below.refl _ _).alloc (Nat.le_refl _) _)⟩
  have D0 : Hid (Dk (w.alloc (.cells r.toArray 32)) base p gs S) := hd.alloc _
  obtain ⟨Ah, ch, Aq, cq, dm, _, hrr, _, _, _⟩ := id hr
  have RD : Hid (∀ W, RRow F W S r → ∀ k : Nat, k < S.has.length → Calls Try.prog 40 #[.agg r.toArray, .int .i64 (k : Int)] W fun e w' => e = .returned (.agg (readAs S k).toArray) ∧ Below W.heap.size W w') := fun W h k hk => by
    obtain ⟨Ah, ch, Aq, cq, dm, _, rfl, h3, h4, _⟩ := h
    exact refreads_any Ah ch Aq cq S ok hq _ dm _ _ k hk W h3 h4
  have C1 : Hid (∀ W, Blk W w.heap.size 32 r.toArray → W.cell? ⟨w.heap.size, 1, none⟩ = some (.slice Aq S.q.length cq) ∧ W.cell? ⟨w.heap.size, 0, none⟩ = some (.slice Ah S.has.length ch)) := fun W h => by
    rw [hrr] at h
    exact ⟨h.cell 1, h.cell 0⟩
  have iI : Hid ((Try.prog.info? 32).map (·.size) = some r.length) := by rw [hrr]; exact Try.i32
  clear hd hr hF ok hb0 ho0 hgl hrr
  go_enter Try.func16, Try.ntmps16
  go_upto_region 1 with (fail)
  generalize w.alloc (.cells r.toArray 32) = W0 at *
  have c1 := (C1.out _ X0.out.b3).1
  have hmk := makeBools S.q.length (by omega) W0
  rw [rowB_made, rowB_congr (g := fun k => decide (k < 0)) (fun k _ => by simp)] at hmk
  go_wp2_with fail
  clear hmk c1
  go_loopw [16] (fun i wr => ∃ j : Nat, j ≤ S.q.length ∧ i = .int .i64 j ∧ Below W0.heap.size W0 wr ∧ Blk wr W0.heap.size 4 (rowB S.q.length fun k => decide (k < j)).toArray) (fun i _ => S.q.length - (intOf i).toNat)
  case atStart => exact ⟨0, Nat.zero_le _, rfl, (Below.refl _ _).alloc (Nat.le_refl _) _, Blk.new W0 4 _⟩
  case round =>
    obtain ⟨j, hj, rfl, hB, hb⟩ := hrel
    by_cases hlt : j < S.q.length
    · have jI : (j : Int) < (S.q.length : Int) := by omega
      have jI0 : (0 : Int) ≤ (j : Nat) := by omega
      have x0 : wr.cell? ⟨W0.heap.size, j, none⟩ = some (.bool (decide (j < j))) := (hb.cell j).trans (by rw [List.getElem?_toArray]; exact rowB_at _ hlt)
      have f0 := hb.frozen j
      have B4 : Hid (Blk (wr.setCell ⟨W0.heap.size, j, none⟩ (.bool true)) W0.heap.size 4 (rowB S.q.length fun k => decide (k < j + 1)).toArray) := show Blk _ _ _ _ by
        rw [← rowB_set (fun k => decide (k < j)) (fun k => decide (k < j + 1)) hlt (fun x => by rw [Bool.eq_iff_iff]; simp; omega)]
        exact hb.set_ j _
      have HB := Lib.hid (hB.setCell (p := ⟨W0.heap.size, j, none⟩) (Nat.le_refl _) (.bool true))
      clear hb hB
      go_wp2
      exact ⟨⟨j + 1, by omega, by go_num, HB.out, B4.out⟩, by simp [intOf]; omega⟩
    · have jI : ¬ (j : Int) < (S.q.length : Int) := by omega
      obtain rfl : j = S.q.length := by omega
      have D1 := Lib.hid (D0.out.below hB)
      have X1 := Lib.hid (X0.out.low hB)
      have hkb : Kb wr base (some ⟨W0.heap.size, 0, none⟩) (allK S.q.length) := fun _ => by
        obtain ⟨b, o, e1, hb2, hc⟩ := rowB_bs hb (by assumption)
        injection e1 with e1
        injection e1 with e1 e2
        subst e1 e2
        exact ⟨_, 0, rfl, hb2, .inr ⟨_, hb⟩, hc⟩
      have hcr := crash_any wr base p gs S (some ⟨W0.heap.size, 0, none⟩) S.q.length (allK S.q.length) D1.out hq hkb (by rw [allK_len]; omega)
      rw [allK_len] at hcr
      have HCR := Lib.hid hcr
      have CM := Lib.hid (calm_crash S)
      have CL : Hid ((crashed S (allK S.q.length)).has.length = S.has.length) := crashed_len _ _
      have CR := Lib.hid (fun (i : Nat) (hi : i < S.has.length) => crash_reads S OK.out hi)
      generalize crashed S (allK S.q.length) = C at *
      clear hb hB hcr hkb
      go_wp2_with fail
      refine HCR.out.mono ?_
      rintro e w2 ⟨rfl, d2, f2⟩
      have X2 := Lib.hid (X1.out.step D1.out f2 HF.out PL.out GL.out)
      have D2 := Lib.hid d2
      have c0 := (C1.out _ X2.out.b3).2
      clear d2 f2 HCR X1 D1 X0 D0
      go_wp2_with fail
      go_loopw [30] (fun i wr => ∃ j : Nat, j ≤ S.has.length ∧ i = .int .i64 j ∧ ∃ S', Calm C S' ∧ Dk wr base p gs S' ∧ SC F w base p gs S r wr) (fun i _ => S.has.length - (intOf i).toNat)
      case atStart => exact ⟨0, Nat.zero_le _, rfl, C, CM.out, D2.out, X2.out⟩
      case round =>
        clear X2 D2 c0
        obtain ⟨i, hi, rfl, S', hcm, d3, x3⟩ := hrel
        by_cases hlt : i < S.has.length
        · have iI1 : (i : Int) < (S.has.length : Int) := by omega
          have hrd := read_any i wr base p gs S' d3 (by rw [hcm.q]; simp)
          unfold Readd at hrd
          rw [hcm.err (by rw [CL.out]; exact hlt), hcm.read (by rw [CL.out]; exact hlt), CR.out i hlt] at hrd
          have hB6 := readAs_ok OK.out (show (0 : Int) ≤ (i : Int) by omega) (show (i : Int) < S.has.length by omega)
          have HRF := Lib.hid (fun W h => RD.out W h i hlt)
          generalize readAs S i = B at *
          have HNX := Lib.hid (hcm.next i)
          have HRD := Lib.hid hrd
          have X3 := Lib.hid x3
          have D3 := Lib.hid d3
          have i39 : Hid ((Try.prog.info? 39).map (·.size) = some B.length) := by rw [hB6.1]; exact Try.i39
          have z39 : Hid (Z0.toArray.size = B.length) := by rw [hB6.1]; rfl
          have o39 := Lib.hid hB6.one
          have hne := fun W => ne39 W B hB6
          generalize askSt S' false i = S2 at *
          clear hrd hcm d3 x3 hB6
          go_wp2_with fail
          refine HRD.out.mono ?_
          rintro e w4 ⟨rfl, d4, f4⟩
          have X4 := Lib.hid (X3.out.step D3.out f4 HF.out PL.out GL.out)
          have D4 := Lib.hid d4
          clear d4 f4 HRD X3 D3
          go_wp2_with ((with_reducible refine at_store (t := 39) ?_); refine wpList_store_new w4 rfl 39 _ _ rfl _ _ _ B rfl rfl rfl z39.out i39.out o39.out ?_)
          have X5 := Lib.hid (X4.out.low ((Below.refl _ w4).alloc (Nat.le_refl _) (.cells B.toArray 39)))
          have D5 := Lib.hid (D4.out.alloc (.cells B.toArray 39))
          have Y5 : Hid (Blk (w4.alloc (.cells B.toArray 39)) w4.heap.size 39 B.toArray) := Blk.new w4 39 _
          clear X4 D4
          generalize w4.alloc (.cells B.toArray 39) = w5 at *
          generalize w4.heap.size = g8 at *
          have hS0 : w5.drew.rangeAt g8 0 B ∧ w5.drew.rangeAt w.heap.size 0 r := ⟨Blk.rng (show Blk w5.drew g8 39 B.toArray from Y5.out), Blk.rng (show Blk w5.drew _ 32 r.toArray from X5.out.b3)⟩
          refine wp_region_noPanic ?_
          refine wp_region_held_drew (S := fun w' => w'.rangeAt g8 0 B ∧ w'.rangeAt w.heap.size 0 r) (by kernel_rfl) hS0 (fun hHeld => ?_)
          clear hS0
          refine take_d (i := 0) (d := 39) (v := .int .i64 0) rfl rfl (by kernel_rfl) (by kernel_rfl) (by kernel_rfl) (fun _ _ _ h => h) (Or.inl ⟨by kernel_rfl, ?hy⟩) hHeld ?_
          case hy => (intro w hSw; (try dsimp only at hSw); go_split_ands; go_simp)
          try simp only [Act.put, List.setIfInBounds_toArray, List.set_cons_zero, List.set_cons_succ]
          refine take_d (i := 1) (d := 40) (v := .bool false) rfl rfl (by kernel_rfl) (by kernel_rfl) (by kernel_rfl) (fun _ _ _ h => h) (Or.inl ⟨by kernel_rfl, ?hy⟩) hHeld ?_
          case hy => (intro w hSw; (try dsimp only at hSw); go_split_ands; go_simp)
          try simp only [Act.put, List.setIfInBounds_toArray, List.set_cons_zero, List.set_cons_succ]
          refine take_d (i := 2) (d := 41) (v := .bool false) rfl rfl (by kernel_rfl) (by kernel_rfl) (by kernel_rfl) (fun _ _ _ h => h) (Or.inl ⟨by kernel_rfl, ?hy⟩) hHeld ?_
          case hy => (intro w hSw; (try dsimp only at hSw); go_split_ands; go_simp)
          try simp only [Act.put, List.setIfInBounds_toArray, List.set_cons_zero, List.set_cons_succ]
          refine take_d (i := 3) (d := 42) (v := .agg B.toArray) rfl rfl (by kernel_rfl) (by kernel_rfl) (by kernel_rfl) (fun _ _ _ h => h) (yieldsIf_load_mid (by kernel_rfl) _ _ rfl _ _ rfl _ _ (fun w h => h.1) Try.underlying39 rfl i39.out) hHeld ?_
          try simp only [Act.put, List.setIfInBounds_toArray, List.set_cons_zero, List.set_cons_succ]
          refine take_d (i := 4) (d := 43) (v := .agg r.toArray) rfl rfl (by kernel_rfl) (by kernel_rfl) (by kernel_rfl) (fun _ _ _ h => h) (yieldsIf_load_mid (by kernel_rfl) _ _ rfl _ _ rfl _ _ (fun w h => h.2) Try.underlying32 rfl iI.out) hHeld ?_
          try simp only [Act.put, List.setIfInBounds_toArray, List.set_cons_zero, List.set_cons_succ]
          refine take_d (i := 5) (d := 44) (v := .int .i64 i) rfl rfl (by kernel_rfl) (by kernel_rfl) (by kernel_rfl) (fun _ _ _ h => h) (Or.inl ⟨by kernel_rfl, ?hy⟩) hHeld ?_
          case hy => (intro w hSw; (try dsimp only at hSw); go_split_ands; go_simp)
          try simp only [Act.put, List.setIfInBounds_toArray, List.set_cons_zero, List.set_cons_succ]
          refine wpAnyH_ready (rs := [6]) (by kernel_rfl) (by simp) ?_
          refine AllReadyH.cons rfl (fun K hK => ?_) AllReadyH.nil
          go_simp
          refine (HRF.out _ X5.out.row.drew).mono ?_
          rintro e w6 ⟨rfl, k6⟩
          refine hK.out _ _ (⟨Blk.rng (Blk.below (w := w5.drew) Y5.out k6 Y5.out.lt), Blk.rng (Blk.below (w := w5.drew) X5.out.b3 k6 X5.out.b3.lt)⟩) (fun hHeld => ?_)
          clear hK K
          try simp only [Act.put, List.setIfInBounds_toArray, List.set_cons_zero, List.set_cons_succ]
          refine take_d (i := 7) (d := 46) (v := .bool false) rfl rfl (by kernel_rfl) (by kernel_rfl) (by kernel_rfl) (fun _ _ _ h => h) (Or.inl ⟨by kernel_rfl, ?hy⟩) hHeld ?_
          case hy => (intro w hSw; (try dsimp only at hSw); go_split_ands; go_simp)
          try simp only [Act.put, List.setIfInBounds_toArray, List.set_cons_zero, List.set_cons_succ]
          refine take_d (i := 8) (d := 47) (v := .bool false) rfl rfl (by kernel_rfl) (by kernel_rfl) (by kernel_rfl) (fun _ _ _ h => h) (Or.inl ⟨by kernel_rfl, ?hy⟩) hHeld ?_
          case hy => (intro w hSw; (try dsimp only at hSw); go_split_ands; go_simp)
          try simp only [Act.put, List.setIfInBounds_toArray, List.set_cons_zero, List.set_cons_succ]
          refine wpAnyH_done (by kernel_rfl) ?_ _
          have k5 : Below w5.heap.size w5 w6 := (Below.refl _ w5).drew.trans (k6.mono (by simp))
          have X6 := Lib.hid (X5.out.low k5)
          have D6 := Lib.hid (D5.out.below k5)
          clear k6 k5 hHeld X5 D5 Y5 HRF hne
          refine NoPanic.normal ?_
          go_wp2
          exact ⟨⟨i + 1, by omega, by go_num, S2, HNX.out, D6.out, X6.out⟩, by simp [intOf]; omega⟩
        · have iI1 : ¬ (i : Int) < (S.has.length : Int) := by omega
          go_wp2_with fail
          go_ret
          exact ⟨rfl, x3.fr⟩

end Go.Proofs.Ytdhompiapklnaaa
