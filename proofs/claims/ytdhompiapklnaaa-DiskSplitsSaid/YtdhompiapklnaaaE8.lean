/-
  The document's Sync.
-/
import Derived.Test.YtdhompiapklnaaaE7
import Derived.Test.YtdhompiapklnaaaE5
namespace Go.Proofs.Ytdhompiapklnaaa
open Go.RowKit
attribute [local go_sem ↓] Try.z39 Try.z86 Try.z75 Try.z32

/-- The row of the document's disk S, its sectors and its queue owned. -/
def RRow (F : Nat → Prop) (w : World) (S : DSt) (r : List Value) : Prop :=
  ∃ Ah ch Aq cq dm, (S.dead = false → dm = S.doomed) ∧ r = rrow Ah S.has.length ch Aq S.q.length cq S.armed dm S.dead S.ops ∧ Own w 0 39 64 (.slice Ah S.has.length ch) S.has ∧ Own w 0 75 65 (.slice Aq S.q.length cq) (S.q.map put1) ∧ (∀ g, Ah = some ⟨g, 0, none⟩ → F g)
theorem Own.base_le {w : World} {b : Nat} {t : TypeId} {k g n c : Nat} {l : List (List Value)} (h : Own w b t k (.slice (some ⟨g, 0, none⟩) n c) l) : b ≤ g := by
  rcases h.1.2 with ⟨hv, _⟩ | ⟨g2, cap, cur, hv, hbs, _⟩
  · cases hv
  · injection hv with e1 e2 e3
    injection e1 with e1
    injection e1 with e1
    subst e1
    exact hbs
theorem RRow.below {F : Nat → Prop} {w w' : World} {S : DSt} {r : List Value} (h : RRow F w S r) (hB : Below w.heap.size w w') : RRow F w' S r := by
  obtain ⟨Ah, ch, Aq, cq, dm, h1, h2, h3, h4, h5⟩ := h
  exact ⟨Ah, ch, Aq, cq, dm, h1, h2, h3.below hB, h4.below hB, h5⟩

theorem RRow.only {F : Nat → Prop} {w w' : World} {S : DSt} {r : List Value} {g : Nat} {c : Array Value} (h : RRow F w S r) (ho : Only g w w') (hb : Blk w g 32 c) : RRow F w' S r := by
  obtain ⟨Ah, ch, Aq, cq, dm, h1, h2, h3, h4, h5⟩ := h
  exact ⟨Ah, ch, Aq, cq, dm, h1, h2, h3.keep fun g2 _ _ _ hb2 => ho.block g2 (hb2.ne hb (by decide)), h4.keep fun g2 _ _ _ hb2 => ho.block g2 (hb2.ne hb (by decide)), h5⟩

theorem rowB_bs {w : World} {g n : Nat} {f : Nat → Bool} (h : Blk w g 4 (rowB n f).toArray) : Bs w w.heap.size (some ⟨g, 0, none⟩) ((List.range n).map f) := fun _ => by
  refine ⟨g, 0, rfl, h.lt, fun j hj => ?_⟩
  have hj' : j < n := by simpa using hj
  rw [Nat.zero_add, h.cell, List.getElem?_toArray, rowB_at f hj']
  simp [List.getD, hj']
theorem kept_row {n k : Nat} (f : Nat → Bool) (h : k < n) : kept ((List.range n).map f) k = f k := by simp [kept, List.getD, h]

/-- Where one stands. -/
structure SW8 (w0 : World) (g4 : Nat) (rI r4 : List Value) (c2 : Array Value) (w : World) : Prop where
  below : Below w0.heap.size w0 w
  bi : Blk w w0.heap.size 32 rI.toArray
  b2 : Blk w (w0.heap.size + 1) 32 c2
  b4 : Blk w g4 32 r4.toArray
  lo : w0.heap.size + 1 < g4
section
variable {w0 w w' : World} {g4 : Nat} {rI r4 : List Value} {c2 : Array Value}
theorem SW8.low (s : SW8 w0 g4 rI r4 c2 w) (k : Below w.heap.size w w') : SW8 w0 g4 rI r4 c2 w' :=
  ⟨s.below.trans (k.mono s.below.size), s.bi.below k s.bi.lt, s.b2.below k s.b2.lt, s.b4.below k s.b4.lt, s.lo⟩
theorem SW8.put4 (s : SW8 w0 g4 rI r4 c2 w) {r : List Value} (ho : Only g4 w w') (hb : Blk w' g4 32 r.toArray) : SW8 w0 g4 rI r c2 w' :=
  have l := s.lo
  ⟨s.below.trans (ho.below (by omega)), ho.keep s.bi (by omega), ho.keep s.b2 (by omega), hb, l⟩
theorem SW8.put2 (s : SW8 w0 g4 rI r4 c2 w) {c : Array Value} (ho : Only (w0.heap.size + 1) w w') (hb : Blk w' (w0.heap.size + 1) 32 c) : SW8 w0 g4 rI r4 c w' :=
  have l := s.lo
  ⟨s.below.trans (ho.below (by omega)), ho.keep s.bi (by omega), hb, ho.keep s.b4 (by omega), l⟩
theorem SW8.set_ (s : SW8 w0 g4 rI r4 c2 w) {g : Nat} (hg : g4 < g) (i : Nat) (v : Value) : SW8 w0 g4 rI r4 c2 (w.setCell ⟨g, i, none⟩ v) :=
  have l := s.lo
  ⟨s.below.setCell (p := ⟨g, i, none⟩) (by show w0.heap.size ≤ g; omega) v, s.bi.far (p := ⟨g, i, none⟩) (by show w0.heap.size ≠ g; omega) v, s.b2.far (p := ⟨g, i, none⟩) (by show w0.heap.size + 1 ≠ g; omega) v, s.b4.far (p := ⟨g, i, none⟩) (by show g4 ≠ g; omega) v, l⟩
end

/-- What Sync leaves. -/
def RSync (F : Nat → Prop) (w : World) (S' : DSt) (er : Int) (e : Ending) (w' : World) : Prop := ∃ r, e = .returned (.tuple #[.agg r.toArray, .int .i64 er]) ∧ RRow F w' S' r ∧ Below w.heap.size w w'

set_option linter.unusedSimpArgs false in
set_option linter.unusedVariables false in
set_option maxRecDepth 100000 in
set_option maxHeartbeats 2000000 in
theorem refsync_any (Ah : Option Addr) (ch : Nat) (Aq : Option Addr) (cq : Nat) (S : DSt) (ok : S.ok) (hq : S.q.length ≤ 1000000) (hn : S.has.length ≤ 1000000) (dm : Int) (w : World) (hd : S.dead = false → dm = S.doomed)
    (oh : Own w 0 39 64 (.slice Ah S.has.length ch) S.has) (oq : Own w 0 75 65 (.slice Aq S.q.length cq) (S.q.map put1)) (F : Nat → Prop) (hF : ∀ g, w.heap.size ≤ g → F g) (hA : ∀ g, Ah = some ⟨g, 0, none⟩ → F g) :
    Calls Try.prog 37 #[.agg (rrow Ah S.has.length ch Aq S.q.length cq S.armed dm S.dead S.ops).toArray] w (RSync F w (syncSt S) (askErr S true 0)) := by
  have HF := Lib.hid hF
  have HA := Lib.hid hA
  clear hF hA
  have AK := Lib.hid (fun w => refasked_any Ah ch Aq S.q.length cq S ok (by omega) dm 0 true w hd)
  have hB0 : Hid (Below w.heap.size w ((w.alloc (.cells (rrow Ah S.has.length ch Aq S.q.length cq S.armed dm S.dead S.ops).toArray 32)).alloc (.cells ZZ 32))) := ((Below.refl _ w).alloc (Nat.le_refl _) _).alloc (by simp) _
  have bI : Hid (Blk ((w.alloc (.cells (rrow Ah S.has.length ch Aq S.q.length cq S.armed dm S.dead S.ops).toArray 32)).alloc (.cells ZZ 32)) w.heap.size 32 (rrow Ah S.has.length ch Aq S.q.length cq S.armed dm S.dead S.ops).toArray) := (Blk.new w 32 _).alloc _
  have b2 : Hid (Blk ((w.alloc (.cells (rrow Ah S.has.length ch Aq S.q.length cq S.armed dm S.dead S.ops).toArray 32)).alloc (.cells ZZ 32)) (w.heap.size + 1) 32 ZZ) := Blk.new' _ 32 _ (by simp)
  have C1 : Hid (∀ W, Blk W w.heap.size 32 (rrow Ah S.has.length ch Aq S.q.length cq S.armed dm S.dead S.ops).toArray → W.cell? ⟨w.heap.size, 1, none⟩ = some (.slice Aq S.q.length cq)) := fun W h => h.cell 1
  have OH := Lib.hid oh
  have OQ := Lib.hid oq
  have iI : Hid ((Try.prog.info? 32).map (·.size) = some (rrow Ah S.has.length ch Aq S.q.length cq S.armed dm S.dead S.ops).length) := Try.i32
  have OK := Lib.hid ok
  clear oh oq ok
  generalize rrow Ah S.has.length ch Aq S.q.length cq S.armed dm S.dead S.ops = rI at *
  go_enter Try.func37, Try.ntmps37
  go_upto_region 1 with (fail)
  generalize (w.alloc (.cells rI.toArray 32)).alloc (.cells ZZ 32) = W0 at *
  go_wp2_with ((with_reducible refine at_load (t := 32) ?_); refine wpList_load_mid rfl 32 _ rfl w.heap.size 0 rfl rI _ bI.out.rng Try.underlying32 rfl iI.out ?_)
  refine (AK.out _).mono ?_
  rintro e w1 ⟨dm', hdm, rfl, k1⟩
  have HDM := Lib.hid hdm
  have oO : Hid (∀ v ∈ rrow Ah S.has.length ch Aq S.q.length cq (askSt S true 0).armed dm' (askSt S true 0).dead (askSt S true 0).ops, v.oneCell' = true) := rrow_one _ _ _ _ _ _ _ _ _ _
  have iO : Hid ((Try.prog.info? 32).map (·.size) = some (rrow Ah S.has.length ch Aq S.q.length cq (askSt S true 0).armed dm' (askSt S true 0).dead (askSt S true 0).ops).length) := Try.i32
  have iOA : Hid ((Try.prog.info? 32).map (·.size) = some (rrow Ah S.has.length ch Aq S.q.length cq (askSt S true 0).armed dm' (askSt S true 0).dead (askSt S true 0).ops).toArray.size) := Try.i32
  have zO : Hid (ZZ.size = (rrow Ah S.has.length ch Aq S.q.length cq (askSt S true 0).armed dm' (askSt S true 0).dead (askSt S true 0).ops).length) := show _ = _ from rfl
  have F0 : Hid (askErr S true 0 ≠ 0 → ∀ W, Below w.heap.size w W → RRow F W (syncSt S) (rrow Ah S.has.length ch Aq S.q.length cq (askSt S true 0).armed dm' (askSt S true 0).dead (askSt S true 0).ops)) := fun he W hb => by
    rw [syncSt, if_neg he]
    refine ⟨Ah, ch, Aq, cq, dm', HDM.out, by rw [askSt_has, askSt_q], ?_, ?_, HA.out⟩
    · rw [askSt_has]; exact OH.out.below hb
    · rw [askSt_q]; exact OQ.out.below hb
  have DO : Hid (askErr S true 0 = 0 → ∀ W, Below w.heap.size w W → ∀ g6, Blk W g6 4 (rowB S.q.length fun k => decide (k < S.q.length)).toArray →
      Calls Try.prog 57 #[.agg (rrow Ah S.has.length ch Aq S.q.length cq (askSt S true 0).armed dm' (askSt S true 0).dead (askSt S true 0).ops).toArray, .slice (some ⟨g6, 0, none⟩) S.q.length S.q.length] W
        fun e w' => ∃ r, e = .returned (.agg r.toArray) ∧ r.length = 6 ∧ (∀ v ∈ r, v.oneCell' = true) ∧ RRow F w' (syncSt S) r ∧ Below W.heap.size W w') := fun he W hb g6 hg => by
    obtain ⟨_, i0, i1⟩ := askErr_ok he
    have hl : ((List.range S.q.length).map fun k => decide (k < S.q.length)).length = S.q.length := by simp
    have h := refdo_any Ah ch Aq cq S OK.out hq hn (by omega) (askSt S true 0).armed dm' (askSt S true 0).dead (askSt S true 0).ops (some ⟨g6, 0, none⟩) S.q.length _ hl W (OH.out.below hb) (OQ.out.below hb) (rowB_bs hg)
    rw [hl] at h
    refine h.mono ?_
    rintro e w' ⟨g, c', rfl, ho, hB⟩
    refine ⟨_, rfl, rfl, rrow_one _ _ _ _ _ _ _ _ _ _, ?_, hB⟩
    rw [doN_congr (d' := fun _ => true) S.q S.has S.q.length (fun k hk => by rw [kept_row _ hk]; simp [hk])] at ho
    rw [syncSt, if_pos he]
    have hge := Own.base_le ho
    refine ⟨some ⟨g, 0, none⟩, c', none, 0, dm', HDM.out, ?_, ?_, Own.nil _ _ _ _, fun g2 e => by injection e with e; injection e with e; subst e; exact HF.out _ (Nat.le_trans hb.size (by omega))⟩
    · rw [synced_len, askSt_has]
      rfl
    · rw [synced_len, askSt_has]
      have e : (synced (askSt S true 0)).has = doN (fun _ => true) S.q S.has S.q.length := by rw [synced, askSt_has, askSt_q]
      rw [e]
      exact ho.down (Nat.zero_le _)
  clear AK hdm HDM
  generalize rrow Ah S.has.length ch Aq S.q.length cq (askSt S true 0).armed dm' (askSt S true 0).dead (askSt S true 0).ops = rO at *
  have X1 : Hid (∀ w2, Blk w2 w1.heap.size 32 rO.toArray → Only w1.heap.size (w1.alloc (.cells ZZ 32)) w2 → SW8 w w1.heap.size rI rO ZZ w2) := fun w2 hb ho =>
    have kk : Below W0.heap.size W0 w2 := k1.trans ((((Below.refl _ w1).alloc (Nat.le_refl _) _).trans (ho.below (Nat.le_refl _))).mono k1.size)
    ⟨hB0.out.trans (kk.mono hB0.out.size), bI.out.below kk bI.out.lt, b2.out.below kk b2.out.lt, hb, Nat.lt_of_lt_of_le b2.out.lt k1.size⟩
  clear bI b2 hB0 k1 OH OQ OK
  obtain ⟨er, her⟩ : ∃ x, x = askErr S true 0 := ⟨_, rfl⟩
  rw [← her] at F0 DO
  have FIN : Hid (∀ (r : List Value), Ending.returned (.tuple #[.agg r.toArray, .int .i64 er]) = .returned (.tuple #[.agg r.toArray, .int .i64 (askErr S true 0)])) := fun r => by rw [her]
  rw [← her]
  clear her hd
  by_cases he : er = 0
  · have hne : (er == 0) = true := beq_iff_eq.2 he
    have D1 := Lib.hid (DO.out he)
    clear F0 DO
    have HE := Lib.hid he
    clear he
    go_wp2_with ((with_reducible refine at_store (t := 32) ?_); refine wpList_store_blk _ rfl 32 _ _ rfl w1.heap.size ZZ 32 rO rfl rfl (Blk.new w1 32 _) zO.out iO.out oO.out ?_; intro W3 hb3 ho3; have X3 := Lib.hid (X1.out _ hb3 ho3); clear X1 hb3 ho3; generalize w1.heap.size = g4 at *; have hmk := makeBools S.q.length (by omega) W3; rw [rowB_made, rowB_congr (g := fun k => decide (k < 0)) (fun k _ => by simp)] at hmk; have c1 := C1.out _ X3.out.bi)
    clear hmk c1 C1
    have L3 := Lib.hid X3.out.b4.lt
    go_loopw [21] (fun i wr => ∃ j : Nat, j ≤ S.q.length ∧ i = .int .i64 j ∧ SW8 w g4 rI rO ZZ wr ∧ Blk wr W3.heap.size 4 (rowB S.q.length fun k => decide (k < j)).toArray) (fun i _ => S.q.length - (intOf i).toNat)
    case atStart => exact ⟨0, Nat.zero_le _, rfl, X3.out.low ((Below.refl _ _).alloc (Nat.le_refl _) _), Blk.new W3 4 _⟩
    case round =>
      obtain ⟨j, hj, rfl, hx, hb⟩ := hrel
      clear X3
      by_cases hlt : j < S.q.length
      · have jI : (j : Int) < (S.q.length : Int) := by omega
        have jI0 : (0 : Int) ≤ (j : Nat) := by omega
        have x0 : wr.cell? ⟨W3.heap.size, j, none⟩ = some (.bool (decide (j < j))) := (hb.cell j).trans (by rw [List.getElem?_toArray]; exact rowB_at _ hlt)
        have f0 := hb.frozen j
        have X4 := Lib.hid (hx.set_ L3.out j (.bool true))
        have B4 : Hid (Blk (wr.setCell ⟨W3.heap.size, j, none⟩ (.bool true)) W3.heap.size 4 (rowB S.q.length fun k => decide (k < j + 1)).toArray) := show Blk _ _ _ _ by
          rw [← rowB_set (fun k => decide (k < j)) (fun k => decide (k < j + 1)) hlt (fun x => by rw [Bool.eq_iff_iff]; simp; omega)]
          exact hb.set_ j _
        clear hx hb
        go_wp2_with fail
        refine ⟨?_, by simp [intOf]; omega⟩
        first | exact ⟨j + 1, by omega, by go_num, X4.out, B4.out⟩ | ((repeat apply Exists.intro); refine ⟨⟨j + 1, by omega, by go_num, X4.out, B4.out⟩, ?_⟩; and_intros <;> rfl)
      · obtain rfl : j = S.q.length := by omega
        have jI : ¬ ((S.q.length : Nat) : Int) < (S.q.length : Int) := by omega
        have X4 := Lib.hid hx
        have CD := Lib.hid (D1.out wr hx.below W3.heap.size hb)
        clear hx hb D1
        go_wp2_with ((with_reducible refine at_load (t := 32) ?_); refine wpList_load_mid rfl 32 _ rfl g4 0 rfl rO _ X4.out.b4.rng Try.underlying32 rfl iO.out ?_)
        refine CD.out.mono ?_
        rintro e w5 ⟨rN, rfl, hrl, hro, hrr, k5⟩
        have X5 := Lib.hid (X4.out.low k5)
        have iN : Hid ((Try.prog.info? 32).map (·.size) = some rN.length) := show _ = _ by rw [hrl]; exact Try.i32
        have iNA : Hid ((Try.prog.info? 32).map (·.size) = some rN.toArray.size) := show _ = _ by rw [List.size_toArray, hrl]; exact Try.i32
        have zN : Hid (rO.toArray.size = rN.length) := show _ = _ by
          have := iO.out
          rw [Try.i32] at this
          injection this with this
          rw [List.size_toArray, ← this, hrl]
        have zM : Hid (ZZ.size = rN.length) := show _ = _ by rw [hrl]; rfl
        have oN := Lib.hid hro
        have RN := Lib.hid hrr
        have B5 := Lib.hid (show w.heap.size + 1 < g4 from X4.out.lo)
        clear hrl hro hrr CD X4 k5
        go_wp2_with (first
          | ((with_reducible refine at_store (t := 32) ?_); refine wpList_store_blk _ rfl 32 _ _ rfl g4 rO.toArray 32 rN rfl rfl X5.out.b4 zN.out iN.out oN.out ?_; intro w6 hb6 ho6; have X6 := Lib.hid (X5.out.put4 ho6 hb6); have R6 := Lib.hid (RN.out.only ho6 X5.out.b4); clear hb6 ho6)
          | ((with_reducible refine at_load (t := 32) ?_); refine wpList_load_mid rfl 32 _ rfl g4 0 rfl rN _ X6.out.b4.rng Try.underlying32 rfl iN.out ?_)
          | ((with_reducible refine at_store (t := 32) ?_); refine wpList_store_blk _ rfl 32 _ _ rfl (w.heap.size + 1) ZZ 32 rN rfl rfl X6.out.b2 zM.out iN.out oN.out ?_; intro w7 hb7 ho7; have X7 := Lib.hid (X6.out.put2 ho7 hb7); have R7 := Lib.hid (R6.out.only ho7 X6.out.b2); clear hb7 ho7))
        refine bodyPost_ret (ret_cell_tmp (p := 2) (u := 3) (ty := 32) rfl _ _ (w.heap.size + 1) 32 _ _ rfl X7.out.b2 Try.underlying32 rfl iNA.out) rfl ?_
        exact ⟨rN, FIN.out rN, R7.out, X7.out.below⟩
  · have hne : (er == 0) = false := beq_eq_false_iff_ne.2 he
    have F1 := Lib.hid (F0.out he)
    clear F0 DO he C1
    go_wp2_with (first
      | ((with_reducible refine at_store (t := 32) ?_); refine wpList_store_blk _ rfl 32 _ _ rfl w1.heap.size ZZ 32 rO rfl rfl (Blk.new w1 32 _) zO.out iO.out oO.out ?_; intro W3 hb3 ho3; have X3 := Lib.hid (X1.out _ hb3 ho3); clear X1 hb3 ho3; generalize w1.heap.size = g4 at *)
      | ((with_reducible refine at_load (t := 32) ?_); refine wpList_load_mid rfl 32 _ rfl g4 0 rfl rO _ X3.out.b4.rng Try.underlying32 rfl iO.out ?_)
      | ((with_reducible refine at_store (t := 32) ?_); refine wpList_store_blk _ rfl 32 _ _ rfl (w.heap.size + 1) ZZ 32 rO rfl rfl X3.out.b2 zO.out iO.out oO.out ?_; intro w7 hb7 ho7; have X7 := Lib.hid (X3.out.put2 ho7 hb7); clear X3 hb7 ho7))
    refine bodyPost_ret (ret_cell_tmp (p := 2) (u := 3) (ty := 32) rfl _ _ (w.heap.size + 1) 32 _ _ rfl X7.out.b2 Try.underlying32 rfl iOA.out) rfl ?_
    exact ⟨rO, FIN.out rO, F1.out _ X7.out.below, X7.out.below⟩

end Go.Proofs.Ytdhompiapklnaaa
