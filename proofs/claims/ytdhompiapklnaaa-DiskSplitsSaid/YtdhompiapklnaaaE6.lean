/-
  The document's Do.
-/
import Derived.Test.YtdhompiapklnaaaE5
import Derived.Test.YtdhompiapklnaaaCp
import Derived.Test.YtdhompiapklnaaaCr
namespace Go.Proofs.Ytdhompiapklnaaa
open Go.RowKit
attribute [local go_sem ↓] Try.z39 Try.z86 Try.z75 Try.z32

/-- A part is stored into an owned row. -/
theorem wpList_store_part {P : Program} {ops : Array Oper} {rest : List Oper} {op : Oper} {a : Act} {Q : Exit → Act → World → Prop} {w : World} {base : Nat} {t : TypeId} {k : Nat} {g n c : Nat} {l : List (List Value)} (hgd : op.guard = none) (ty : TypeId) (x y : Operand) (ho : op.op = .store ty x y)
    (h : Own w base t k (.slice (some ⟨g, 0, none⟩) n c) l) (i : Nat) (hi : i < l.length) (b : List Value) (hb : b.length = k) (hx : a.eval x = .pointer (some ⟨g, i * k, none⟩)) (hy : a.eval y = .agg b.toArray)
    (hs : (P.info? ty).map (·.size) = some b.length) (h1 : ∀ v ∈ b, v.oneCell' = true)
    (hp : ∀ w', Own w' base t k (.slice (some ⟨g, 0, none⟩) n c) (l.set i b) → Only g w w' → wpList P ops Q rest (a.put op.dst undef) w') : wpList P ops Q (op :: rest) a w := by
  refine wpList_store_mid hgd ty x y ho g (i * k) b.toArray hx hy ?_ (by simpa using hs) (all_oneCell_toArray h1) ?_
  · have := h.there (g := g) rfl hi
    rw [← hb] at this
    simpa [← hb] using this
  · rw [List.toList_toArray]
    exact hp _ (h.store (g := g) rfl hi hb) (setCells_only _ _ _ _)

/-- Where one stands. -/
structure DoW (w0 : World) (rI : List Value) (g nh c' : Nat) (Aq : Option Addr) (nq cq : Nat) (S : DSt) (done : Nat → Bool) (A : Option Addr) (ks : List Bool) (j : Nat) (w : World) : Prop where
  below : Below w0.heap.size w0 w
  bi : Blk w w0.heap.size 32 rI.toArray
  b4 : Blk w (w0.heap.size + 1) 32 ZZ
  own : Own w (w0.heap.size + 2) 39 64 (.slice (some ⟨g, 0, none⟩) nh c') (doN done S.q S.has j)
  que : Own w 0 75 65 (.slice Aq nq cq) (S.q.map put1)
  keep : Bs w w0.heap.size A ks
section
variable {w0 w w' : World} {rI : List Value} {g nh c' : Nat} {Aq : Option Addr} {nq cq : Nat} {S : DSt} {done : Nat → Bool} {A : Option Addr} {ks : List Bool} {j : Nat}
theorem DoW.low (s : DoW w0 rI g nh c' Aq nq cq S done A ks j w) (k : Below w.heap.size w w') : DoW w0 rI g nh c' Aq nq cq S done A ks j w' :=
  ⟨s.below.trans (k.mono s.below.size), s.bi.below k s.bi.lt, s.b4.below k s.b4.lt, s.own.below k, s.que.below k, s.keep.below (k.mono s.below.size)⟩
theorem DoW.lo (s : DoW w0 rI g nh c' Aq nq cq S done A ks j w) : w0.heap.size + 2 ≤ g := by
  rcases s.own.form with ⟨h, _⟩ | ⟨g', c2, cur, h, hb, _⟩
  · cases h
  · injection h with h
    injection h with h
    injection h with h
    omega
theorem DoW.skip (s : DoW w0 rI g nh c' Aq nq cq S done A ks j w) (hd : done j = false) : DoW w0 rI g nh c' Aq nq cq S done A ks (j + 1) w :=
  ⟨s.below, s.bi, s.b4, by rw [doN, hd]; exact s.own, s.que, s.keep⟩
theorem DoW.step (s : DoW w0 rI g nh c' Aq nq cq S done A ks j w) (hd : done j = true) (ho : Only g w w') (hw : Own w' (w0.heap.size + 2) 39 64 (.slice (some ⟨g, 0, none⟩) nh c') ((doN done S.q S.has j).set (S.q.getD j (0, [])).1.toNat (S.q.getD j (0, [])).2)) :
    DoW w0 rI g nh c' Aq nq cq S done A ks (j + 1) w' := by
  have l := s.lo
  refine ⟨s.below.trans (ho.below (by omega)), ho.keep s.bi (by omega), ho.keep s.b4 (by omega), by rw [doN, hd]; exact hw, s.que.keep fun g2 cur _ _ hb => ?_, s.keep.below (ho.below (by omega))⟩
  refine ho.block g2 fun e => ?_
  subst e
  rcases s.own.form with ⟨h, _⟩ | ⟨g', c2, cur', h, _, hb', _⟩
  · cases h
  · injection h with h
    injection h with h
    injection h with h
    subst h
    exact (hb.ne hb' (by decide)) rfl
end

/-- What Do leaves. -/
def RDo (w : World) (nh : Nat) (ar dm : Int) (dd : Bool) (ops : Int) (has' : List (List Value)) (e : Ending) (w' : World) : Prop :=
  ∃ g c', e = .returned (.agg (rrow (some ⟨g, 0, none⟩) nh c' none 0 0 ar dm dd ops).toArray) ∧ Own w' (w.heap.size + 2) 39 64 (.slice (some ⟨g, 0, none⟩) nh c') has' ∧ Below w.heap.size w w'

set_option linter.unusedVariables false in
set_option maxRecDepth 100000 in
set_option maxHeartbeats 2000000 in
theorem refdo_any (Ah : Option Addr) (ch : Nat) (Aq : Option Addr) (cq : Nat) (S : DSt) (ok : S.ok) (hq : S.q.length ≤ 1000000) (hn : S.has.length ≤ 1000000) (hn0 : 0 < S.has.length) (ar dm : Int) (dd : Bool) (ops : Int) (A : Option Addr) (c : Nat) (ks : List Bool) (hks : ks.length = S.q.length) (w : World)
    (oh : Own w 0 39 64 (.slice Ah S.has.length ch) S.has) (oq : Own w 0 75 65 (.slice Aq S.q.length cq) (S.q.map put1)) (hk : Bs w w.heap.size A ks) :
    Calls Try.prog 57 #[.agg (rrow Ah S.has.length ch Aq S.q.length cq ar dm dd ops).toArray, .slice A ks.length c] w (RDo w S.has.length ar dm dd ops (doN (kept ks) S.q S.has S.q.length)) := by
  obtain ⟨i0, hi, hz0, hz1, hz2⟩ := info_parts (show (Try.prog.info? 39).map (fun i => (i.zero, i.size, i.bytes)) = some (some (.agg Z0.toArray), 64, 64) by kernel_rfl)
  have hbn := buildN41
  have b0 : Blk ((w.alloc (.cells (rrow Ah S.has.length ch Aq S.q.length cq ar dm dd ops).toArray 32)).alloc (.cells ZZ 32)) w.heap.size 32 (rrow Ah S.has.length ch Aq S.q.length cq ar dm dd ops).toArray := (Blk.new w 32 _).alloc _
  have b1 : Blk ((w.alloc (.cells (rrow Ah S.has.length ch Aq S.q.length cq ar dm dd ops).toArray 32)).alloc (.cells ZZ 32)) (w.heap.size + 1) 32 ZZ := Blk.new' _ 32 _ (by simp)
  have hB : Below w.heap.size w ((w.alloc (.cells (rrow Ah S.has.length ch Aq S.q.length cq ar dm dd ops).toArray 32)).alloc (.cells ZZ 32)) := ((Below.refl _ w).alloc (Nat.le_refl _) _).alloc (by simp) _
  have hsz : w.heap.size + 2 = ((w.alloc (.cells (rrow Ah S.has.length ch Aq S.q.length cq ar dm dd ops).toArray 32)).alloc (.cells ZZ 32)).heap.size := by simp
  have c0 : ((w.alloc (.cells (rrow Ah S.has.length ch Aq S.q.length cq ar dm dd ops).toArray 32)).alloc (.cells ZZ 32)).cell? ⟨w.heap.size, 0, none⟩ = some (.slice Ah S.has.length ch) := b0.cell 0
  have c1 : ((w.alloc (.cells (rrow Ah S.has.length ch Aq S.q.length cq ar dm dd ops).toArray 32)).alloc (.cells ZZ 32)).cell? ⟨w.heap.size, 1, none⟩ = some (.slice Aq S.q.length cq) := b0.cell 1
  go_enter Try.func57, Try.ntmps57
  go_upto_region 1 with (fail)
  generalize (w.alloc (.cells (rrow Ah S.has.length ch Aq S.q.length cq ar dm dd ops).toArray 32)).alloc (.cells ZZ 32) = W0 at *
  obtain ⟨gh, hAh, _⟩ := oh.someRange hB hn0
  subst hAh
  have oh0 : Own W0 0 39 64 (.slice (some ⟨gh, 0, none⟩) S.has.length ch) S.has := oh.below (hB.mono (Nat.le_refl _))
  have P := oh0.2
  have HN : Hid (∀ j u, S.has.flatten[j]? = some u → (W0.alloc (.cells #[] 39)).cell? ((⟨gh, 0, none⟩ : Addr).add j) = some u) := by
    intro j u hj
    refine Lib.cell?_alloc_some _ ?_
    exact oh0.1.cells (g := gh) rfl j u hj
  have H1 : Hid (∀ u ∈ S.has.flatten, u.oneCell' = true) := by
    intro u hu
    obtain ⟨b, hb, hub⟩ := List.mem_flatten.1 hu
    exact (ok.has b hb).one u hub
  have HL : Hid (S.has.flatten.length = S.has.length * 64) := show _ = _ by rw [P.len]
  have xc0 : (W0.alloc (.cells #[] 39)).cell? ⟨w.heap.size, 0, none⟩ = some (.slice (some ⟨gh, 0, none⟩) S.has.length ch) := Lib.cell?_alloc_some _ c0
  have HP := Lib.hid P
  have OK := Lib.hid ok
  have HBI := Lib.hid b0
  have HB4 := Lib.hid b1
  have HBB := Lib.hid hB
  have HSZ := Lib.hid hsz
  have HQ : Hid (Own W0 0 75 65 (.slice Aq S.q.length cq) (S.q.map put1)) := oq.below (hB.mono (Nat.le_refl _))
  have HK : Hid (Bs W0 w.heap.size A ks) := hk.below hB
  have HKS := Lib.hid hks
  clear oh oh0 oq hk ok P b0 b1 hB hsz hks
  have CC1 : Hid (∀ w1, Below W0.heap.size W0 w1 → w1.cell? ⟨w.heap.size, 1, none⟩ = some (.slice Aq S.q.length cq)) := fun w1 k => (HBI.out.below k HBI.out.lt).cell 1
  generalize hF : S.has.flatten = F at *
  have HF := Lib.hid hF
  clear hF
  go_wp2_with (at_builtin; refine wpList_append_own _ rfl _ _ 29 rfl W0.heap.size 39 i0 (.agg Z0.toArray) 64 64 Try.underlying29 hi hz0 hz1 hz2 (by rfl) (by decide) _ _ _ rfl (World.ownsRow_made W0 #[] 0 (Nat.le_refl _) (Nat.zero_le _) rfl) ⟨gh, 0, none⟩ S.has.length ch F rfl HL.out HN.out H1.out (by unfold maxLen; omega) (by omega) (by simp) ?_; intro v' w1 hown hgrow hnil; have cc1 := CC1.out w1 (((Below.refl _ W0).alloc (Nat.le_refl _) _).grown hgrow (by simp) (fun k hk => by cases hk; exact Nat.le_refl _)))
  have k1 : Below W0.heap.size W0 w1 := ((Below.refl _ W0).alloc (Nat.le_refl _) _).grown hgrow (by simp) (fun k hk => by cases hk; exact Nat.le_refl _)
  have hne : v' ≠ .slice none 0 0 := fun e => by
    have := (hnil.1 e).1
    cases this
  rcases hown.2 with ⟨e, _⟩ | ⟨g', cap, cur, rfl, r⟩
  · exact absurd e hne
  · have ho : World.ownsRow w1 W0.heap.size 39 64 (.slice (some ⟨g', 0, none⟩) S.has.length cap) S.has.length F := by simpa using hown
    have OW : Own w1 (w.heap.size + 2) 39 64 (.slice (some ⟨g', 0, none⟩) S.has.length cap) S.has := by
      rw [HSZ.out]
      exact ⟨by rw [HF.out]; exact ho, HP.out⟩
    have D0 : Hid (DoW w (rrow (some ⟨gh, 0, none⟩) S.has.length ch Aq S.q.length cq ar dm dd ops) g' S.has.length cap Aq S.q.length cq S (kept ks) A ks 0 w1) :=
      ⟨HBB.out.trans (k1.mono HBB.out.size), HBI.out.below k1 HBI.out.lt, HB4.out.below k1 HB4.out.lt, OW, HQ.out.below k1, HK.out.below (k1.mono HBB.out.size)⟩
    clear hown ho r hnil hne hgrow OW k1 HBI HB4 HBB HSZ HQ HK HF HP xc0 c0 c1 hbn CC1 cc1
    go_loopw [15] (fun i wr => ∃ j : Nat, j ≤ S.q.length ∧ i = .int .i64 j ∧ DoW w (rrow (some ⟨gh, 0, none⟩) S.has.length ch Aq S.q.length cq ar dm dd ops) g' S.has.length cap Aq S.q.length cq S (kept ks) A ks j wr) (fun i _ => S.q.length - (intOf i).toNat)
    case atStart => exact ⟨0, Nat.zero_le _, rfl, D0.out⟩
    case round =>
      obtain ⟨j, hj, rfl, hx⟩ := hrel
      have D := Lib.hid hx
      clear D0 hx
      by_cases hlt : j < S.q.length
      · have jI : (j : Int) < (S.q.length : Int) := by omega
        have jI0 : (0 : Int) ≤ (j : Nat) := by omega
        have jk : (j : Int) < (ks.length : Int) := by rw [HKS.out]; exact jI
        obtain ⟨gq, hAq, hrg⟩ := D.out.que.someRange (Below.refl _ _) (i := j) (by rw [List.length_map]; exact hlt)
        obtain ⟨kb, ko, hA, hkb, hkc⟩ := D.out.keep (by rw [HKS.out]; omega)
        have kc := hkc j (by rw [HKS.out]; exact hlt)
        have eq1 : (S.q.map put1).getD j [] = put1 (S.q.getD j (0, [])) := by simp [List.getD, hlt]
        rw [eq1] at hrg
        obtain ⟨hbe, hs0, hs1⟩ := OK.out.at_ hlt
        have hq0 := Lib.hid hAq
        have hA0 := Lib.hid hA
        subst hAq hA
        have DX : Hid (DoW w (rrow (some ⟨gh, 0, none⟩) S.has.length ch (some ⟨gq, 0, none⟩) S.q.length cq ar dm dd ops) g' S.has.length cap (some ⟨gq, 0, none⟩) S.q.length cq S (kept ks) (some ⟨kb, ko, none⟩) ks j (wr.alloc (.cells (put1 (S.q.getD j (0, []))).toArray 75))) := D.out.low ((Below.refl _ wr).alloc (Nat.le_refl _) _)
        have SK := Lib.hid (fun hd => DX.out.skip hd)
        have SS := Lib.hid (fun hd w' ho hw => DX.out.step (w' := w') hd ho hw)
        have xb := Blk.new wr 75 (put1 (S.q.getD j (0, []))).toArray
        have kx : (wr.alloc (.cells (put1 (S.q.getD j (0, []))).toArray 75)).cell? ⟨kb, ko + j, none⟩ = some (.bool (kept ks j)) := Lib.cell?_alloc_some _ kc
        have RG := Lib.hid hrg
        clear hrg eq1 hkc
        generalize hE : S.q.getD j (0, []) = E at *
        obtain ⟨s, b⟩ := E
        dsimp only at hs0 hs1 hbe
        obtain ⟨m, rfl⟩ := Int.eq_ofNat_of_zero_le hs0
        have x0 : (wr.alloc (.cells (put1 ((m : Int), b)).toArray 75)).cell? ⟨wr.heap.size, 0, none⟩ = some (.int .i64 (m : Int)) := xb.cell 0
        have xr : Hid ((wr.alloc (.cells (put1 ((m : Int), b)).toArray 75)).rangeAt wr.heap.size 1 b) := fun i v hi => by
          rw [xb.cell (1 + i), List.getElem?_toArray, Nat.add_comm, put1, List.getElem?_cons_succ]
          exact hi
        have hone := Lib.hid (put1_one (e := ((m : Int), b)) hbe)
        have hi75 := Lib.hid (show (Try.prog.info? 75).map (·.size) = some (put1 ((m : Int), b)).length by rw [put1_len hbe]; exact Try.i75)
        have hz := Lib.hid (show (Value.int .i64 0 :: Z0).toArray.size = (put1 ((m : Int), b)).length by rw [put1_len hbe]; rfl)
        have HBE := Lib.hid hbe
        have i39 : Hid ((Try.prog.info? 39).map (·.size) = some b.length) := show _ = _ by rw [hbe.1]; exact Try.i39
        have hm0 : (0 : Int) ≤ (m : Nat) := by omega
        have hm1 : (m : Int) < (S.has.length : Int) := hs1
        clear xb hbe hs0 hs1 hE kc hkb D
        cases hd : kept ks j with
        | false =>
          rw [hd] at kx
          have SK1 := Lib.hid (SK.out hd)
          clear SK SS DX hd
          go_wp2_with (first
            | ((with_reducible refine at_load (t := 75) ?_); refine wpList_load_mid rfl 75 _ rfl gq (j * 65) rfl (put1 ((m : Int), b)) _ RG.out Try.underlying75 rfl hi75.out ?_)
            | ((with_reducible refine at_store (t := 75) ?_); refine wpList_store_new wr rfl 75 _ _ rfl _ _ _ (put1 ((m : Int), b)) rfl rfl rfl hz.out hi75.out hone.out ?_))
          refine ⟨?_, by simp [intOf]; omega⟩
          repeat apply Exists.intro
          exact ⟨⟨j + 1, by omega, by go_num, SK1.out⟩, rfl, rfl, rfl⟩
        | true =>
          rw [hd] at kx
          have SS1 := Lib.hid (SS.out hd)
          clear SK SS hd
          go_wp2_with (first
            | ((with_reducible refine at_load (t := 75) ?_); refine wpList_load_mid rfl 75 _ rfl gq (j * 65) rfl (put1 ((m : Int), b)) _ RG.out Try.underlying75 rfl hi75.out ?_)
            | ((with_reducible refine at_store (t := 75) ?_); refine wpList_store_new wr rfl 75 _ _ rfl _ _ _ (put1 ((m : Int), b)) rfl rfl rfl hz.out hi75.out hone.out ?_)
            | ((with_reducible refine at_load (t := 39) ?_); refine wpList_load_mid rfl 39 _ rfl wr.heap.size 1 rfl b _ xr.out Try.underlying39 rfl i39.out ?_)
            | ((with_reducible refine at_store (t := 39) ?_); refine wpList_store_part rfl 39 _ _ rfl DX.out.own m (by rw [doN_len]; omega) b HBE.out.1 rfl rfl i39.out HBE.out.one ?_; intro w6 hw6 ho6; have D6 := Lib.hid (SS1.out w6 ho6 hw6); clear DX SS1 hw6 ho6 x0 kx xr))
          refine ⟨?_, by simp [intOf]; omega⟩
          repeat apply Exists.intro
          exact ⟨⟨j + 1, by omega, by go_num, D6.out⟩, rfl, rfl, rfl⟩
      · obtain rfl : j = S.q.length := by omega
        have jI : ¬ ((S.q.length : Nat) : Int) < (S.q.length : Int) := by omega
        have c0 : wr.cell? ⟨w.heap.size, 0, none⟩ = some (.slice (some ⟨gh, 0, none⟩) S.has.length ch) := D.out.bi.cell 0
        have c1 : wr.cell? ⟨w.heap.size, 1, none⟩ = some (.slice Aq S.q.length cq) := D.out.bi.cell 1
        have f0 := D.out.bi.frozen 0
        have f1 := D.out.bi.frozen 1
        have l := D.out.lo
        have EX : Hid (Blk ((wr.setCell ⟨w.heap.size, 0, none⟩ (.slice (some ⟨g', 0, none⟩) S.has.length cap)).setCell ⟨w.heap.size, 1, none⟩ (.slice none 0 0)) w.heap.size 32 (rrow (some ⟨g', 0, none⟩) S.has.length cap none 0 0 ar dm dd ops).toArray) := (D.out.bi.set_ 0 _).set_ 1 _
        have E4 : Hid (Blk ((wr.setCell ⟨w.heap.size, 0, none⟩ (.slice (some ⟨g', 0, none⟩) S.has.length cap)).setCell ⟨w.heap.size, 1, none⟩ (.slice none 0 0)) (w.heap.size + 1) 32 ZZ) := (D.out.b4.far (p := ⟨w.heap.size, 0, none⟩) (by simp) _).far (p := ⟨w.heap.size, 1, none⟩) (by simp) _
        have EO : Hid (Own ((wr.setCell ⟨w.heap.size, 0, none⟩ (.slice (some ⟨g', 0, none⟩) S.has.length cap)).setCell ⟨w.heap.size, 1, none⟩ (.slice none 0 0)) (w.heap.size + 2) 39 64 (.slice (some ⟨g', 0, none⟩) S.has.length cap) (doN (kept ks) S.q S.has S.q.length)) :=
          (D.out.own.keep fun g2 cur hb _ _ => (Below.heap_setCell _ ⟨w.heap.size, 1, none⟩ _ g2 (by show g2 ≠ w.heap.size; omega)).trans (Below.heap_setCell _ ⟨w.heap.size, 0, none⟩ _ g2 (by show g2 ≠ w.heap.size; omega)))
        have EB : Hid (Below w.heap.size w ((wr.setCell ⟨w.heap.size, 0, none⟩ (.slice (some ⟨g', 0, none⟩) S.has.length cap)).setCell ⟨w.heap.size, 1, none⟩ (.slice none 0 0))) := (D.out.below.setCell (p := ⟨w.heap.size, 0, none⟩) (Nat.le_refl _) _).setCell (p := ⟨w.heap.size, 1, none⟩) (Nat.le_refl _) _
        clear D
        go_wp2_with (first
          | ((with_reducible refine at_load (t := 32) ?_); refine wpList_load_mid rfl 32 _ rfl w.heap.size 0 rfl (rrow (some ⟨g', 0, none⟩) S.has.length cap none 0 0 ar dm dd ops) _ EX.out.rng Try.underlying32 rfl Try.i32 ?_)
          | ((with_reducible refine at_store (t := 32) ?_); refine wpList_store_blk _ rfl 32 _ _ rfl (w.heap.size + 1) ZZ 32 (rrow (some ⟨g', 0, none⟩) S.has.length cap none 0 0 ar dm dd ops) rfl rfl E4.out rfl Try.i32 (rrow_one _ _ _ _ _ _ _ _ _ _) ?_; intro w9 hb9 ho9))
        refine bodyPost_ret (results_cell_row (p := 4) (ty := 32) rfl _ _ (w.heap.size + 1) 32 _ (0, 0) _ rfl hb9 Try.underlying32 rfl Try.i32) rfl ?_
        exact ⟨g', cap, rfl, EO.out.keep fun g2 cur hb _ _ => ho9.block g2 (by omega), EB.out.trans (ho9.below (by omega))⟩

end Go.Proofs.Ytdhompiapklnaaa
