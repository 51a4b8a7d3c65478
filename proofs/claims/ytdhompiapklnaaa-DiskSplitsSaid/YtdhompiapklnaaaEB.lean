/-
  The document's Write.
-/
import Derived.Test.YtdhompiapklnaaaEA
import Derived.Test.YtdhompiapklnaaaWr
namespace Go.Proofs.Ytdhompiapklnaaa
open Go.RowKit
attribute [local go_sem ↓] Try.z39 Try.z86 Try.z75 Try.z32

theorem Own.lo {w : World} {base : Nat} {t : TypeId} {k : Nat} {v : Value} {l : List (List Value)} (h : Own w base t k v l) : ∀ g, v.ownBlock = some g → base ≤ g := fun g hg => by
  rcases h.form with ⟨rfl, _⟩ | ⟨g', c, cur, rfl, hb, _⟩
  · cases hg
  · have e : some g' = some g := hg
    injection e with e
    omega
theorem wp_app75' {o : Oper} {a : Act} {K : Act → World → Prop} {Q : Exit → Act → World → Prop} {w : World} (s x : Operand) (ho : o.op = .call { callee := .builtin .append, args := #[s, x], argTypes := #[30, 30] })
    (base base2 : Nat) (v : Value) (l1 l2 L : List (List Value)) (n : Nat) (hL : l1 ++ l2 = L) (hn : L.length = n) (hs : a.eval s = v) (own1 : Own w base 75 65 v l1) (hv : v ≠ .slice none 0 0) (u : Value) (hx : a.eval x = u) (own2 : Own w base2 75 65 u l2) (one2 : ∀ b ∈ l2, ∀ z ∈ b, z.oneCell' = true)
    (len : l1.length + l2.length ≤ 2000000) (hbase : base ≤ w.heap.size)
    (h : ∀ g c w', Own w' base 75 65 (.slice (some ⟨g, 0, none⟩) n c) L → w.grownBy w' v.ownBlock → K (a.put o.dst (.slice (some ⟨g, 0, none⟩) n c)) w') : o.wp Try.prog a w K Q := by
  subst hn
  subst hL
  rw [List.length_append] at h
  exact wp_app75 s x ho base base2 v l1 l2 hs own1 hv u hx own2 one2 len hbase h

/-- Where one stands. -/
structure WXB (w0 : World) (B rI : List Value) (g8 : Nat) (r8 : List Value) (c6 : Array Value) (w : World) : Prop where
  below : Below w0.heap.size w0 w
  bi : Blk w w0.heap.size 32 rI.toArray
  bb : Blk w (w0.heap.size + 1) 39 B.toArray
  b6 : Blk w (w0.heap.size + 1 + 1) 32 c6
  b8 : Blk w g8 32 r8.toArray
  lo : w0.heap.size + 1 + 1 < g8
section
variable {w0 w w' : World} {B rI r8 : List Value} {g8 : Nat} {c6 : Array Value}
theorem WXB.low (s : WXB w0 B rI g8 r8 c6 w) (k : Below w.heap.size w w') : WXB w0 B rI g8 r8 c6 w' :=
  ⟨s.below.trans (k.mono s.below.size), s.bi.below k s.bi.lt, s.bb.below k s.bb.lt, s.b6.below k s.b6.lt, s.b8.below k s.b8.lt, s.lo⟩
theorem WXB.set8 (s : WXB w0 B rI g8 r8 c6 w) (i : Nat) (u : Value) (r : List Value) (hr : r8.toArray.setIfInBounds i u = r.toArray) : WXB w0 B rI g8 r c6 (w.setCell ⟨g8, i, none⟩ u) :=
  have l := s.lo
  ⟨s.below.setCell (p := ⟨g8, i, none⟩) (by show w0.heap.size ≤ g8; omega) u, s.bi.far (p := ⟨g8, i, none⟩) (by show w0.heap.size ≠ g8; omega) u, s.bb.far (p := ⟨g8, i, none⟩) (by show w0.heap.size + 1 ≠ g8; omega) u, s.b6.far (p := ⟨g8, i, none⟩) (by show w0.heap.size + 1 + 1 ≠ g8; omega) u, by rw [← hr]; exact s.b8.set_ i u, l⟩
end

set_option linter.unusedSimpArgs false in
set_option linter.unusedVariables false in
set_option maxRecDepth 100000 in
set_option maxHeartbeats 4000000 in
theorem refwrite_any (Ah : Option Addr) (ch : Nat) (Aq : Option Addr) (cq : Nat) (S : DSt) (ok : S.ok) (hq : S.q.length < 1000000) (hn : S.has.length ≤ 1000000) (dm i : Int) (B : List Value) (hB : B64 B) (w : World) (hd : S.dead = false → dm = S.doomed)
    (oh : Own w 0 39 64 (.slice Ah S.has.length ch) S.has) (oq : Own w 0 75 65 (.slice Aq S.q.length cq) (S.q.map put1)) (F : Nat → Prop) (hF : ∀ g, w.heap.size ≤ g → F g) (hA : ∀ g, Ah = some ⟨g, 0, none⟩ → F g) :
    Calls Try.prog 39 #[.agg (rrow Ah S.has.length ch Aq S.q.length cq S.armed dm S.dead S.ops).toArray, .int .i64 i, .agg B.toArray] w (RSync F w (writeSt S i B) (askErr S true i)) := by
  have HF := Lib.hid hF
  have HA := Lib.hid hA
  clear hF hA
  have AK := Lib.hid (fun w => refasked_any Ah ch Aq S.q.length cq S ok (by omega) dm i true w hd)
  have hB0 : Hid (Below w.heap.size w (((w.alloc (.cells (rrow Ah S.has.length ch Aq S.q.length cq S.armed dm S.dead S.ops).toArray 32)).alloc (.cells B.toArray 39)).alloc (.cells ZZ 32))) := (((Below.refl _ w).alloc (Nat.le_refl _) _).alloc (by simp) _).alloc (by simp; omega) _
  have bI : Hid (Blk (((w.alloc (.cells (rrow Ah S.has.length ch Aq S.q.length cq S.armed dm S.dead S.ops).toArray 32)).alloc (.cells B.toArray 39)).alloc (.cells ZZ 32)) w.heap.size 32 (rrow Ah S.has.length ch Aq S.q.length cq S.armed dm S.dead S.ops).toArray) := ((Blk.new w 32 _).alloc _).alloc _
  have bB : Hid (Blk (((w.alloc (.cells (rrow Ah S.has.length ch Aq S.q.length cq S.armed dm S.dead S.ops).toArray 32)).alloc (.cells B.toArray 39)).alloc (.cells ZZ 32)) (w.heap.size + 1) 39 B.toArray) := (Blk.new' _ 39 _ (by simp)).alloc _
  have b6 : Hid (Blk (((w.alloc (.cells (rrow Ah S.has.length ch Aq S.q.length cq S.armed dm S.dead S.ops).toArray 32)).alloc (.cells B.toArray 39)).alloc (.cells ZZ 32)) (w.heap.size + 1 + 1) 32 ZZ) := Blk.new' _ 32 _ (by simp)
  have HS : Hid (∀ W {g8 r8 c6}, WXB w B (rrow Ah S.has.length ch Aq S.q.length cq S.armed dm S.dead S.ops) g8 r8 c6 W → W.cell? ⟨w.heap.size, 1, none⟩ = some (.slice Aq S.q.length cq) ∧ W.rangeAt (w.heap.size + 1) 0 B) := fun W _ _ _ h => ⟨h.bi.cell 1, h.bb.rng⟩
  have OQ : Hid (∀ W, Below w.heap.size w W → Own W 0 75 65 (.slice Aq S.q.length cq) (S.q.map put1)) := fun W h => oq.below h
  have OH : Hid (∀ W, Below w.heap.size w W → Own W 0 39 64 (.slice Ah S.has.length ch) S.has) := fun W h => oh.below h
  have LEN : Hid ((put1 (i, B)).length = 65) := put1_len (e := (i, B)) hB
  have O1 : Hid (∀ b ∈ S.q.map put1, ∀ z ∈ b, z.oneCell' = true) := fun b hb => by
    obtain ⟨x, hx, rfl⟩ := List.mem_map.1 hb
    exact put1_one (ok.q x hx).1
  have O2 : Hid (∀ b ∈ [put1 (i, B)], ∀ z ∈ b, z.oneCell' = true) := fun b hb => by
    rw [List.mem_singleton.1 hb]
    exact put1_one (e := (i, B)) hB
  have HL : Hid (S.q.map put1 ++ [put1 (i, B)] = (wrote S i B).q.map put1) := show _ = _ by simp [wrote]
  have HN : Hid (((wrote S i B).q.map put1).length = S.q.length + 1) := show _ = _ by simp [wrote]
  have iI : Hid ((Try.prog.info? 32).map (·.size) = some (rrow Ah S.has.length ch Aq S.q.length cq S.armed dm S.dead S.ops).length) := Try.i32
  have i39 : Hid ((Try.prog.info? 39).map (·.size) = some B.length) := show _ = _ by rw [hB.1]; exact Try.i39
  have HBL := Lib.hid hB.1
  clear oh oq ok hB
  generalize rrow Ah S.has.length ch Aq S.q.length cq S.armed dm S.dead S.ops = rI at *
  go_enter Try.func39, Try.ntmps39
  go_upto_region 1 with (fail)
  generalize ((w.alloc (.cells rI.toArray 32)).alloc (.cells B.toArray 39)).alloc (.cells ZZ 32) = W0 at *
  go_wp2_with ((with_reducible refine at_load (t := 32) ?_); refine wpList_load_mid rfl 32 _ rfl w.heap.size 0 rfl rI _ bI.out.rng Try.underlying32 rfl iI.out ?_)
  refine (AK.out _).mono ?_
  rintro e w1 ⟨dm', hdm, rfl, k1⟩
  have HDM := Lib.hid hdm
  have X1 : Hid (∀ w2, Blk w2 w1.heap.size 32 (rrow Ah S.has.length ch Aq S.q.length cq (askSt S true i).armed dm' (askSt S true i).dead (askSt S true i).ops).toArray → Only w1.heap.size (w1.alloc (.cells ZZ 32)) w2 → WXB w B rI w1.heap.size (rrow Ah S.has.length ch Aq S.q.length cq (askSt S true i).armed dm' (askSt S true i).dead (askSt S true i).ops) ZZ w2) := fun w2 hb ho =>
    have kk : Below W0.heap.size W0 w2 := k1.trans ((((Below.refl _ w1).alloc (Nat.le_refl _) _).trans (ho.below (Nat.le_refl _))).mono k1.size)
    ⟨hB0.out.trans (kk.mono hB0.out.size), bI.out.below kk bI.out.lt, bB.out.below kk bB.out.lt, b6.out.below kk b6.out.lt, hb, Nat.lt_of_lt_of_le b6.out.lt k1.size⟩
  have F0 : Hid (askErr S true i ≠ 0 → ∀ W, Below w.heap.size w W → RRow F W (writeSt S i B) (rrow Ah S.has.length ch Aq S.q.length cq (askSt S true i).armed dm' (askSt S true i).dead (askSt S true i).ops)) := fun he W hb => by
    rw [writeSt, if_neg he]
    exact ⟨Ah, ch, Aq, cq, dm', HDM.out, by rw [askSt_has, askSt_q], by rw [askSt_has]; exact OH.out W hb, by rw [askSt_q]; exact OQ.out W hb, HA.out⟩
  have FIN0 : Hid (askErr S true i = 0 → ∀ W g c, Below w.heap.size w W → Own W 0 75 65 (.slice (some ⟨g, 0, none⟩) (S.q.length + 1) c) ((wrote S i B).q.map put1) → RRow F W (writeSt S i B) (rrow Ah S.has.length ch (some ⟨g, 0, none⟩) (S.q.length + 1) c (askSt S true i).armed dm' (askSt S true i).dead (askSt S true i).ops)) := fun he W g c hb ho => by
    rw [writeSt, if_pos he]
    have e1 : (wrote (askSt S true i) i B).q = (wrote S i B).q := by simp [wrote, askSt_q]
    have e2 : (wrote (askSt S true i) i B).has = S.has := by simp [wrote, askSt_has]
    have e3 : (wrote S i B).q.length = S.q.length + 1 := by simp [wrote]
    exact ⟨Ah, ch, some ⟨g, 0, none⟩, c, dm', HDM.out, by rw [e1, e2, e3]; rfl, by rw [e2]; exact OH.out W hb, by rw [e1, e3]; exact ho, HA.out⟩
  clear AK hdm HDM bI bB b6 hB0 k1 OH iI
  obtain ⟨er, her⟩ : ∃ x, x = askErr S true i := ⟨_, rfl⟩
  rw [← her] at F0 FIN0
  have FE : Hid (∀ (r : List Value), Ending.returned (.tuple #[.agg r.toArray, .int .i64 er]) = .returned (.tuple #[.agg r.toArray, .int .i64 (askErr S true i)])) := fun r => by rw [her]
  rw [← her]
  clear her hd
  by_cases he : er = 0
  · have hne : (er == 0) = true := beq_iff_eq.2 he
    have FIN := Lib.hid (FIN0.out he)
    clear F0 FIN0 he
    go_wp2_with ((with_reducible refine at_store (t := 32) ?_); refine wpList_store_blk _ rfl 32 _ _ rfl w1.heap.size ZZ 32 (rrow Ah S.has.length ch Aq S.q.length cq (askSt S true i).armed dm' (askSt S true i).dead (askSt S true i).ops) rfl rfl (Blk.new w1 32 _) rfl Try.i32 (rrow_one _ _ _ _ _ _ _ _ _ _) ?_; intro W3 hb3 ho3; have X3 := Lib.hid (X1.out _ hb3 ho3); clear X1 hb3 ho3; generalize w1.heap.size = g8 at *)
    have X4 : Hid (WXB w B rI g8 (rrow Ah S.has.length ch Aq S.q.length cq (askSt S true i).armed dm' (askSt S true i).dead (askSt S true i).ops) ZZ W3.drew) := ⟨X3.out.below.drew, X3.out.bi, X3.out.bb, X3.out.b6, X3.out.b8, X3.out.lo⟩
    have hS0 : W3.drew.cell? ⟨w.heap.size, 1, none⟩ = some (.slice Aq S.q.length cq) ∧ W3.drew.rangeAt (w.heap.size + 1) 0 B := HS.out _ X4.out
    refine wp_region_noPanic ?_
    refine wp_region_held_drew (S := fun w' => w'.cell? ⟨w.heap.size, 1, none⟩ = some (.slice Aq S.q.length cq) ∧ w'.rangeAt (w.heap.size + 1) 0 B) (by kernel_rfl) hS0 (fun hHeld => ?_)
    clear hS0 X3
    generalize W3.drew = W4 at *
    refine take_d (i := 1) (d := 19) (v := .pointer (some ⟨w.heap.size, 1, none⟩)) rfl rfl (by kernel_rfl) (by kernel_rfl) (by kernel_rfl) (fun _ _ _ h => h) (Or.inl ⟨by kernel_rfl, fun w hSw => by go_simp⟩) hHeld ?_
    try simp only [Act.put, List.setIfInBounds_toArray, List.set_cons_zero, List.set_cons_succ]
    refine take_d (i := 2) (d := 20) (v := .slice Aq S.q.length cq) rfl rfl (by kernel_rfl) (by kernel_rfl) (by kernel_rfl) (fun _ _ _ h => h) (Or.inl ⟨by kernel_rfl, fun w hSw => by obtain ⟨s0, s1⟩ := hSw; go_simp⟩) hHeld ?_
    try simp only [Act.put, List.setIfInBounds_toArray, List.set_cons_zero, List.set_cons_succ]
    refine take_d (i := 4) (d := 22) (v := .int .i64 i) rfl rfl (by kernel_rfl) (by kernel_rfl) (by kernel_rfl) (fun _ _ _ h => h) (Or.inl ⟨by kernel_rfl, fun w hSw => by go_simp⟩) hHeld ?_
    try simp only [Act.put, List.setIfInBounds_toArray, List.set_cons_zero, List.set_cons_succ]
    refine take_d (i := 5) (d := 23) (v := .agg B.toArray) rfl rfl (by kernel_rfl) (by kernel_rfl) (by kernel_rfl) (fun _ _ _ h => h) (yieldsIf_load_mid (by kernel_rfl) _ _ rfl _ _ rfl _ _ (fun w h => h.2) Try.underlying39 rfl i39.out) hHeld ?_
    try simp only [Act.put, List.setIfInBounds_toArray, List.set_cons_zero, List.set_cons_succ]
    refine take_d (i := 6) (d := 24) (v := .agg (put1 (i, B)).toArray) rfl rfl (by kernel_rfl) (by kernel_rfl) (by kernel_rfl) (fun _ _ _ h => h) (Or.inl ⟨by kernel_rfl, fun w _ => exec_build75 _ _ i B rfl rfl rfl HBL.out w⟩) hHeld ?_
    try simp only [Act.put, List.setIfInBounds_toArray, List.set_cons_zero, List.set_cons_succ]
    have k4 := Lib.hid (Below.refl W4.heap.size W4)
    refine wpAnyH_ready (rs := [0, 7]) (by kernel_rfl) (by simp) ?_
    refine AllReadyH.cons rfl (fun K hK => ?_) (AllReadyH.cons rfl (fun K hK => ?_) AllReadyH.nil)
    · skip
      rw [if_pos (by kernel_rfl)]
      refine wp_buildN30 rfl ?_
      have EO := Lib.hid (own_new30 W4 k4.out.size)
      have k5 := Lib.hid (k4.out.alloc k4.out.size (.cells #[] 75))
      have S0 := Lib.hid (show W4.heap.size < (W4.alloc (.cells #[] 75)).heap.size by simp)
      refine hK.out _ _ (HS.out _ (X4.out.low k5.out)) (fun hHeld => ?_)
      clear hK K
      try simp only [Act.put, List.setIfInBounds_toArray, List.set_cons_zero, List.set_cons_succ]
      generalize W4.alloc (.cells #[] 75) = W5 at *
      refine wpAnyH_ready (rs := [3, 7]) (by kernel_rfl) (by simp) ?_
      refine AllReadyH.cons rfl (fun K hK => ?_) (AllReadyH.cons rfl (fun K hK => ?_) AllReadyH.nil)
      · skip
        rw [if_pos (by kernel_rfl)]
        refine wp_app75' (.tmp 18) (.tmp 20) rfl W4.heap.size 0 (.slice (some ⟨W4.heap.size, 0, none⟩) 0 0) [] (S.q.map put1) (S.q.map put1) S.q.length rfl (by simp) rfl EO.out (by simp) _ rfl (OQ.out _ (X4.out.low k5.out).below) O1.out (by simp; omega) k5.out.size ?_
        intro ga ca W6 hoa hga
        have EA := Lib.hid hoa
        have k6 := Lib.hid (k5.out.grown hga k5.out.size EO.out.lo)
        clear hoa hga
        refine hK.out _ _ (HS.out _ (X4.out.low k6.out)) (fun hHeld => ?_)
        clear hK K
        try simp only [Act.put, List.setIfInBounds_toArray, List.set_cons_zero, List.set_cons_succ]
        refine wpAnyH_ready (rs := [7]) (by kernel_rfl) (by simp) ?_
        refine AllReadyH.cons rfl (fun K hK => ?_) AllReadyH.nil
        rw [if_pos (by kernel_rfl)]
        refine wp_buildS75 _ (put1 (i, B)) rfl rfl LEN.out ?_
        have ON := Lib.hid (own_one30 W6 k6.out.size (put1 (i, B)) LEN.out)
        have k7 := Lib.hid (k6.out.alloc k6.out.size (.cells (put1 (i, B)).toArray 75))
        have S1 := Lib.hid (show W6.heap.size < (W6.alloc (.cells (put1 (i, B)).toArray 75)).heap.size by simp)
        have EA2 := Lib.hid (EA.out.alloc (.cells (put1 (i, B)).toArray 75))
        refine hK.out _ _ (HS.out _ (X4.out.low k7.out)) (fun hHeld => ?_)
        clear hK K
        try simp only [Act.put, List.setIfInBounds_toArray, List.set_cons_zero, List.set_cons_succ]
        generalize W6.alloc (.cells (put1 (i, B)).toArray 75) = W7 at *
        clear EA
        have EA := Lib.hid EA2.out
        refine wpAnyH_ready (rs := [8]) (by kernel_rfl) (by simp) ?_
        refine AllReadyH.cons rfl (fun K hK => ?_) AllReadyH.nil
        rw [if_pos (by kernel_rfl)]
        refine wp_app75' (.tmp 21) (.tmp 25) rfl W4.heap.size W4.heap.size (.slice (some ⟨ga, 0, none⟩) S.q.length ca) (S.q.map put1) [put1 (i, B)] ((wrote S i B).q.map put1) (S.q.length + 1) HL.out HN.out rfl EA.out (by simp) _ rfl ON.out O2.out (by simp; omega) k7.out.size ?_
        intro gc cc W9 hoc hgc
        have EC := Lib.hid (hoc.down (Nat.zero_le _))
        have k8 := Lib.hid (k7.out.grown hgc k7.out.size EA.out.lo)
        clear hoc hgc
        refine hK.out _ _ (HS.out _ (X4.out.low k8.out)) (fun hHeld => ?_)
        clear hK K
        try simp only [Act.put, List.setIfInBounds_toArray, List.set_cons_zero, List.set_cons_succ]
        refine take_d (i := 9) (d := 27) (v := .pointer (some ⟨g8, 1, none⟩)) rfl rfl (by kernel_rfl) (by kernel_rfl) (by kernel_rfl) (fun _ _ _ h => h) (Or.inl ⟨by kernel_rfl, fun w hSw => by go_simp⟩) hHeld ?_
        try simp only [Act.put, List.setIfInBounds_toArray, List.set_cons_zero, List.set_cons_succ]
        refine wpAnyH_ready (rs := [10]) (by kernel_rfl) (by simp) ?_
        refine AllReadyH.cons rfl (fun K hK => ?_) AllReadyH.nil
        have X9 := Lib.hid (X4.out.low k8.out)
        have x1 : W9.cell? ⟨g8, 1, none⟩ = some (.slice Aq S.q.length cq) := X9.out.b8.cell 1
        have f1 := X9.out.b8.frozen 1
        have XA := Lib.hid (X9.out.set8 1 (.slice (some ⟨gc, 0, none⟩) (S.q.length + 1) cc) (rrow Ah S.has.length ch (some ⟨gc, 0, none⟩) (S.q.length + 1) cc (askSt S true i).armed dm' (askSt S true i).dead (askSt S true i).ops) rfl)
        have EF := Lib.hid (EC.out.keep fun g2 _ _ _ hb2 => Below.heap_setCell W9 ⟨g8, 1, none⟩ (.slice (some ⟨gc, 0, none⟩) (S.q.length + 1) cc) g2 (hb2.ne X9.out.b8 (by decide)))
        have RF := Lib.hid (FIN.out _ gc cc XA.out.below EF.out)
        go_simp
        refine hK.out _ _ (HS.out _ XA.out) (fun hHeld => ?_)
        clear hK K
        try simp only [Act.put, List.setIfInBounds_toArray, List.set_cons_zero, List.set_cons_succ]
        refine wpAnyH_done (by kernel_rfl) ?_ _
        refine NoPanic.normal ?_
        clear FIN HS OQ O1 O2 X9 x1 f1 hHeld EF EC EA EO
        go_wp2_with (first
          | ((with_reducible refine at_load (t := 32) ?_); refine wpList_load_mid rfl 32 _ rfl g8 0 rfl (rrow Ah S.has.length ch (some ⟨gc, 0, none⟩) (S.q.length + 1) cc (askSt S true i).armed dm' (askSt S true i).dead (askSt S true i).ops) _ XA.out.b8.rng Try.underlying32 rfl Try.i32 ?_)
          | ((with_reducible refine at_store (t := 32) ?_); refine wpList_store_blk _ rfl 32 _ _ rfl (w.heap.size + 1 + 1) ZZ 32 (rrow Ah S.has.length ch (some ⟨gc, 0, none⟩) (S.q.length + 1) cc (askSt S true i).armed dm' (askSt S true i).dead (askSt S true i).ops) rfl rfl XA.out.b6 rfl Try.i32 (rrow_one _ _ _ _ _ _ _ _ _ _) ?_; intro w9 hb9 ho9))
        have B9 := XA.out.below.trans (ho9.below (by omega))
        refine bodyPost_ret (ret_cell_tmp (p := 6) (u := 7) (ty := 32) rfl _ _ (w.heap.size + 1 + 1) 32 _ _ rfl hb9 Try.underlying32 rfl Try.i32) rfl ?_
        exact ⟨_, FE.out _, RF.out.only ho9 XA.out.b6, B9⟩
      · skip
        rw [if_pos (by kernel_rfl)]
        refine wp_buildS75 _ (put1 (i, B)) rfl rfl LEN.out ?_
        have ON := Lib.hid (own_one30 W5 k5.out.size (put1 (i, B)) LEN.out)
        have k6 := Lib.hid (k5.out.alloc k5.out.size (.cells (put1 (i, B)).toArray 75))
        have S1 := Lib.hid (show W5.heap.size < (W5.alloc (.cells (put1 (i, B)).toArray 75)).heap.size by simp)
        have EO2 := Lib.hid (EO.out.alloc (.cells (put1 (i, B)).toArray 75))
        refine hK.out _ _ (HS.out _ (X4.out.low k6.out)) (fun hHeld => ?_)
        clear hK K
        try simp only [Act.put, List.setIfInBounds_toArray, List.set_cons_zero, List.set_cons_succ]
        generalize W5.alloc (.cells (put1 (i, B)).toArray 75) = W6 at *
        refine wpAnyH_ready (rs := [3]) (by kernel_rfl) (by simp) ?_
        refine AllReadyH.cons rfl (fun K hK => ?_) AllReadyH.nil
        rw [if_pos (by kernel_rfl)]
        refine wp_app75' (.tmp 18) (.tmp 20) rfl W4.heap.size 0 (.slice (some ⟨W4.heap.size, 0, none⟩) 0 0) [] (S.q.map put1) (S.q.map put1) S.q.length rfl (by simp) rfl EO2.out (by simp) _ rfl (OQ.out _ (X4.out.low k6.out).below) O1.out (by simp; omega) k6.out.size ?_
        intro ga ca W7 hoa hga
        have EA := Lib.hid hoa
        have k7 := Lib.hid (k6.out.grown hga k6.out.size EO2.out.lo)
        have ONK := Lib.hid (ON.out.keep (w' := W7) fun g2 cur _ hv hb => hga.block g2 hb.lt (fun h => by have e1 : some W5.heap.size = some g2 := hv; have e2 : some g2 = some W4.heap.size := h; injection e1 with e1; injection e2 with e2; have := S0.out; have := S1.out; omega))
        clear hoa hga
        refine hK.out _ _ (HS.out _ (X4.out.low k7.out)) (fun hHeld => ?_)
        clear hK K
        try simp only [Act.put, List.setIfInBounds_toArray, List.set_cons_zero, List.set_cons_succ]
        refine wpAnyH_ready (rs := [8]) (by kernel_rfl) (by simp) ?_
        refine AllReadyH.cons rfl (fun K hK => ?_) AllReadyH.nil
        rw [if_pos (by kernel_rfl)]
        refine wp_app75' (.tmp 21) (.tmp 25) rfl W4.heap.size W4.heap.size (.slice (some ⟨ga, 0, none⟩) S.q.length ca) (S.q.map put1) [put1 (i, B)] ((wrote S i B).q.map put1) (S.q.length + 1) HL.out HN.out rfl EA.out (by simp) _ rfl ONK.out O2.out (by simp; omega) k7.out.size ?_
        intro gc cc W9 hoc hgc
        have EC := Lib.hid (hoc.down (Nat.zero_le _))
        have k8 := Lib.hid (k7.out.grown hgc k7.out.size EA.out.lo)
        clear hoc hgc
        refine hK.out _ _ (HS.out _ (X4.out.low k8.out)) (fun hHeld => ?_)
        clear hK K
        try simp only [Act.put, List.setIfInBounds_toArray, List.set_cons_zero, List.set_cons_succ]
        refine take_d (i := 9) (d := 27) (v := .pointer (some ⟨g8, 1, none⟩)) rfl rfl (by kernel_rfl) (by kernel_rfl) (by kernel_rfl) (fun _ _ _ h => h) (Or.inl ⟨by kernel_rfl, fun w hSw => by go_simp⟩) hHeld ?_
        try simp only [Act.put, List.setIfInBounds_toArray, List.set_cons_zero, List.set_cons_succ]
        refine wpAnyH_ready (rs := [10]) (by kernel_rfl) (by simp) ?_
        refine AllReadyH.cons rfl (fun K hK => ?_) AllReadyH.nil
        have X9 := Lib.hid (X4.out.low k8.out)
        have x1 : W9.cell? ⟨g8, 1, none⟩ = some (.slice Aq S.q.length cq) := X9.out.b8.cell 1
        have f1 := X9.out.b8.frozen 1
        have XA := Lib.hid (X9.out.set8 1 (.slice (some ⟨gc, 0, none⟩) (S.q.length + 1) cc) (rrow Ah S.has.length ch (some ⟨gc, 0, none⟩) (S.q.length + 1) cc (askSt S true i).armed dm' (askSt S true i).dead (askSt S true i).ops) rfl)
        have EF := Lib.hid (EC.out.keep fun g2 _ _ _ hb2 => Below.heap_setCell W9 ⟨g8, 1, none⟩ (.slice (some ⟨gc, 0, none⟩) (S.q.length + 1) cc) g2 (hb2.ne X9.out.b8 (by decide)))
        have RF := Lib.hid (FIN.out _ gc cc XA.out.below EF.out)
        go_simp
        refine hK.out _ _ (HS.out _ XA.out) (fun hHeld => ?_)
        clear hK K
        try simp only [Act.put, List.setIfInBounds_toArray, List.set_cons_zero, List.set_cons_succ]
        refine wpAnyH_done (by kernel_rfl) ?_ _
        refine NoPanic.normal ?_
        clear FIN HS OQ O1 O2 X9 x1 f1 hHeld EF EC EA EO
        go_wp2_with (first
          | ((with_reducible refine at_load (t := 32) ?_); refine wpList_load_mid rfl 32 _ rfl g8 0 rfl (rrow Ah S.has.length ch (some ⟨gc, 0, none⟩) (S.q.length + 1) cc (askSt S true i).armed dm' (askSt S true i).dead (askSt S true i).ops) _ XA.out.b8.rng Try.underlying32 rfl Try.i32 ?_)
          | ((with_reducible refine at_store (t := 32) ?_); refine wpList_store_blk _ rfl 32 _ _ rfl (w.heap.size + 1 + 1) ZZ 32 (rrow Ah S.has.length ch (some ⟨gc, 0, none⟩) (S.q.length + 1) cc (askSt S true i).armed dm' (askSt S true i).dead (askSt S true i).ops) rfl rfl XA.out.b6 rfl Try.i32 (rrow_one _ _ _ _ _ _ _ _ _ _) ?_; intro w9 hb9 ho9))
        have B9 := XA.out.below.trans (ho9.below (by omega))
        refine bodyPost_ret (ret_cell_tmp (p := 6) (u := 7) (ty := 32) rfl _ _ (w.heap.size + 1 + 1) 32 _ _ rfl hb9 Try.underlying32 rfl Try.i32) rfl ?_
        exact ⟨_, FE.out _, RF.out.only ho9 XA.out.b6, B9⟩
    · skip
      rw [if_pos (by kernel_rfl)]
      refine wp_buildS75 _ (put1 (i, B)) rfl rfl LEN.out ?_
      have ON := Lib.hid (own_one30 W4 k4.out.size (put1 (i, B)) LEN.out)
      have k5 := Lib.hid (k4.out.alloc k4.out.size (.cells (put1 (i, B)).toArray 75))
      have S1 := Lib.hid (show W4.heap.size < (W4.alloc (.cells (put1 (i, B)).toArray 75)).heap.size by simp)
      refine hK.out _ _ (HS.out _ (X4.out.low k5.out)) (fun hHeld => ?_)
      clear hK K
      try simp only [Act.put, List.setIfInBounds_toArray, List.set_cons_zero, List.set_cons_succ]
      generalize W4.alloc (.cells (put1 (i, B)).toArray 75) = W5 at *
      refine wpAnyH_ready (rs := [0]) (by kernel_rfl) (by simp) ?_
      refine AllReadyH.cons rfl (fun K hK => ?_) AllReadyH.nil
      rw [if_pos (by kernel_rfl)]
      refine wp_buildN30 rfl ?_
      have EO := Lib.hid (own_new30 W5 k5.out.size)
      have k6 := Lib.hid (k5.out.alloc k5.out.size (.cells #[] 75))
      have S0 := Lib.hid (show W5.heap.size < (W5.alloc (.cells #[] 75)).heap.size by simp)
      have ON2 := Lib.hid (ON.out.alloc (.cells #[] 75))
      refine hK.out _ _ (HS.out _ (X4.out.low k6.out)) (fun hHeld => ?_)
      clear hK K
      try simp only [Act.put, List.setIfInBounds_toArray, List.set_cons_zero, List.set_cons_succ]
      generalize W5.alloc (.cells #[] 75) = W6 at *
      refine wpAnyH_ready (rs := [3]) (by kernel_rfl) (by simp) ?_
      refine AllReadyH.cons rfl (fun K hK => ?_) AllReadyH.nil
      rw [if_pos (by kernel_rfl)]
      refine wp_app75' (.tmp 18) (.tmp 20) rfl W4.heap.size 0 (.slice (some ⟨W5.heap.size, 0, none⟩) 0 0) [] (S.q.map put1) (S.q.map put1) S.q.length rfl (by simp) rfl EO.out (by simp) _ rfl (OQ.out _ (X4.out.low k6.out).below) O1.out (by simp; omega) k6.out.size ?_
      intro ga ca W7 hoa hga
      have EA := Lib.hid hoa
      have k7 := Lib.hid (k6.out.grown hga k6.out.size EO.out.lo)
      have ONK := Lib.hid (ON2.out.keep (w' := W7) fun g2 cur _ hv hb => hga.block g2 hb.lt (fun h => by have e1 : some W4.heap.size = some g2 := hv; have e2 : some g2 = some W5.heap.size := h; injection e1 with e1; injection e2 with e2; have := S0.out; have := S1.out; omega))
      clear hoa hga
      refine hK.out _ _ (HS.out _ (X4.out.low k7.out)) (fun hHeld => ?_)
      clear hK K
      try simp only [Act.put, List.setIfInBounds_toArray, List.set_cons_zero, List.set_cons_succ]
      refine wpAnyH_ready (rs := [8]) (by kernel_rfl) (by simp) ?_
      refine AllReadyH.cons rfl (fun K hK => ?_) AllReadyH.nil
      rw [if_pos (by kernel_rfl)]
      refine wp_app75' (.tmp 21) (.tmp 25) rfl W4.heap.size W4.heap.size (.slice (some ⟨ga, 0, none⟩) S.q.length ca) (S.q.map put1) [put1 (i, B)] ((wrote S i B).q.map put1) (S.q.length + 1) HL.out HN.out rfl EA.out (by simp) _ rfl ONK.out O2.out (by simp; omega) k7.out.size ?_
      intro gc cc W9 hoc hgc
      have EC := Lib.hid (hoc.down (Nat.zero_le _))
      have k8 := Lib.hid (k7.out.grown hgc k7.out.size EA.out.lo)
      clear hoc hgc
      refine hK.out _ _ (HS.out _ (X4.out.low k8.out)) (fun hHeld => ?_)
      clear hK K
      try simp only [Act.put, List.setIfInBounds_toArray, List.set_cons_zero, List.set_cons_succ]
      refine take_d (i := 9) (d := 27) (v := .pointer (some ⟨g8, 1, none⟩)) rfl rfl (by kernel_rfl) (by kernel_rfl) (by kernel_rfl) (fun _ _ _ h => h) (Or.inl ⟨by kernel_rfl, fun w hSw => by go_simp⟩) hHeld ?_
      try simp only [Act.put, List.setIfInBounds_toArray, List.set_cons_zero, List.set_cons_succ]
      refine wpAnyH_ready (rs := [10]) (by kernel_rfl) (by simp) ?_
      refine AllReadyH.cons rfl (fun K hK => ?_) AllReadyH.nil
      have X9 := Lib.hid (X4.out.low k8.out)
      have x1 : W9.cell? ⟨g8, 1, none⟩ = some (.slice Aq S.q.length cq) := X9.out.b8.cell 1
      have f1 := X9.out.b8.frozen 1
      have XA := Lib.hid (X9.out.set8 1 (.slice (some ⟨gc, 0, none⟩) (S.q.length + 1) cc) (rrow Ah S.has.length ch (some ⟨gc, 0, none⟩) (S.q.length + 1) cc (askSt S true i).armed dm' (askSt S true i).dead (askSt S true i).ops) rfl)
      have EF := Lib.hid (EC.out.keep fun g2 _ _ _ hb2 => Below.heap_setCell W9 ⟨g8, 1, none⟩ (.slice (some ⟨gc, 0, none⟩) (S.q.length + 1) cc) g2 (hb2.ne X9.out.b8 (by decide)))
      have RF := Lib.hid (FIN.out _ gc cc XA.out.below EF.out)
      go_simp
      refine hK.out _ _ (HS.out _ XA.out) (fun hHeld => ?_)
      clear hK K
      try simp only [Act.put, List.setIfInBounds_toArray, List.set_cons_zero, List.set_cons_succ]
      refine wpAnyH_done (by kernel_rfl) ?_ _
      refine NoPanic.normal ?_
      clear FIN HS OQ O1 O2 X9 x1 f1 hHeld EF EC EA EO
      go_wp2_with (first
        | ((with_reducible refine at_load (t := 32) ?_); refine wpList_load_mid rfl 32 _ rfl g8 0 rfl (rrow Ah S.has.length ch (some ⟨gc, 0, none⟩) (S.q.length + 1) cc (askSt S true i).armed dm' (askSt S true i).dead (askSt S true i).ops) _ XA.out.b8.rng Try.underlying32 rfl Try.i32 ?_)
        | ((with_reducible refine at_store (t := 32) ?_); refine wpList_store_blk _ rfl 32 _ _ rfl (w.heap.size + 1 + 1) ZZ 32 (rrow Ah S.has.length ch (some ⟨gc, 0, none⟩) (S.q.length + 1) cc (askSt S true i).armed dm' (askSt S true i).dead (askSt S true i).ops) rfl rfl XA.out.b6 rfl Try.i32 (rrow_one _ _ _ _ _ _ _ _ _ _) ?_; intro w9 hb9 ho9))
      have B9 := XA.out.below.trans (ho9.below (by omega))
      refine bodyPost_ret (ret_cell_tmp (p := 6) (u := 7) (ty := 32) rfl _ _ (w.heap.size + 1 + 1) 32 _ _ rfl hb9 Try.underlying32 rfl Try.i32) rfl ?_
      exact ⟨_, FE.out _, RF.out.only ho9 XA.out.b6, B9⟩
  · have hne : (er == 0) = false := beq_eq_false_iff_ne.2 he
    have F1 := Lib.hid (F0.out he)
    clear F0 FIN0 he HS OQ
    go_wp2_with (first
      | ((with_reducible refine at_store (t := 32) ?_); refine wpList_store_blk _ rfl 32 _ _ rfl w1.heap.size ZZ 32 (rrow Ah S.has.length ch Aq S.q.length cq (askSt S true i).armed dm' (askSt S true i).dead (askSt S true i).ops) rfl rfl (Blk.new w1 32 _) rfl Try.i32 (rrow_one _ _ _ _ _ _ _ _ _ _) ?_; intro W3 hb3 ho3; have X3 := Lib.hid (X1.out _ hb3 ho3); clear X1 hb3 ho3; generalize w1.heap.size = g8 at *)
      | ((with_reducible refine at_load (t := 32) ?_); refine wpList_load_mid rfl 32 _ rfl g8 0 rfl (rrow Ah S.has.length ch Aq S.q.length cq (askSt S true i).armed dm' (askSt S true i).dead (askSt S true i).ops) _ X3.out.b8.rng Try.underlying32 rfl Try.i32 ?_)
      | ((with_reducible refine at_store (t := 32) ?_); refine wpList_store_blk _ rfl 32 _ _ rfl (w.heap.size + 1 + 1) ZZ 32 (rrow Ah S.has.length ch Aq S.q.length cq (askSt S true i).armed dm' (askSt S true i).dead (askSt S true i).ops) rfl rfl X3.out.b6 rfl Try.i32 (rrow_one _ _ _ _ _ _ _ _ _ _) ?_; intro w9 hb9 ho9))
    have B9 := X3.out.below.trans (ho9.below (by omega))
    refine bodyPost_ret (ret_cell_tmp (p := 6) (u := 7) (ty := 32) rfl _ _ (w.heap.size + 1 + 1) 32 _ _ rfl hb9 Try.underlying32 rfl Try.i32) rfl ?_
    exact ⟨_, FE.out _, F1.out _ B9, B9⟩

end Go.Proofs.Ytdhompiapklnaaa
