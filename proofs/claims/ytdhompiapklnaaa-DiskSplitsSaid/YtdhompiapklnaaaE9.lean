/-
  The document's Crash.
-/
import Derived.Test.YtdhompiapklnaaaE8
namespace Go.Proofs.Ytdhompiapklnaaa
open Go.RowKit
attribute [local go_sem ↓] Try.z39 Try.z86 Try.z75 Try.z32

theorem Own.only8 {w w' : World} {v : Value} {l : List (List Value)} {g : Nat} {c : Array Value} (h : Own w 0 39 64 v l) (ho : Only g w w') (hb : Blk w g 32 c) : Own w' 0 39 64 v l :=
  h.keep fun g2 _ _ _ hb2 => ho.block g2 (hb2.ne hb (by decide))
theorem Own.set8 {w : World} {v : Value} {l : List (List Value)} {g : Nat} {c : Array Value} (h : Own w 0 39 64 v l) (hb : Blk w g 32 c) (i : Nat) (u : Value) : Own (w.setCell ⟨g, i, none⟩ u) 0 39 64 v l :=
  h.keep fun g2 _ _ _ hb2 => Below.heap_setCell _ ⟨g, i, none⟩ _ g2 (hb2.ne hb (by decide))
theorem SW8.set4 {w0 w : World} {g4 : Nat} {rI r4 : List Value} {c2 : Array Value} (s : SW8 w0 g4 rI r4 c2 w) (i : Nat) (u : Value) (r : List Value) (hr : r4.toArray.setIfInBounds i u = r.toArray) : SW8 w0 g4 rI r c2 (w.setCell ⟨g4, i, none⟩ u) :=
  have l := s.lo
  ⟨s.below.setCell (p := ⟨g4, i, none⟩) (by show w0.heap.size ≤ g4; omega) u, s.bi.far (p := ⟨g4, i, none⟩) (by show w0.heap.size ≠ g4; omega) u, s.b2.far (p := ⟨g4, i, none⟩) (by show w0.heap.size + 1 ≠ g4; omega) u, by rw [← hr]; exact s.b4.set_ i u, l⟩
/-- Where one stands ahead of the result's own block. -/
structure CW9 (w0 : World) (rI : List Value) (c2 : Array Value) (w : World) : Prop where
  below : Below w0.heap.size w0 w
  bi : Blk w w0.heap.size 32 rI.toArray
  b2 : Blk w (w0.heap.size + 1) 32 c2
theorem CW9.low {w0 w w' : World} {rI : List Value} {c2 : Array Value} (s : CW9 w0 rI c2 w) (k : Below w.heap.size w w') : CW9 w0 rI c2 w' :=
  ⟨s.below.trans (k.mono s.below.size), s.bi.below k s.bi.lt, s.b2.below k s.b2.lt⟩
theorem CW9.new {w0 w : World} {rI : List Value} {c2 : Array Value} (s : CW9 w0 rI c2 w) : SW8 w0 w.heap.size rI ZZ.toList c2 (w.alloc (.cells ZZ 32)) :=
  ⟨s.below.alloc s.below.size _, s.bi.alloc _, s.b2.alloc _, Blk.new w 32 _, s.b2.lt⟩

/-- What Crash leaves. -/
def RCrash (F : Nat → Prop) (w : World) (S' : DSt) (e : Ending) (w' : World) : Prop := ∃ r, e = .returned (.agg r.toArray) ∧ RRow F w' S' r ∧ Below w.heap.size w w'

set_option linter.unusedSimpArgs false in
set_option linter.unusedVariables false in
set_option maxRecDepth 100000 in
set_option maxHeartbeats 4000000 in
theorem refcrash_any (Ah : Option Addr) (ch : Nat) (Aq : Option Addr) (cq : Nat) (S : DSt) (ok : S.ok) (hq : S.q.length ≤ 1000000) (hn : S.has.length ≤ 1000000) (hn0 : 0 < S.has.length) (dm : Int) (A : Option Addr) (c : Nat) (ks : List Bool) (hl : ks.length ≤ 9223372036854775807) (w : World) (hk : Bs w w.heap.size A ks)
    (oh : Own w 0 39 64 (.slice Ah S.has.length ch) S.has) (oq : Own w 0 75 65 (.slice Aq S.q.length cq) (S.q.map put1)) (F : Nat → Prop) (hF : ∀ g, w.heap.size ≤ g → F g) (hA : ∀ g, Ah = some ⟨g, 0, none⟩ → F g) :
    Calls Try.prog 36 #[.agg (rrow Ah S.has.length ch Aq S.q.length cq S.armed dm S.dead S.ops).toArray, .slice A ks.length c] w (RCrash F w (crashed S ks)) := by
  have HF := Lib.hid hF
  have HA := Lib.hid hA
  clear hF hA
  have DN : Hid (∀ W, Below w.heap.size w W → Calls Try.prog 58 #[.int .i64 (S.q.length : Int), .slice A ks.length c] W (RDone W S.q.length ks)) := fun W hb => refdone_any _ hq A c ks hl W ((hk.below hb).more hb.size)
  have DO : Hid (∀ W, Below w.heap.size w W → ∀ g6, Blk W g6 4 (rowB S.q.length (dn S.q.length ks)).toArray → Calls Try.prog 57 #[.agg (rrow Ah S.has.length ch Aq S.q.length cq S.armed dm S.dead S.ops).toArray, .slice (some ⟨g6, 0, none⟩) S.q.length S.q.length] W
      fun e w' => ∃ g c', e = .returned (.agg (rrow (some ⟨g, 0, none⟩) S.has.length c' none 0 0 S.armed dm S.dead S.ops).toArray) ∧ Own w' 0 39 64 (.slice (some ⟨g, 0, none⟩) S.has.length c') (crashed S ks).has ∧ Below W.heap.size W w' ∧ w.heap.size ≤ g) := fun W hb g6 hg => by
    have hll : ((List.range S.q.length).map (dn S.q.length ks)).length = S.q.length := by simp
    have h := refdo_any Ah ch Aq cq S ok hq hn hn0 S.armed dm S.dead S.ops (some ⟨g6, 0, none⟩) S.q.length _ hll W (oh.below hb) (oq.below hb) (rowB_bs hg)
    rw [hll] at h
    refine h.mono ?_
    rintro e w' ⟨g, c', rfl, ho, hB⟩
    rw [doN_congr (d' := dn S.q.length ks) S.q S.has S.q.length (fun k hk => kept_row _ hk)] at ho
    exact ⟨g, c', rfl, ho.down (Nat.zero_le _), hB, Nat.le_trans hb.size (Nat.le_trans (Nat.le_add_right _ 2) (Own.base_le ho))⟩
  have FIN : Hid (∀ g c' W, Own W 0 39 64 (.slice (some ⟨g, 0, none⟩) S.has.length c') (crashed S ks).has → w.heap.size ≤ g → RRow F W (crashed S ks) (rrow (some ⟨g, 0, none⟩) S.has.length c' none 0 0 (-1) (-1) false S.ops)) := fun g c' W h hge => by
    have e : (crashed S ks).has.length = S.has.length := doN_len _ _ _ _
    exact ⟨some ⟨g, 0, none⟩, c', none, 0, -1, fun _ => rfl, by rw [e]; rfl, by rw [e]; exact h, Own.nil _ _ _ _, fun g2 e => by injection e with e; injection e with e; subst e; exact HF.out _ hge⟩
  have X0 : Hid (CW9 w (rrow Ah S.has.length ch Aq S.q.length cq S.armed dm S.dead S.ops) ZZ ((w.alloc (.cells (rrow Ah S.has.length ch Aq S.q.length cq S.armed dm S.dead S.ops).toArray 32)).alloc (.cells ZZ 32))) :=
    ⟨((Below.refl _ w).alloc (Nat.le_refl _) _).alloc (by simp) _, (Blk.new w 32 _).alloc _, Blk.new' _ 32 _ (by simp)⟩
  have HS : Hid (∀ W, Blk W w.heap.size 32 (rrow Ah S.has.length ch Aq S.q.length cq S.armed dm S.dead S.ops).toArray → W.rangeAt w.heap.size 0 (rrow Ah S.has.length ch Aq S.q.length cq S.armed dm S.dead S.ops) ∧ W.cell? ⟨w.heap.size, 1, none⟩ = some (.slice Aq S.q.length cq)) := fun W h => ⟨h.rng, h.cell 1⟩
  have iI : Hid ((Try.prog.info? 32).map (·.size) = some (rrow Ah S.has.length ch Aq S.q.length cq S.armed dm S.dead S.ops).length) := Try.i32
  clear oh oq ok hk
  generalize rrow Ah S.has.length ch Aq S.q.length cq S.armed dm S.dead S.ops = rI at *
  go_enter Try.func36, Try.ntmps36
  go_upto_region 1 with (fail)
  generalize (w.alloc (.cells rI.toArray 32)).alloc (.cells ZZ 32) = W0 at *
  have X1 : Hid (CW9 w rI ZZ W0.drew) := ⟨X0.out.below.drew, X0.out.bi, X0.out.b2⟩
  clear X0
  have hS0 : W0.drew.rangeAt w.heap.size 0 rI ∧ W0.drew.cell? ⟨w.heap.size, 1, none⟩ = some (.slice Aq S.q.length cq) := HS.out _ X1.out.bi
  refine wp_region_noPanic ?_
  refine wp_region_held_drew (S := fun w' => w'.rangeAt w.heap.size 0 rI ∧ w'.cell? ⟨w.heap.size, 1, none⟩ = some (.slice Aq S.q.length cq)) (by kernel_rfl) hS0 (fun hHeld => ?_)
  refine take_d (i := 0) (d := 6) (v := .agg rI.toArray) rfl rfl (by kernel_rfl) (by kernel_rfl) (by kernel_rfl) (fun _ _ _ h => h) (yieldsIf_load_mid (by kernel_rfl) _ _ rfl _ _ rfl _ _ (fun w h => h.1) Try.underlying32 rfl iI.out) hHeld ?_
  try simp only [Act.put, List.setIfInBounds_toArray, List.set_cons_zero, List.set_cons_succ]
  refine take_d (i := 1) (d := 7) (v := .pointer (some ⟨w.heap.size, 1, none⟩)) rfl rfl (by kernel_rfl) (by kernel_rfl) (by kernel_rfl) (fun _ _ _ h => h) (Or.inl ⟨by kernel_rfl, fun w hSw => by go_simp⟩) hHeld ?_
  try simp only [Act.put, List.setIfInBounds_toArray, List.set_cons_zero, List.set_cons_succ]
  refine take_d (i := 2) (d := 8) (v := .slice Aq S.q.length cq) rfl rfl (by kernel_rfl) (by kernel_rfl) (by kernel_rfl) (fun _ _ _ h => h) (Or.inl ⟨by kernel_rfl, fun w hSw => by obtain ⟨s0, s1⟩ := hSw; go_simp⟩) hHeld ?_
  try simp only [Act.put, List.setIfInBounds_toArray, List.set_cons_zero, List.set_cons_succ]
  refine take_d (i := 3) (d := 9) (v := .int .i64 (S.q.length : Int)) rfl rfl (by kernel_rfl) (by kernel_rfl) (by kernel_rfl) (fun _ _ _ h => h) (Or.inl ⟨by kernel_rfl, fun w hSw => by go_simp⟩) hHeld ?_
  try simp only [Act.put, List.setIfInBounds_toArray, List.set_cons_zero, List.set_cons_succ]
  refine take_d (i := 4) (d := 10) (v := .slice A ks.length c) rfl rfl (by kernel_rfl) (by kernel_rfl) (by kernel_rfl) (fun _ _ _ h => h) (Or.inl ⟨by kernel_rfl, fun w hSw => by go_simp⟩) hHeld ?_
  try simp only [Act.put, List.setIfInBounds_toArray, List.set_cons_zero, List.set_cons_succ]
  clear hS0
  generalize W0.drew = W1 at *
  refine wpAnyH_ready (rs := [5, 7]) (by kernel_rfl) (by simp) ?_
  refine AllReadyH.cons rfl (fun K hK => ?_) (AllReadyH.cons rfl (fun K hK => ?_) AllReadyH.nil)
  · skip
    go_simp
    refine (DN.out _ X1.out.below).mono ?_
    rintro e wa ⟨rfl, hbr, ka⟩
    have BR := Lib.hid hbr
    have X2 := Lib.hid (X1.out.low ka)
    clear hbr ka
    refine hK.out _ _ (HS.out _ X2.out.bi) (fun hHeld => ?_)
    clear hK K
    try simp only [Act.put, List.setIfInBounds_toArray, List.set_cons_zero, List.set_cons_succ]
    refine wpAnyH_ready (rs := [6, 7]) (by kernel_rfl) (by simp) ?_
    refine AllReadyH.cons rfl (fun K hK => ?_) (AllReadyH.cons rfl (fun K hK => ?_) AllReadyH.nil)
    · skip
      go_simp
      refine (DO.out _ X2.out.below _ BR.out).mono ?_
      rintro e wb ⟨g, c', rfl, hoh, kb, hge⟩
      have HGE := Lib.hid hge
      clear hge
      have RN := Lib.hid hoh
      have X3 := Lib.hid (X2.out.low kb)
      clear hoh kb
      refine hK.out _ _ (HS.out _ X3.out.bi) (fun hHeld => ?_)
      clear hK K
      try simp only [Act.put, List.setIfInBounds_toArray, List.set_cons_zero, List.set_cons_succ]
      refine wpAnyH_ready (rs := [7]) (by kernel_rfl) (by simp) ?_
      refine AllReadyH.cons rfl (fun K hK => ?_) AllReadyH.nil
      go_simp
      have X4 := Lib.hid X3.out.new
      refine hK.out _ _ (HS.out _ X4.out.bi) (fun hHeld => ?_)
      clear hK K
      try simp only [Act.put, List.setIfInBounds_toArray, List.set_cons_zero, List.set_cons_succ]
      refine wpAnyH_ready (rs := [8]) (by kernel_rfl) (by simp) ?_
      refine AllReadyH.cons rfl (fun K hK => ?_) AllReadyH.nil
      rw [if_pos (by kernel_rfl)]
      refine wp_store_blk 32 _ _ rfl _ ZZ 32 (rrow (some ⟨g, 0, none⟩) S.has.length c' none 0 0 S.armed dm S.dead S.ops) rfl rfl X4.out.b4 rfl Try.i32 (rrow_one _ _ _ _ _ _ _ _ _ _) ?_
      intro w8 hb8 ho8
      have X8 := Lib.hid (X4.out.put4 ho8 hb8)
      have R8 := Lib.hid (Own.only8 (RN.out.alloc _) ho8 X4.out.b4)
      clear hb8 ho8
      refine hK.out _ _ (HS.out _ X8.out.bi) (fun hHeld => ?_)
      clear hK K
      try simp only [Act.put, List.setIfInBounds_toArray, List.set_cons_zero, List.set_cons_succ]
      refine wpAnyH_done (by kernel_rfl) ?_ _
      refine NoPanic.normal ?_
      have R9 := Lib.hid (((R8.out.set8 X8.out.b4 4 (.bool false)).set8 (X8.out.b4.set_ 4 _) 2 (.int .i64 (-1))).set8 ((X8.out.b4.set_ 4 _).set_ 2 _) 3 (.int .i64 (-1)))
      have EX : Hid (SW8 w _ rI (rrow (some ⟨g, 0, none⟩) S.has.length c' none 0 0 (-1) (-1) false S.ops) ZZ _) := ((X8.out.set4 4 (.bool false) (rrow (some ⟨g, 0, none⟩) S.has.length c' none 0 0 S.armed dm false S.ops) rfl).set4 2 (.int .i64 (-1)) (rrow (some ⟨g, 0, none⟩) S.has.length c' none 0 0 (-1) dm false S.ops) rfl).set4 3 (.int .i64 (-1)) (rrow (some ⟨g, 0, none⟩) S.has.length c' none 0 0 (-1) (-1) false S.ops) rfl
      have x2 := X8.out.b4.cell 2
      have f2 := X8.out.b4.frozen 2
      rw [show (rrow (some ⟨g, 0, none⟩) S.has.length c' none 0 0 S.armed dm S.dead S.ops).toArray[2]? = some (.int .i64 S.armed) from rfl] at x2
      have x3 := X8.out.b4.cell 3
      have f3 := X8.out.b4.frozen 3
      rw [show (rrow (some ⟨g, 0, none⟩) S.has.length c' none 0 0 S.armed dm S.dead S.ops).toArray[3]? = some (.int .i64 dm) from rfl] at x3
      have x4 := X8.out.b4.cell 4
      have f4 := X8.out.b4.frozen 4
      rw [show (rrow (some ⟨g, 0, none⟩) S.has.length c' none 0 0 S.armed dm S.dead S.ops).toArray[4]? = some (.bool S.dead) from rfl] at x4
      clear DN DO X8 R8 hHeld
      go_wp2_with (first
        | ((with_reducible refine at_load (t := 32) ?_); refine wpList_load_mid rfl 32 _ rfl _ 0 rfl (rrow (some ⟨g, 0, none⟩) S.has.length c' none 0 0 (-1) (-1) false S.ops) _ EX.out.b4.rng Try.underlying32 rfl Try.i32 ?_)
        | ((with_reducible refine at_store (t := 32) ?_); refine wpList_store_blk _ rfl 32 _ _ rfl (w.heap.size + 1) ZZ 32 (rrow (some ⟨g, 0, none⟩) S.has.length c' none 0 0 (-1) (-1) false S.ops) rfl rfl EX.out.b2 rfl Try.i32 (rrow_one _ _ _ _ _ _ _ _ _ _) ?_; intro w9 hb9 ho9))
      refine bodyPost_ret (results_cell_row (p := 4) (ty := 32) rfl _ _ (w.heap.size + 1) 32 _ (0, 0) _ rfl hb9 Try.underlying32 rfl Try.i32) rfl ?_
      exact ⟨_, rfl, FIN.out _ _ _ (Own.only8 R9.out ho9 EX.out.b2) HGE.out, EX.out.below.trans (ho9.below (by omega))⟩
    · skip
      go_simp
      have X3 := Lib.hid X2.out.new
      refine hK.out _ _ (HS.out _ X3.out.bi) (fun hHeld => ?_)
      clear hK K
      try simp only [Act.put, List.setIfInBounds_toArray, List.set_cons_zero, List.set_cons_succ]
      refine wpAnyH_ready (rs := [6]) (by kernel_rfl) (by simp) ?_
      refine AllReadyH.cons rfl (fun K hK => ?_) AllReadyH.nil
      go_simp
      refine (DO.out _ X3.out.below _ (BR.out.alloc _)).mono ?_
      rintro e wb ⟨g, c', rfl, hoh, kb, hge⟩
      have HGE := Lib.hid hge
      clear hge
      have RN := Lib.hid hoh
      have X4 := Lib.hid (X3.out.low kb)
      clear hoh kb
      refine hK.out _ _ (HS.out _ X4.out.bi) (fun hHeld => ?_)
      clear hK K
      try simp only [Act.put, List.setIfInBounds_toArray, List.set_cons_zero, List.set_cons_succ]
      refine wpAnyH_ready (rs := [8]) (by kernel_rfl) (by simp) ?_
      refine AllReadyH.cons rfl (fun K hK => ?_) AllReadyH.nil
      rw [if_pos (by kernel_rfl)]
      refine wp_store_blk 32 _ _ rfl _ ZZ 32 (rrow (some ⟨g, 0, none⟩) S.has.length c' none 0 0 S.armed dm S.dead S.ops) rfl rfl X4.out.b4 rfl Try.i32 (rrow_one _ _ _ _ _ _ _ _ _ _) ?_
      intro w8 hb8 ho8
      have X8 := Lib.hid (X4.out.put4 ho8 hb8)
      have R8 := Lib.hid (Own.only8 RN.out ho8 X4.out.b4)
      clear hb8 ho8
      refine hK.out _ _ (HS.out _ X8.out.bi) (fun hHeld => ?_)
      clear hK K
      try simp only [Act.put, List.setIfInBounds_toArray, List.set_cons_zero, List.set_cons_succ]
      refine wpAnyH_done (by kernel_rfl) ?_ _
      refine NoPanic.normal ?_
      have R9 := Lib.hid (((R8.out.set8 X8.out.b4 4 (.bool false)).set8 (X8.out.b4.set_ 4 _) 2 (.int .i64 (-1))).set8 ((X8.out.b4.set_ 4 _).set_ 2 _) 3 (.int .i64 (-1)))
      have EX : Hid (SW8 w _ rI (rrow (some ⟨g, 0, none⟩) S.has.length c' none 0 0 (-1) (-1) false S.ops) ZZ _) := ((X8.out.set4 4 (.bool false) (rrow (some ⟨g, 0, none⟩) S.has.length c' none 0 0 S.armed dm false S.ops) rfl).set4 2 (.int .i64 (-1)) (rrow (some ⟨g, 0, none⟩) S.has.length c' none 0 0 (-1) dm false S.ops) rfl).set4 3 (.int .i64 (-1)) (rrow (some ⟨g, 0, none⟩) S.has.length c' none 0 0 (-1) (-1) false S.ops) rfl
      have x2 := X8.out.b4.cell 2
      have f2 := X8.out.b4.frozen 2
      rw [show (rrow (some ⟨g, 0, none⟩) S.has.length c' none 0 0 S.armed dm S.dead S.ops).toArray[2]? = some (.int .i64 S.armed) from rfl] at x2
      have x3 := X8.out.b4.cell 3
      have f3 := X8.out.b4.frozen 3
      rw [show (rrow (some ⟨g, 0, none⟩) S.has.length c' none 0 0 S.armed dm S.dead S.ops).toArray[3]? = some (.int .i64 dm) from rfl] at x3
      have x4 := X8.out.b4.cell 4
      have f4 := X8.out.b4.frozen 4
      rw [show (rrow (some ⟨g, 0, none⟩) S.has.length c' none 0 0 S.armed dm S.dead S.ops).toArray[4]? = some (.bool S.dead) from rfl] at x4
      clear DN DO X8 R8 hHeld
      go_wp2_with (first
        | ((with_reducible refine at_load (t := 32) ?_); refine wpList_load_mid rfl 32 _ rfl _ 0 rfl (rrow (some ⟨g, 0, none⟩) S.has.length c' none 0 0 (-1) (-1) false S.ops) _ EX.out.b4.rng Try.underlying32 rfl Try.i32 ?_)
        | ((with_reducible refine at_store (t := 32) ?_); refine wpList_store_blk _ rfl 32 _ _ rfl (w.heap.size + 1) ZZ 32 (rrow (some ⟨g, 0, none⟩) S.has.length c' none 0 0 (-1) (-1) false S.ops) rfl rfl EX.out.b2 rfl Try.i32 (rrow_one _ _ _ _ _ _ _ _ _ _) ?_; intro w9 hb9 ho9))
      refine bodyPost_ret (results_cell_row (p := 4) (ty := 32) rfl _ _ (w.heap.size + 1) 32 _ (0, 0) _ rfl hb9 Try.underlying32 rfl Try.i32) rfl ?_
      exact ⟨_, rfl, FIN.out _ _ _ (Own.only8 R9.out ho9 EX.out.b2) HGE.out, EX.out.below.trans (ho9.below (by omega))⟩
  · skip
    go_simp
    have X2 := Lib.hid X1.out.new
    refine hK.out _ _ (HS.out _ X2.out.bi) (fun hHeld => ?_)
    clear hK K
    try simp only [Act.put, List.setIfInBounds_toArray, List.set_cons_zero, List.set_cons_succ]
    generalize W1.alloc (.cells ZZ 32) = W2 at *
    generalize W1.heap.size = g5 at *
    refine wpAnyH_ready (rs := [5]) (by kernel_rfl) (by simp) ?_
    refine AllReadyH.cons rfl (fun K hK => ?_) AllReadyH.nil
    go_simp
    refine (DN.out _ X2.out.below).mono ?_
    rintro e wa ⟨rfl, hbr, ka⟩
    have BR := Lib.hid hbr
    have X3 := Lib.hid (X2.out.low ka)
    clear hbr ka
    refine hK.out _ _ (HS.out _ X3.out.bi) (fun hHeld => ?_)
    clear hK K
    try simp only [Act.put, List.setIfInBounds_toArray, List.set_cons_zero, List.set_cons_succ]
    refine wpAnyH_ready (rs := [6]) (by kernel_rfl) (by simp) ?_
    refine AllReadyH.cons rfl (fun K hK => ?_) AllReadyH.nil
    go_simp
    refine (DO.out _ X3.out.below _ BR.out).mono ?_
    rintro e wb ⟨g, c', rfl, hoh, kb, hge⟩
    have HGE := Lib.hid hge
    clear hge
    have RN := Lib.hid hoh
    have X4 := Lib.hid (X3.out.low kb)
    clear hoh kb
    refine hK.out _ _ (HS.out _ X4.out.bi) (fun hHeld => ?_)
    clear hK K
    try simp only [Act.put, List.setIfInBounds_toArray, List.set_cons_zero, List.set_cons_succ]
    refine wpAnyH_ready (rs := [8]) (by kernel_rfl) (by simp) ?_
    refine AllReadyH.cons rfl (fun K hK => ?_) AllReadyH.nil
    rw [if_pos (by kernel_rfl)]
    refine wp_store_blk 32 _ _ rfl _ ZZ 32 (rrow (some ⟨g, 0, none⟩) S.has.length c' none 0 0 S.armed dm S.dead S.ops) rfl rfl X4.out.b4 rfl Try.i32 (rrow_one _ _ _ _ _ _ _ _ _ _) ?_
    intro w8 hb8 ho8
    have X8 := Lib.hid (X4.out.put4 ho8 hb8)
    have R8 := Lib.hid (Own.only8 RN.out ho8 X4.out.b4)
    clear hb8 ho8
    refine hK.out _ _ (HS.out _ X8.out.bi) (fun hHeld => ?_)
    clear hK K
    try simp only [Act.put, List.setIfInBounds_toArray, List.set_cons_zero, List.set_cons_succ]
    refine wpAnyH_done (by kernel_rfl) ?_ _
    refine NoPanic.normal ?_
    have R9 := Lib.hid (((R8.out.set8 X8.out.b4 4 (.bool false)).set8 (X8.out.b4.set_ 4 _) 2 (.int .i64 (-1))).set8 ((X8.out.b4.set_ 4 _).set_ 2 _) 3 (.int .i64 (-1)))
    have EX : Hid (SW8 w _ rI (rrow (some ⟨g, 0, none⟩) S.has.length c' none 0 0 (-1) (-1) false S.ops) ZZ _) := ((X8.out.set4 4 (.bool false) (rrow (some ⟨g, 0, none⟩) S.has.length c' none 0 0 S.armed dm false S.ops) rfl).set4 2 (.int .i64 (-1)) (rrow (some ⟨g, 0, none⟩) S.has.length c' none 0 0 (-1) dm false S.ops) rfl).set4 3 (.int .i64 (-1)) (rrow (some ⟨g, 0, none⟩) S.has.length c' none 0 0 (-1) (-1) false S.ops) rfl
    have x2 := X8.out.b4.cell 2
    have f2 := X8.out.b4.frozen 2
    rw [show (rrow (some ⟨g, 0, none⟩) S.has.length c' none 0 0 S.armed dm S.dead S.ops).toArray[2]? = some (.int .i64 S.armed) from rfl] at x2
    have x3 := X8.out.b4.cell 3
    have f3 := X8.out.b4.frozen 3
    rw [show (rrow (some ⟨g, 0, none⟩) S.has.length c' none 0 0 S.armed dm S.dead S.ops).toArray[3]? = some (.int .i64 dm) from rfl] at x3
    have x4 := X8.out.b4.cell 4
    have f4 := X8.out.b4.frozen 4
    rw [show (rrow (some ⟨g, 0, none⟩) S.has.length c' none 0 0 S.armed dm S.dead S.ops).toArray[4]? = some (.bool S.dead) from rfl] at x4
    clear DN DO X8 R8 hHeld
    go_wp2_with (first
      | ((with_reducible refine at_load (t := 32) ?_); refine wpList_load_mid rfl 32 _ rfl _ 0 rfl (rrow (some ⟨g, 0, none⟩) S.has.length c' none 0 0 (-1) (-1) false S.ops) _ EX.out.b4.rng Try.underlying32 rfl Try.i32 ?_)
      | ((with_reducible refine at_store (t := 32) ?_); refine wpList_store_blk _ rfl 32 _ _ rfl (w.heap.size + 1) ZZ 32 (rrow (some ⟨g, 0, none⟩) S.has.length c' none 0 0 (-1) (-1) false S.ops) rfl rfl EX.out.b2 rfl Try.i32 (rrow_one _ _ _ _ _ _ _ _ _ _) ?_; intro w9 hb9 ho9))
    refine bodyPost_ret (results_cell_row (p := 4) (ty := 32) rfl _ _ (w.heap.size + 1) 32 _ (0, 0) _ rfl hb9 Try.underlying32 rfl Try.i32) rfl ?_
    exact ⟨_, rfl, FIN.out _ _ _ (Own.only8 R9.out ho9 EX.out.b2) HGE.out, EX.out.below.trans (ho9.below (by omega))⟩

end Go.Proofs.Ytdhompiapklnaaa
