/-
  The document's Read.
-/
import Derived.Test.YtdhompiapklnaaaE4
namespace Go.Proofs.Ytdhompiapklnaaa
open Go.RowKit
attribute [local go_sem ↓] Try.z39 Try.z86 Try.z75 Try.z32

theorem Blk.drewR {w : World} {g : Nat} {t : TypeId} {cs : Array Value} (h : Blk w g t cs) : Blk w.drew g t cs := h
/-- Where one stands: what came in, what goes out, both results. -/
structure RW5 (w0 : World) (g7 : Nat) (rI rO : List Value) (c4 c5 : Array Value) (w : World) : Prop where
  below : Below w0.heap.size w0 w
  bi : Blk w w0.heap.size 32 rI.toArray
  b4 : Blk w (w0.heap.size + 1) 32 c4
  b5 : Blk w (w0.heap.size + 1 + 1) 39 c5
  bo : Blk w g7 32 rO.toArray
  lo : w0.heap.size + 1 + 1 < g7
section
variable {w0 w w' : World} {g7 : Nat} {rI rO : List Value} {c4 c5 : Array Value}
theorem RW5.low (s : RW5 w0 g7 rI rO c4 c5 w) (k : Below w.heap.size w w') : RW5 w0 g7 rI rO c4 c5 w' :=
  ⟨s.below.trans (k.mono s.below.size), s.bi.below k s.bi.lt, s.b4.below k s.b4.lt, s.b5.below k s.b5.lt, s.bo.below k s.bo.lt, s.lo⟩
theorem RW5.drew (s : RW5 w0 g7 rI rO c4 c5 w) : RW5 w0 g7 rI rO c4 c5 w.drew := ⟨s.below.drew, s.bi, s.b4, s.b5, s.bo, s.lo⟩
theorem RW5.put1 (s : RW5 w0 g7 rI rO c4 c5 w) {c : Array Value} (ho : Only (w0.heap.size + 1) w w') (hb : Blk w' (w0.heap.size + 1) 32 c) : RW5 w0 g7 rI rO c c5 w' :=
  ⟨s.below.trans (ho.below (by omega)), ho.keep s.bi (by omega), hb, ho.keep s.b5 (by omega), ho.keep s.bo (by have := s.lo; omega), s.lo⟩
theorem RW5.put2 (s : RW5 w0 g7 rI rO c4 c5 w) {c : Array Value} (ho : Only (w0.heap.size + 1 + 1) w w') (hb : Blk w' (w0.heap.size + 1 + 1) 39 c) : RW5 w0 g7 rI rO c4 c w' :=
  ⟨s.below.trans (ho.below (by omega)), ho.keep s.bi (by omega), ho.keep s.b4 (by omega), hb, ho.keep s.bo (by have := s.lo; omega), s.lo⟩
end

/-- What Read leaves. -/
def RRead (w : World) (Ah : Option Addr) (nh ch : Nat) (Aq : Option Addr) (nq cq : Nat) (S S' : DSt) (i er : Int) (e : Ending) (w' : World) : Prop :=
  ∃ dm, (S'.dead = false → dm = S'.doomed) ∧ e = .returned (.tuple #[.agg (rrow Ah nh ch Aq nq cq S'.armed dm S'.dead S'.ops).toArray, .agg (readB S i).toArray, .int .i64 er]) ∧ Below w.heap.size w w'
theorem buildZ39 (w : World) : (Instr.build 39 #[]).run Try.prog w = .ok (.agg Z0.toArray) w := run_build w 39 _ _ (by kernel_rfl)

set_option linter.unusedSimpArgs false in
set_option maxRecDepth 100000 in
set_option maxHeartbeats 2000000 in
theorem refread_any (Ah : Option Addr) (ch : Nat) (Aq : Option Addr) (cq : Nat) (S : DSt) (ok : S.ok) (hq : S.q.length ≤ 1000000) (hn : S.has.length ≤ 1000000) (dm i : Int) (w : World) (hd : S.dead = false → dm = S.doomed)
    (oh : Own w 0 39 64 (.slice Ah S.has.length ch) S.has) (oq : Own w 0 75 65 (.slice Aq S.q.length cq) (S.q.map put1)) :
    Calls Try.prog 38 #[.agg (rrow Ah S.has.length ch Aq S.q.length cq S.armed dm S.dead S.ops).toArray, .int .i64 i] w (RRead w Ah S.has.length ch Aq S.q.length cq S (askSt S false i) i (askErr S false i)) := by
  have AK := Lib.hid (fun w => refasked_any Ah ch Aq S.q.length cq S ok (by omega) dm i false w hd)
  have hB0 : Hid (Below w.heap.size w (((w.alloc (.cells (rrow Ah S.has.length ch Aq S.q.length cq S.armed dm S.dead S.ops).toArray 32)).alloc (.cells ZZ 32)).alloc (.cells Z0.toArray 39))) := (((Below.refl _ w).alloc (Nat.le_refl _) _).alloc (by simp) _).alloc (by simp; omega) _
  have bI : Hid (Blk (((w.alloc (.cells (rrow Ah S.has.length ch Aq S.q.length cq S.armed dm S.dead S.ops).toArray 32)).alloc (.cells ZZ 32)).alloc (.cells Z0.toArray 39)) w.heap.size 32 (rrow Ah S.has.length ch Aq S.q.length cq S.armed dm S.dead S.ops).toArray) := ((Blk.new w 32 _).alloc _).alloc _
  have b4 : Hid (Blk (((w.alloc (.cells (rrow Ah S.has.length ch Aq S.q.length cq S.armed dm S.dead S.ops).toArray 32)).alloc (.cells ZZ 32)).alloc (.cells Z0.toArray 39)) (w.heap.size + 1) 32 ZZ) := (Blk.new' _ 32 _ (by simp)).alloc _
  have b5 : Hid (Blk (((w.alloc (.cells (rrow Ah S.has.length ch Aq S.q.length cq S.armed dm S.dead S.ops).toArray 32)).alloc (.cells ZZ 32)).alloc (.cells Z0.toArray 39)) (w.heap.size + 1 + 1) 39 Z0.toArray) := Blk.new' _ 39 _ (by simp)
  have RR0 : Hid (askErr S false i = 0 → ∀ W, Below w.heap.size w W → Calls Try.prog 40 #[.agg (rrow Ah S.has.length ch Aq S.q.length cq S.armed dm S.dead S.ops).toArray, .int .i64 i] W fun e w' => e = .returned (.agg (readAs S i).toArray) ∧ Below W.heap.size W w') := fun he W hb => by
    obtain ⟨_, i0, i1⟩ := askErr_ok he
    obtain ⟨k, rfl⟩ := Int.eq_ofNat_of_zero_le i0
    exact refreads_any Ah ch Aq cq S ok hq S.armed dm S.dead S.ops k (by omega) W (oh.below hb) (oq.below hb)
  have RB : Hid (B64 (readB S i)) := readB_ok ok i
  have RA : Hid (askErr S false i = 0 → readB S i = readAs S i) := fun he => if_pos he
  have RZ : Hid (askErr S false i ≠ 0 → readB S i = Z0) := fun he => if_neg he
  have oI : Hid (∀ v ∈ rrow Ah S.has.length ch Aq S.q.length cq S.armed dm S.dead S.ops, v.oneCell' = true) := rrow_one _ _ _ _ _ _ _ _ _ _
  have iI : Hid ((Try.prog.info? 32).map (·.size) = some (rrow Ah S.has.length ch Aq S.q.length cq S.armed dm S.dead S.ops).length) := Try.i32
  clear oh oq ok
  generalize rrow Ah S.has.length ch Aq S.q.length cq S.armed dm S.dead S.ops = rI at *
  go_enter Try.func38, Try.ntmps38
  go_upto_region 1 with (fail)
  generalize ((w.alloc (.cells rI.toArray 32)).alloc (.cells ZZ 32)).alloc (.cells Z0.toArray 39) = W0 at *
  go_wp2_with ((with_reducible refine at_load (t := 32) ?_); refine wpList_load_mid rfl 32 _ rfl w.heap.size 0 rfl rI _ bI.out.rng Try.underlying32 rfl iI.out ?_)
  refine (AK.out _).mono ?_
  rintro e w1 ⟨dm', hdm, rfl, k1⟩
  have HDM := Lib.hid hdm
  have oO : Hid (∀ v ∈ rrow Ah S.has.length ch Aq S.q.length cq (askSt S false i).armed dm' (askSt S false i).dead (askSt S false i).ops, v.oneCell' = true) := rrow_one _ _ _ _ _ _ _ _ _ _
  have iO : Hid ((Try.prog.info? 32).map (·.size) = some (rrow Ah S.has.length ch Aq S.q.length cq (askSt S false i).armed dm' (askSt S false i).dead (askSt S false i).ops).length) := Try.i32
  have iOA : Hid ((Try.prog.info? 32).map (·.size) = some (rrow Ah S.has.length ch Aq S.q.length cq (askSt S false i).armed dm' (askSt S false i).dead (askSt S false i).ops).toArray.size) := Try.i32
  have zO : Hid (ZZ.size = (rrow Ah S.has.length ch Aq S.q.length cq (askSt S false i).armed dm' (askSt S false i).dead (askSt S false i).ops).length) := show _ = _ from rfl
  have FIN : Hid (∀ (rb : Int), rb = askErr S false i → ∀ W, Below w.heap.size w W → RRead w Ah S.has.length ch Aq S.q.length cq S (askSt S false i) i (askErr S false i) (.returned (.tuple #[.agg (rrow Ah S.has.length ch Aq S.q.length cq (askSt S false i).armed dm' (askSt S false i).dead (askSt S false i).ops).toArray, .agg (readB S i).toArray, .int .i64 rb])) W) := fun rb hrb W hb => ⟨dm', HDM.out, by rw [hrb], hb⟩
  clear AK hdm
  obtain ⟨rO, hrO⟩ : ∃ r, r = rrow Ah S.has.length ch Aq S.q.length cq (askSt S false i).armed dm' (askSt S false i).dead (askSt S false i).ops := ⟨_, rfl⟩
  rw [← hrO] at oO iO iOA zO FIN
  rw [← hrO]
  have X1 : Hid (∀ w2, Blk w2 w1.heap.size 32 rO.toArray → Only w1.heap.size (w1.alloc (.cells ZZ 32)) w2 → RW5 w w1.heap.size rI rO ZZ Z0.toArray w2) := fun w2 hb ho =>
    have kk : Below W0.heap.size W0 w2 := k1.trans ((((Below.refl _ w1).alloc (Nat.le_refl _) _).trans (ho.below (Nat.le_refl _))).mono k1.size)
    ⟨hB0.out.trans (kk.mono hB0.out.size), bI.out.below kk bI.out.lt, b4.out.below kk b4.out.lt, b5.out.below kk b5.out.lt, hb, Nat.lt_of_lt_of_le b5.out.lt k1.size⟩
  clear hrO bI b4 b5 hB0 k1
  obtain ⟨er, her⟩ : ∃ x, x = askErr S false i := ⟨_, rfl⟩
  rw [← her] at RR0 RA RZ
  rw [← her]
  have HER := Lib.hid her
  clear her
  have X2 : Hid (∀ w2, Blk w2 w1.heap.size 32 rO.toArray → Only w1.heap.size (w1.alloc (.cells ZZ 32)) w2 → RW5 w w1.heap.size rI rO ZZ Z0.toArray w2) := X1
  clear X1
  by_cases he : er = 0
  · have hne : (er != 0) = false := by rw [he]; rfl
    have RR := Lib.hid (RR0.out he)
    have RA1 := Lib.hid (RA.out he)
    have RB1 : Hid (B64 (readAs S i)) := by rw [← RA1.out]; exact RB.out
    clear he RR0 RA RZ RB
    go_wp2_with ((with_reducible refine at_store (t := 32) ?_); refine wpList_store_blk _ rfl 32 _ _ rfl w1.heap.size ZZ 32 rO rfl rfl (Blk.new w1 32 _) zO.out iO.out oO.out ?_; intro W3 hb3 ho3; have X3 := Lib.hid (X2.out _ hb3 ho3); clear X2 hb3 ho3; generalize w1.heap.size = g7 at *)
    have KW3 : Hid (Below w.heap.size w W3.drew) := X3.out.below.drew
    have HO := Lib.hid X3.out.bo
    have HI := Lib.hid X3.out.bi
    have iB : Hid ((Try.prog.info? 39).map (·.size) = some (readAs S i).length) := show _ = _ by rw [RB1.out.1]; exact Try.i39
    have iBA : Hid ((Try.prog.info? 39).map (·.size) = some (readAs S i).toArray.size) := show _ = _ by rw [List.size_toArray, RB1.out.1]; exact Try.i39
    have zB : Hid (Z0.toArray.size = (readAs S i).length) := show _ = _ by rw [RB1.out.1]; rfl
    have oB := Lib.hid RB1.out.one
    rw [RA1.out] at FIN
    obtain ⟨B, hB⟩ : ∃ B, B = readAs S i := ⟨_, rfl⟩
    rw [← hB] at RR iB iBA zB oB FIN
    clear hB RB1 RA1
    have hS0 : W3.drew.rangeAt g7 0 rO ∧ W3.drew.rangeAt w.heap.size 0 rI := ⟨(HO.out.drewR).rng, (HI.out.drewR).rng⟩
    refine wp_region_noPanic ?_
    refine wp_region_held_drew (S := fun w' => w'.rangeAt g7 0 rO ∧ w'.rangeAt w.heap.size 0 rI) (by kernel_rfl) hS0 (fun hHeld => ?_)
    refine take_d (i := 0) (d := 20) (v := .agg rO.toArray) rfl rfl (by kernel_rfl) (by kernel_rfl) (by kernel_rfl) (fun _ _ _ h => h) (yieldsIf_load_mid (by kernel_rfl) _ _ rfl _ _ rfl _ _ (fun w h => h.1) Try.underlying32 rfl iO.out) hHeld ?_
    try simp only [Act.put, List.setIfInBounds_toArray, List.set_cons_zero, List.set_cons_succ]
    refine take_d (i := 1) (d := 21) (v := .agg rI.toArray) rfl rfl (by kernel_rfl) (by kernel_rfl) (by kernel_rfl) (fun _ _ _ h => h) (yieldsIf_load_mid (by kernel_rfl) _ _ rfl _ _ rfl _ _ (fun w h => h.2) Try.underlying32 rfl iI.out) hHeld ?_
    try simp only [Act.put, List.setIfInBounds_toArray, List.set_cons_zero, List.set_cons_succ]
    refine take_d (i := 2) (d := 22) (v := .int .i64 i) rfl rfl (by kernel_rfl) (by kernel_rfl) (by kernel_rfl) (fun _ _ _ h => h) (Or.inl ⟨by kernel_rfl, fun w hSw => by go_simp⟩) hHeld ?_
    try simp only [Act.put, List.setIfInBounds_toArray, List.set_cons_zero, List.set_cons_succ]
    refine take_d (i := 4) (d := 24) (v := .int .i64 er) rfl rfl (by kernel_rfl) (by kernel_rfl) (by kernel_rfl) (fun _ _ _ h => h) (Or.inl ⟨by kernel_rfl, fun w hSw => by go_simp⟩) hHeld ?_
    try simp only [Act.put, List.setIfInBounds_toArray, List.set_cons_zero, List.set_cons_succ]
    refine wpAnyH_ready (rs := [3]) (by kernel_rfl) (by simp) ?_
    refine AllReadyH.cons rfl (fun K hK => ?_) AllReadyH.nil
    go_simp
    refine (RR.out _ KW3.out).mono ?_
    rintro e w4 ⟨rfl, k4⟩
    have X4 := Lib.hid (X3.out.drew.low k4)
    refine hK.out _ _ ⟨X4.out.bo.rng, X4.out.bi.rng⟩ (fun hHeld => ?_)
    clear hK K
    try simp only [Act.put, List.setIfInBounds_toArray, List.set_cons_zero, List.set_cons_succ]
    refine wpAnyH_ready (rs := [5]) (by kernel_rfl) (by simp) ?_
    refine AllReadyH.cons rfl (fun K hK => ?_) AllReadyH.nil
    rw [if_pos (by kernel_rfl)]
    refine wp_store_blk 32 _ _ rfl (w.heap.size + 1) ZZ 32 rO rfl rfl X4.out.b4 zO.out iO.out oO.out ?_
    intro w5 hb5 ho5
    have X5 := Lib.hid (X4.out.put1 ho5 hb5)
    refine hK.out _ _ ⟨X5.out.bo.rng, X5.out.bi.rng⟩ (fun hHeld => ?_)
    clear hK K
    try simp only [Act.put, List.setIfInBounds_toArray, List.set_cons_zero, List.set_cons_succ]
    refine wpAnyH_ready (rs := [6]) (by kernel_rfl) (by simp) ?_
    refine AllReadyH.cons rfl (fun K hK => ?_) AllReadyH.nil
    rw [if_pos (by kernel_rfl)]
    refine wp_store_blk 39 _ _ rfl (w.heap.size + 1 + 1) Z0.toArray 39 B rfl rfl X5.out.b5 zB.out iB.out oB.out ?_
    intro w6 hb6 ho6
    have X6 := Lib.hid (X5.out.put2 ho6 hb6)
    refine hK.out _ _ ⟨X6.out.bo.rng, X6.out.bi.rng⟩ (fun hHeld => ?_)
    clear hK K
    try simp only [Act.put, List.setIfInBounds_toArray, List.set_cons_zero, List.set_cons_succ]
    refine wpAnyH_ready (rs := [7]) (by kernel_rfl) (by simp) ?_
    refine AllReadyH.cons rfl (fun K hK => ?_) AllReadyH.nil
    go_simp
    refine hK.out _ _ ⟨X6.out.bo.rng, X6.out.bi.rng⟩ (fun hHeld => ?_)
    clear hK K
    try simp only [Act.put, List.setIfInBounds_toArray, List.set_cons_zero, List.set_cons_succ]
    refine wpAnyH_done (by kernel_rfl) ?_ _
    refine NoPanic.normal ?_
    clear hHeld X3 X4 X5 KW3 HO HI RR
    go_wp2_with fail
    refine bodyPost_ret (ret_cell2_tmp (p := 4) (q := 5) (u := 6) (ty := 32) (ty2 := 39) rfl _ _ (w.heap.size + 1) (w.heap.size + 1 + 1) 32 39 _ _ _ _ rfl X6.out.b4 Try.underlying32 rfl iOA.out rfl X6.out.b5 Try.underlying39 rfl iBA.out) rfl ?_
    exact FIN.out _ HER.out _ X6.out.below
  · have hne : (er != 0) = true := by simp [he]
    have RZ1 := Lib.hid (RZ.out he)
    rw [RZ1.out] at FIN
    clear he RR0 RA RZ RB RZ1
    have bz := buildZ39
    have z5 : Z0.toArray.size = Z0.length := rfl
    have o5 : Hid (∀ v ∈ Z0, v.oneCell' = true) := Z0.ok.one
    go_wp2_with (first
      | ((with_reducible refine at_store (t := 32) ?_); refine wpList_store_blk _ rfl 32 _ _ rfl w1.heap.size ZZ 32 rO rfl rfl (Blk.new w1 32 _) zO.out iO.out oO.out ?_; intro W3 hb3 ho3; have X3 := Lib.hid (X2.out _ hb3 ho3); clear X2 hb3 ho3; generalize w1.heap.size = g7 at *)
      | ((with_reducible refine at_load (t := 32) ?_); refine wpList_load_mid rfl 32 _ rfl g7 0 rfl rO _ X3.out.bo.rng Try.underlying32 rfl iO.out ?_)
      | ((with_reducible refine at_store (t := 32) ?_); refine wpList_store_blk _ rfl 32 _ _ rfl (w.heap.size + 1) ZZ 32 rO rfl rfl X3.out.b4 zO.out iO.out oO.out ?_; intro W5 hb5 ho5; have X5 := Lib.hid (X3.out.put1 ho5 hb5); clear X3 hb5 ho5)
      | ((with_reducible refine at_store (t := 39) ?_); refine wpList_store_blk _ rfl 39 _ _ rfl (w.heap.size + 1 + 1) Z0.toArray 39 Z0 rfl rfl X5.out.b5 z5 Try.i39 o5.out ?_; intro W6 hb6 ho6; have X6 := Lib.hid (X5.out.put2 ho6 hb6); clear X5 hb6 ho6))
    refine bodyPost_ret (ret_cell2_tmp (p := 4) (q := 5) (u := 6) (ty := 32) (ty2 := 39) rfl _ _ (w.heap.size + 1) (w.heap.size + 1 + 1) 32 39 _ _ _ _ rfl X6.out.b4 Try.underlying32 rfl iOA.out rfl X6.out.b5 Try.underlying39 rfl Try.i39) rfl ?_
    exact FIN.out _ HER.out _ X6.out.below

end Go.Proofs.Ytdhompiapklnaaa
