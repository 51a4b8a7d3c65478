/-
  The document's Cut and Compact.
-/
import Derived.Test.YtmgaihdepglahaaM6
namespace Go.Proofs.Ytmgaihdepglahaa
open Go.RowKit

/-- What a call leaves that answers a log of its own, and an error (or a truth). -/
def Lge (w : World) (l : Lg) (x : Value) (e : Ending) (w' : World) : Prop := ∃ A n c, e = .returned (.tuple #[.agg #[.int .u64 l.bi, .int .u64 l.bt, .slice A n c], x]) ∧ Eo w' w.heap.size A n c l.es ∧ Below w.heap.size w w'

theorem ret27t {fn : Func} {p u : Tmp} (h : fn.results = #[.cell p 27, .tmp u]) (tmps : Array Value) (w : World) (g : Nat) (a b c x : Value)
    (hp : tmps.getD p undef = .pointer (some ⟨g, 0, none⟩)) (hx : tmps.getD u undef = x) (hg : Blk w g 27 #[a, b, c]) : (results fn tmps).run Try.prog w = .ok (.tuple #[.agg #[a, b, c], x]) w := by
  subst hx
  exact ret_cell_tmp h tmps w g 27 #[a, b, c] _ hp hg Try.underlying27 rfl Try.i27

/-- The entries from a place on. -/
theorem Lr.drop {w : World} {B : Nat} {A : Option Addr} {n c k : Nat} {l : Lg} (h : Lr w B A n c l) (hk : k ≤ n) (I T : Int) (hI0 : 0 ≤ I) (hI1 : I < 18446744073709551616) (hT0 : 0 ≤ T) (hT1 : T < 18446744073709551616) :
    Lr w B (if c = k then A else A.map (·.add (k * 3))) (n - k) (c - k) ⟨I, T, l.es.drop k⟩ := by
  refine ⟨?_, ?_, ?_, ?_, hI0, hI1, hT0, hT1⟩
  · have := h.es.cut (k := k) (m := n - k) (c := c) (Nat.le_refl _) hk h.nc
    rw [List.take_of_length_le (by rw [List.length_drop, h.len]; exact Nat.le_refl _)] at this
    exact this
  · have := h.nc; omega
  · intro e
    by_cases hc : c = k
    · omega
    · rw [if_neg hc] at e
      have : A = none := by cases A <;> simp at e ⊢
      have := h.nil this
      omega
  · have := h.n; omega
theorem Lr.take {w : World} {B : Nat} {A : Option Addr} {n c k : Nat} {l : Lg} (h : Lr w B A n c l) (hk : k ≤ n) : Lr w B A k c ⟨l.bi, l.bt, l.es.take k⟩ :=
  ⟨h.es.take hk, Nat.le_trans hk h.nc, h.nil, Nat.le_trans hk h.n, h.bi0, h.bi1, h.bt0, h.bt1⟩
/-- A Term of a spot is a number of 64 bits. -/
theorem Lr.T01 {w : World} {B : Nat} {A : Option Addr} {n c k : Nat} {l : Lg} (h : Lr w B A n c l) (hk : k ≤ n) : 0 ≤ l.T k ∧ l.T k < 18446744073709551616 := by
  unfold Lg.T
  cases k with
  | zero => exact ⟨h.bt0, h.bt1⟩
  | succ j =>
    obtain ⟨b, o, x, _, _, hx, hok, _⟩ := h.es.at_ (show j < n by omega)
    show 0 ≤ (l.es.getD j e0).t ∧ (l.es.getD j e0).t < _
    rw [← hx]
    exact ⟨hok.t0, hok.t1⟩

set_option linter.unusedSimpArgs false in
set_option maxRecDepth 100000 in
set_option maxHeartbeats 2000000 in
theorem refcut_any (l : Lg) (A : Option Addr) (n c B : Nat) (w : World) (h : Lr w B A n c l) (hB : B ≤ w.heap.size) (i : Int) (hi0 : 0 ≤ i) (hi1 : i < 18446744073709551616) :
    Calls Try.prog 25 #[.agg #[.int .u64 l.bi, .int .u64 l.bt, .slice A n c], .int .u64 i] w (Lge w (rCutL l i) (.int .i64 (rCutE l i))) := by
  have NU := Lib.hid (fun W (hW : Below B w W) => refnumber_any l A n c B W (h.below hW) (Nat.le_trans hB hW.size))
  have HNB : Hid (∀ i, 0 ≤ i → i < 18446744073709551616 → ∀ k, l.num i = some k → k ≤ n ∧ spI l.bi k = i) := fun i hi0 hi1 k hk => by rw [← h.len]; exact numB_some hi0 hi1 hk
  have H := Lib.hid h
  obtain ⟨bi, bt, es⟩ := l
  obtain ⟨hes, hnc, hnil, hn, hbi0, hbi1, hbt0, hbt1⟩ := h
  simp only at hes hbi0 hbi1 hbt0 hbt1 HNB
  have SP := Lib.hid (fun W (hW : Below B w W) => refspots_any bi bt A n c B es W (hes.below hW) (by omega) (Nat.le_trans hB hW.size) hbi0 hbi1)
  have CP := Lib.hid (fun (L : Lg) A' n' c' W (hl : Lr W B A' n' c' L) (hb : B ≤ W.heap.size) => refcopy_any L A' n' c' B W hl hb)
  have HB := Lib.hid (show Below w.heap.size w ((w.alloc (.cells #[.int .u64 bi, .int .u64 bt, .slice A n c] 27)).alloc (.cells #[.int .u64 0, .int .u64 0, .slice none 0 0] 27)) from ((Below.refl _ _).alloc (Nat.le_refl _) _).alloc (by simp) _)
  have b0 := Lib.hid (show Blk ((w.alloc (.cells #[.int .u64 bi, .int .u64 bt, .slice A n c] 27)).alloc (.cells #[.int .u64 0, .int .u64 0, .slice none 0 0] 27)) w.heap.size 27 #[.int .u64 bi, .int .u64 bt, .slice A n c] from (Blk.new w 27 _).alloc _)
  have b1 := Lib.hid (show Blk ((w.alloc (.cells #[.int .u64 bi, .int .u64 bt, .slice A n c] 27)).alloc (.cells #[.int .u64 0, .int .u64 0, .slice none 0 0] 27)) (w.heap.size + 1) 27 #[.int .u64 0, .int .u64 0, .slice none 0 0] from Blk.fresh (by simp))
  have C3 : Hid (∀ W, Blk W w.heap.size 27 #[.int .u64 bi, .int .u64 bt, .slice A n c] → W.cell? ⟨w.heap.size, 0, none⟩ = some (.int .u64 bi) ∧ W.cell? ⟨w.heap.size, 1, none⟩ = some (.int .u64 bt) ∧ W.cell? ⟨w.heap.size, 2, none⟩ = some (.slice A n c)) := fun W hb => ⟨hb.cell 0, hb.cell 1, hb.cell 2⟩
  clear hes
  unfold rCutL rCutE Lg.ahead
  by_cases hz : i = 0
  · subst hz
    rw [if_pos rfl]
    clear NU HNB SP CP
    have F : Hid (Eo ((w.alloc (.cells #[.int .u64 bi, .int .u64 bt, .slice A n c] 27)).alloc (.cells #[.int .u64 0, .int .u64 0, .slice none 0 0] 27)) w.heap.size none 0 0 lg0.es) := Eo.nothing _ _
    go_enter Try.func25, Try.ntmps25
    go_wp2
    exact bodyPost_ret (ret27t rfl _ _ (w.heap.size + 1) _ _ _ _ rfl rfl b1.out) rfl ⟨none, 0, 0, rfl, F.out, HB.out⟩
  · rw [if_neg hz]
    have hz' : (i == 0) = false := by simp [hz]
    have e1 : IntKind.u64.wrap (i - 1) = i - 1 := by rw [IntKind.wrap_u64]; omega
    have NU1 := Lib.hid (fun W (hW : Below B w W) => NU.out W hW (i - 1) (by omega) (by omega))
    have HNB1 := Lib.hid (HNB.out (i - 1) (by omega) (by omega))
    have hi2 : 1 ≤ i := by omega
    clear NU HNB hz
    unfold numZ at NU1
    cases hq : (⟨bi, bt, es⟩ : Lg).num (i - 1) with
    | none =>
      rw [hq] at NU1
      clear hq HNB1 SP CP
      go_enter Try.func25, Try.ntmps25
      go_wp2_with (go_at_call 61; refine (NU1.out _ (HB.out.mono hB)).mono ?_; rintro e w1 ⟨rfl, hb⟩; have B1 := Lib.hid (b1.out.below hb b1.out.lt); have HB1 := Lib.hid (HB.out.trans (hb.mono HB.out.size)); have x0 : w1.cell? ⟨w.heap.size + 1, 0, none⟩ = some (.int .u64 0) := B1.out.cell 0; have x1 : w1.cell? ⟨w.heap.size + 1, 1, none⟩ = some (.int .u64 0) := B1.out.cell 1; have x2 : w1.cell? ⟨w.heap.size + 1, 2, none⟩ = some (.slice none 0 0) := B1.out.cell 2; have f0 : w1.frozen? ⟨w.heap.size + 1, 0, none⟩ = false := B1.out.frozen 0; have f1 : w1.frozen? ⟨w.heap.size + 1, 1, none⟩ = false := B1.out.frozen 1; have f2 : w1.frozen? ⟨w.heap.size + 1, 2, none⟩ = false := B1.out.frozen 2; clear hb)
      exact bodyPost_ret (ret27t rfl _ _ (w.heap.size + 1) _ _ _ _ rfl rfl (((B1.out.set_ 0 _).set_ 1 _).set_ 2 _)) rfl ⟨none, 0, 0, rfl, Eo.nothing _ _, ((HB1.out.setCell (Nat.le_succ _) _).setCell (Nat.le_succ _) _).setCell (Nat.le_succ _) _⟩
    | some k =>
      have hkn := (HNB1.out k hq).1
      rw [hq] at NU1
      clear hq HNB1
      have k0 : (0 : Int) ≤ (k : Int) := by omega
      have k1 : (k : Int) ≤ (c : Int) := by omega
      have k2 : ¬ (k : Int) < 0 := by omega
      have HK := Lib.hid (H.out.take hkn)
      go_enter Try.func25, Try.ntmps25
      go_wp2_with (go_at_call 61; refine (NU1.out _ (HB.out.mono hB)).mono ?_; rintro e w1 ⟨rfl, hb⟩; have B00 : Hid (Blk w1.drew w.heap.size 27 #[.int .u64 bi, .int .u64 bt, .slice A n c]) := Lib.hid (b0.out.below hb.drew b0.out.lt); have B10 : Hid (Blk w1.drew (w.heap.size + 1) 27 #[.int .u64 0, .int .u64 0, .slice none 0 0]) := Lib.hid (b1.out.below hb.drew b1.out.lt); have HB1 := Lib.hid ((HB.out.trans (hb.mono HB.out.size)).drew); clear hb)
      have hS0 := C3.out _ B00.out
      refine wp_region_noPanic ?_
      refine wp_region_held_drew (S := fun w' => w'.cell? ⟨w.heap.size, 0, none⟩ = some (.int .u64 bi) ∧ w'.cell? ⟨w.heap.size, 1, none⟩ = some (.int .u64 bt) ∧ w'.cell? ⟨w.heap.size, 2, none⟩ = some (.slice A n c)) (by kernel_rfl) hS0 (fun hHeld => ?_)
      refine take_d (i := 0) (d := 16) (v := ?c16) rfl rfl (by kernel_rfl) (by kernel_rfl) (by kernel_rfl) (fun _ _ _ h => h) (Or.inl ⟨by kernel_rfl, ?c16h⟩) hHeld ?c16n
      case c16h => (intro w hSw; (try dsimp only at hSw); go_split_ands; go_simp; (try exact rfl))
      try simp only [Act.put, List.setIfInBounds_toArray, List.set_cons_zero, List.set_cons_succ]
      refine take_d (i := 1) (d := 17) (v := ?c17) rfl rfl (by kernel_rfl) (by kernel_rfl) (by kernel_rfl) (fun _ _ _ h => h) (Or.inl ⟨by kernel_rfl, ?c17h⟩) hHeld ?c17n
      case c17h => (intro w hSw; (try dsimp only at hSw); go_split_ands; go_simp; (try exact rfl))
      try simp only [Act.put, List.setIfInBounds_toArray, List.set_cons_zero, List.set_cons_succ]
      refine take_d (i := 2) (d := 18) (v := ?c18) rfl rfl (by kernel_rfl) (by kernel_rfl) (by kernel_rfl) (fun _ _ _ h => h) (Or.inl ⟨by kernel_rfl, ?c18h⟩) hHeld ?c18n
      case c18h => (intro w hSw; (try dsimp only at hSw); go_split_ands; go_simp; (try exact rfl))
      try simp only [Act.put, List.setIfInBounds_toArray, List.set_cons_zero, List.set_cons_succ]
      refine take_d (i := 3) (d := 19) (v := ?c19) rfl rfl (by kernel_rfl) (by kernel_rfl) (by kernel_rfl) (fun _ _ _ h => h) (Or.inl ⟨by kernel_rfl, ?c19h⟩) hHeld ?c19n
      case c19h => (intro w hSw; (try dsimp only at hSw); go_split_ands; go_simp; (try exact rfl))
      try simp only [Act.put, List.setIfInBounds_toArray, List.set_cons_zero, List.set_cons_succ]
      refine take_d (i := 4) (d := 20) (v := ?c20) rfl rfl (by kernel_rfl) (by kernel_rfl) (by kernel_rfl) (fun _ _ _ h => h) (Or.inl ⟨by kernel_rfl, ?c20h⟩) hHeld ?c20n
      case c20h => (intro w hSw; (try dsimp only at hSw); go_split_ands; go_simp; (try exact rfl))
      try simp only [Act.put, List.setIfInBounds_toArray, List.set_cons_zero, List.set_cons_succ]
      refine take_d (i := 5) (d := 21) (v := ?c21) rfl rfl (by kernel_rfl) (by kernel_rfl) (by kernel_rfl) (fun _ _ _ h => h) (Or.inl ⟨by kernel_rfl, ?c21h⟩) hHeld ?c21n
      case c21h => (intro w hSw; (try dsimp only at hSw); go_split_ands; go_simp; (try exact rfl))
      try simp only [Act.put, List.setIfInBounds_toArray, List.set_cons_zero, List.set_cons_succ]
      refine take_d (i := 6) (d := 22) (v := ?c22) rfl rfl (by kernel_rfl) (by kernel_rfl) (by kernel_rfl) (fun _ _ _ h => h) (Or.inl ⟨by kernel_rfl, ?c22h⟩) hHeld ?c22n
      case c22h => (intro w hSw; (try dsimp only at hSw); go_split_ands; go_simp; (try exact rfl))
      try simp only [Act.put, List.setIfInBounds_toArray, List.set_cons_zero, List.set_cons_succ]
      refine wpAnyH_ready (rs := [7]) (by kernel_rfl) (by simp) ?_
      refine AllReadyH.cons rfl (fun K hK => ?_) AllReadyH.nil
      go_simp
      refine (NU1.out _ (HB1.out.mono hB)).mono ?_
      rintro e w2 ⟨rfl, hb2⟩
      have B02 := Lib.hid (B00.out.below hb2 B00.out.lt)
      have B12 := Lib.hid (B10.out.below hb2 B10.out.lt)
      have HB2 := Lib.hid (HB1.out.trans (hb2.mono HB1.out.size))
      clear hb2
      refine hK.out _ _ (C3.out _ B02.out) (fun hHeld => ?_)
      clear hK K
      try simp only [Act.put, List.setIfInBounds_toArray, List.set_cons_zero, List.set_cons_succ]
      refine take_d (i := 8) (d := 24) (v := ?c24) rfl rfl (by kernel_rfl) (by kernel_rfl) (by kernel_rfl) (fun _ _ _ h => h) (Or.inl ⟨by kernel_rfl, ?c24h⟩) hHeld ?c24n
      case c24h => (intro w hSw; (try dsimp only at hSw); go_split_ands; go_simp; (try exact rfl))
      try simp only [Act.put, List.setIfInBounds_toArray, List.set_cons_zero, List.set_cons_succ]
      refine take_d (i := 9) (d := 25) (v := ?c25) rfl rfl (by kernel_rfl) (by kernel_rfl) (by kernel_rfl) (fun _ _ _ h => h) (Or.inl ⟨by kernel_rfl, ?c25h⟩) hHeld ?c25n
      case c25h => (intro w hSw; (try dsimp only at hSw); go_split_ands; go_simp; (try exact rfl))
      try simp only [Act.put, List.setIfInBounds_toArray, List.set_cons_zero, List.set_cons_succ]
      refine wpAnyH_ready (rs := [10]) (by kernel_rfl) (by simp) ?_
      refine AllReadyH.cons rfl (fun K hK => ?_) AllReadyH.nil
      go_simp
      refine (CP.out ⟨bi, bt, es.take k⟩ A k c _ (HK.out.below (HB2.out.mono hB)) (Nat.le_trans hB HB2.out.size)).mono ?_
      rintro e w3 ⟨A3, n3, c3, rfl, ho3, hb3⟩
      have B03 := Lib.hid (B02.out.below hb3 B02.out.lt)
      have B13 := Lib.hid (B12.out.below hb3 B12.out.lt)
      have HB3 := Lib.hid (HB2.out.trans (hb3.mono HB2.out.size))
      have HO3 := Lib.hid (ho3.down HB2.out.size)
      clear ho3 hb3
      refine hK.out _ _ (C3.out _ B03.out) (fun hHeld => ?_)
      clear hK K
      try simp only [Act.put, List.setIfInBounds_toArray, List.set_cons_zero, List.set_cons_succ]
      refine wpAnyH_ready (rs := [11]) (by kernel_rfl) (by simp) ?_
      refine AllReadyH.cons rfl (fun K hK => ?_) AllReadyH.nil
      refine wp_store_blk 27 _ _ rfl (w.heap.size + 1) #[.int .u64 0, .int .u64 0, .slice none 0 0] 27 [.int .u64 bi, .int .u64 bt, .slice A3 n3 c3] rfl rfl B13.out rfl Try.i27 (by simp [Value.oneCell']) ?_
      intro w4 hb4 ho4
      have B14 := Lib.hid hb4
      have B04 := Lib.hid (ho4.keep B03.out (by omega))
      have HB4 := Lib.hid (HB3.out.trans (ho4.below (by omega)))
      have HO4 := Lib.hid (HO3.out.only27 B13.out ho4)
      clear hb4 ho4
      refine hK.out _ _ (C3.out _ B04.out) (fun hHeld => ?_)
      clear hK K
      try simp only [Act.put, List.setIfInBounds_toArray, List.set_cons_zero, List.set_cons_succ]
      refine take_d (i := 12) (d := 5) (v := ?c5) rfl rfl (by kernel_rfl) (by kernel_rfl) (by kernel_rfl) (fun _ _ _ h => h) (Or.inl ⟨by kernel_rfl, ?c5h⟩) hHeld ?c5n
      case c5h => (intro w hSw; (try dsimp only at hSw); go_split_ands; go_simp; (try exact rfl))
      try simp only [Act.put, List.setIfInBounds_toArray, List.set_cons_zero, List.set_cons_succ]
      refine wpAnyH_done (by kernel_rfl) ?_ _
      refine NoPanic.normal ?_
      go_wp2
      exact bodyPost_ret (ret27t rfl _ _ _ _ _ _ _ rfl rfl B14.out) rfl ⟨A3, n3, c3, rfl, HO4.out, HB4.out⟩

set_option linter.unusedSimpArgs false in
set_option maxRecDepth 100000 in
set_option maxHeartbeats 2000000 in
theorem refcompact_any (l : Lg) (A : Option Addr) (n c B : Nat) (w : World) (h : Lr w B A n c l) (hB : B ≤ w.heap.size) (i : Int) (hi0 : 0 ≤ i) (hi1 : i < 18446744073709551616) :
    Calls Try.prog 26 #[.agg #[.int .u64 l.bi, .int .u64 l.bt, .slice A n c], .int .u64 i] w (Lge w (rComL l i) (.bool (rComB l i))) := by
  have NU := Lib.hid (fun W (hW : Below B w W) => refnumber_any l A n c B W (h.below hW) (Nat.le_trans hB hW.size))
  have HNB : Hid (∀ i, 0 ≤ i → i < 18446744073709551616 → ∀ k, l.num i = some k → k ≤ n ∧ spI l.bi k = i) := fun i hi0 hi1 k hk => by rw [← h.len]; exact numB_some hi0 hi1 hk
  have H := Lib.hid h
  obtain ⟨bi, bt, es⟩ := l
  obtain ⟨hes, hnc, hnil, hn, hbi0, hbi1, hbt0, hbt1⟩ := h
  simp only at hes hbi0 hbi1 hbt0 hbt1 HNB
  have SP := Lib.hid (fun W (hW : Below B w W) => refspots_any bi bt A n c B es W (hes.below hW) (by omega) (Nat.le_trans hB hW.size) hbi0 hbi1)
  have CP := Lib.hid (fun (L : Lg) A' n' c' W (hl : Lr W B A' n' c' L) (hb : B ≤ W.heap.size) => refcopy_any L A' n' c' B W hl hb)
  have HB := Lib.hid (show Below w.heap.size w ((w.alloc (.cells #[.int .u64 bi, .int .u64 bt, .slice A n c] 27)).alloc (.cells #[.int .u64 0, .int .u64 0, .slice none 0 0] 27)) from ((Below.refl _ _).alloc (Nat.le_refl _) _).alloc (by simp) _)
  have b0 := Lib.hid (show Blk ((w.alloc (.cells #[.int .u64 bi, .int .u64 bt, .slice A n c] 27)).alloc (.cells #[.int .u64 0, .int .u64 0, .slice none 0 0] 27)) w.heap.size 27 #[.int .u64 bi, .int .u64 bt, .slice A n c] from (Blk.new w 27 _).alloc _)
  have b1 := Lib.hid (show Blk ((w.alloc (.cells #[.int .u64 bi, .int .u64 bt, .slice A n c] 27)).alloc (.cells #[.int .u64 0, .int .u64 0, .slice none 0 0] 27)) (w.heap.size + 1) 27 #[.int .u64 0, .int .u64 0, .slice none 0 0] from Blk.fresh (by simp))
  have C3 : Hid (∀ W, Blk W w.heap.size 27 #[.int .u64 bi, .int .u64 bt, .slice A n c] → W.cell? ⟨w.heap.size, 0, none⟩ = some (.int .u64 bi) ∧ W.cell? ⟨w.heap.size, 1, none⟩ = some (.int .u64 bt) ∧ W.cell? ⟨w.heap.size, 2, none⟩ = some (.slice A n c)) := fun W hb => ⟨hb.cell 0, hb.cell 1, hb.cell 2⟩
  clear hes
  have NU1 := Lib.hid (fun W (hW : Below B w W) => NU.out W hW i hi0 hi1)
  have HNB1 := Lib.hid (HNB.out i hi0 hi1)
  clear NU HNB
  unfold rComL rComB
  unfold numZ at NU1
  cases hq : (⟨bi, bt, es⟩ : Lg).num i with
  | none =>
    rw [hq] at NU1
    clear hq HNB1 SP CP
    go_enter Try.func26, Try.ntmps26
    go_wp2_with (go_at_call 61; refine (NU1.out _ (HB.out.mono hB)).mono ?_; rintro e w1 ⟨rfl, hb⟩; have B1 := Lib.hid (b1.out.below hb b1.out.lt); have HB1 := Lib.hid (HB.out.trans (hb.mono HB.out.size)); have x0 : w1.cell? ⟨w.heap.size + 1, 0, none⟩ = some (.int .u64 0) := B1.out.cell 0; have x1 : w1.cell? ⟨w.heap.size + 1, 1, none⟩ = some (.int .u64 0) := B1.out.cell 1; have x2 : w1.cell? ⟨w.heap.size + 1, 2, none⟩ = some (.slice none 0 0) := B1.out.cell 2; have f0 : w1.frozen? ⟨w.heap.size + 1, 0, none⟩ = false := B1.out.frozen 0; have f1 : w1.frozen? ⟨w.heap.size + 1, 1, none⟩ = false := B1.out.frozen 1; have f2 : w1.frozen? ⟨w.heap.size + 1, 2, none⟩ = false := B1.out.frozen 2; clear hb)
    exact bodyPost_ret (ret27t rfl _ _ (w.heap.size + 1) _ _ _ _ rfl rfl (((B1.out.set_ 0 _).set_ 1 _).set_ 2 _)) rfl ⟨none, 0, 0, rfl, Eo.nothing _ _, ((HB1.out.setCell (Nat.le_succ _) _).setCell (Nat.le_succ _) _).setCell (Nat.le_succ _) _⟩
  | some k =>
    have hkn := (HNB1.out k hq).1
    have hki := (HNB1.out k hq).2
    rw [hq] at NU1
    clear hq HNB1
    have k0 : (0 : Int) ≤ (k : Int) := by omega
    have k1 : (k : Int) < (n : Int) + 1 := by omega
    have k2 : ¬ (k : Int) < 0 := by omega
    have k3 : (k : Int) ≤ (n : Int) := by omega
    have hT := H.out.T01 hkn
    have HK := Lib.hid (H.out.drop hkn i ((⟨bi, bt, es⟩ : Lg).T k) hi0 hi1 hT.1 hT.2)
    have HI := Lib.hid hki
    unfold Lg.T at HK hT
    unfold Lg.T
    simp only at HK hT
    have HT := Lib.hid hT
    simp only
    clear hki hT
    go_enter Try.func26, Try.ntmps26
    go_wp2_with (go_at_call 61; refine (NU1.out _ (HB.out.mono hB)).mono ?_; rintro e w1 ⟨rfl, hb⟩; have B00 : Hid (Blk w1.drew w.heap.size 27 #[.int .u64 bi, .int .u64 bt, .slice A n c]) := Lib.hid (b0.out.below hb.drew b0.out.lt); have B10 : Hid (Blk w1.drew (w.heap.size + 1) 27 #[.int .u64 0, .int .u64 0, .slice none 0 0]) := Lib.hid (b1.out.below hb.drew b1.out.lt); have HB1 := Lib.hid ((HB.out.trans (hb.mono HB.out.size)).drew); clear hb)
    have hS0 := C3.out _ B00.out
    refine wp_region_noPanic ?_
    refine wp_region_held_drew (S := fun w' => w'.cell? ⟨w.heap.size, 0, none⟩ = some (.int .u64 bi) ∧ w'.cell? ⟨w.heap.size, 1, none⟩ = some (.int .u64 bt) ∧ w'.cell? ⟨w.heap.size, 2, none⟩ = some (.slice A n c)) (by kernel_rfl) hS0 (fun hHeld => ?_)
    refine take_d (i := 0) (d := 13) (v := ?d13) rfl rfl (by kernel_rfl) (by kernel_rfl) (by kernel_rfl) (fun _ _ _ h => h) (Or.inl ⟨by kernel_rfl, ?d13h⟩) hHeld ?d13n
    case d13h => (intro w hSw; (try dsimp only at hSw); go_split_ands; go_simp; (try exact rfl))
    try simp only [Act.put, List.setIfInBounds_toArray, List.set_cons_zero, List.set_cons_succ]
    refine take_d (i := 1) (d := 14) (v := ?d14) rfl rfl (by kernel_rfl) (by kernel_rfl) (by kernel_rfl) (fun _ _ _ h => h) (Or.inl ⟨by kernel_rfl, ?d14h⟩) hHeld ?d14n
    case d14h => (intro w hSw; (try dsimp only at hSw); go_split_ands; go_simp; (try exact rfl))
    try simp only [Act.put, List.setIfInBounds_toArray, List.set_cons_zero, List.set_cons_succ]
    refine take_d (i := 2) (d := 15) (v := ?d15) rfl rfl (by kernel_rfl) (by kernel_rfl) (by kernel_rfl) (fun _ _ _ h => h) (Or.inl ⟨by kernel_rfl, ?d15h⟩) hHeld ?d15n
    case d15h => (intro w hSw; (try dsimp only at hSw); go_split_ands; go_simp; (try exact rfl))
    try simp only [Act.put, List.setIfInBounds_toArray, List.set_cons_zero, List.set_cons_succ]
    refine take_d (i := 3) (d := 16) (v := ?d16) rfl rfl (by kernel_rfl) (by kernel_rfl) (by kernel_rfl) (fun _ _ _ h => h) (Or.inl ⟨by kernel_rfl, ?d16h⟩) hHeld ?d16n
    case d16h => (intro w hSw; (try dsimp only at hSw); go_split_ands; go_simp; (try exact rfl))
    try simp only [Act.put, List.setIfInBounds_toArray, List.set_cons_zero, List.set_cons_succ]
    refine take_d (i := 5) (d := 18) (v := ?d18) rfl rfl (by kernel_rfl) (by kernel_rfl) (by kernel_rfl) (fun _ _ _ h => h) (Or.inl ⟨by kernel_rfl, ?d18h⟩) hHeld ?d18n
    case d18h => (intro w hSw; (try dsimp only at hSw); go_split_ands; go_simp; (try exact rfl))
    try simp only [Act.put, List.setIfInBounds_toArray, List.set_cons_zero, List.set_cons_succ]
    refine take_d (i := 8) (d := 21) (v := ?d21) rfl rfl (by kernel_rfl) (by kernel_rfl) (by kernel_rfl) (fun _ _ _ h => h) (Or.inl ⟨by kernel_rfl, ?d21h⟩) hHeld ?d21n
    case d21h => (intro w hSw; (try dsimp only at hSw); go_split_ands; go_simp; (try exact rfl))
    try simp only [Act.put, List.setIfInBounds_toArray, List.set_cons_zero, List.set_cons_succ]
    refine take_d (i := 9) (d := 22) (v := ?d22) rfl rfl (by kernel_rfl) (by kernel_rfl) (by kernel_rfl) (fun _ _ _ h => h) (Or.inl ⟨by kernel_rfl, ?d22h⟩) hHeld ?d22n
    case d22h => (intro w hSw; (try dsimp only at hSw); go_split_ands; go_simp; (try exact rfl))
    try simp only [Act.put, List.setIfInBounds_toArray, List.set_cons_zero, List.set_cons_succ]
    refine take_d (i := 10) (d := 23) (v := ?d23) rfl rfl (by kernel_rfl) (by kernel_rfl) (by kernel_rfl) (fun _ _ _ h => h) (Or.inl ⟨by kernel_rfl, ?d23h⟩) hHeld ?d23n
    case d23h => (intro w hSw; (try dsimp only at hSw); go_split_ands; go_simp; (try exact rfl))
    try simp only [Act.put, List.setIfInBounds_toArray, List.set_cons_zero, List.set_cons_succ]
    refine take_d (i := 11) (d := 24) (v := ?d24) rfl rfl (by kernel_rfl) (by kernel_rfl) (by kernel_rfl) (fun _ _ _ h => h) (Or.inl ⟨by kernel_rfl, ?d24h⟩) hHeld ?d24n
    case d24h => (intro w hSw; (try dsimp only at hSw); go_split_ands; go_simp; (try exact rfl))
    try simp only [Act.put, List.setIfInBounds_toArray, List.set_cons_zero, List.set_cons_succ]
    refine wpAnyH_ready (rs := [4]) (by kernel_rfl) (by simp) ?_
    refine AllReadyH.cons rfl (fun K hK => ?_) AllReadyH.nil
    go_simp
    refine (SP.out _ (HB1.out.mono hB)).mono ?_
    rintro e w2 ⟨A2, c2, rfl, ho2, hb2⟩
    have B02 := Lib.hid (B00.out.below hb2 B00.out.lt)
    have B12 := Lib.hid (B10.out.below hb2 B10.out.lt)
    have HB2 := Lib.hid (HB1.out.trans (hb2.mono HB1.out.size))
    obtain ⟨g, rfl, hgb, hgl, e0, e1⟩ := ho2.at_ (show k < n + 1 by omega)
    rw [HI.out] at e0
    have G1 := Lib.hid hgb
    have G2 := Lib.hid hgl
    clear hb2 ho2 hgb hgl
    generalize spT bt es k = U at *
    refine hK.out _ _ (C3.out _ B02.out) (fun hHeld => ?_)
    clear hK K
    try simp only [Act.put, List.setIfInBounds_toArray, List.set_cons_zero, List.set_cons_succ]
    refine wpAnyH_weaken (S' := fun w' => (w'.cell? ⟨w.heap.size, 0, none⟩ = some (.int .u64 bi) ∧ w'.cell? ⟨w.heap.size, 1, none⟩ = some (.int .u64 bt) ∧ w'.cell? ⟨w.heap.size, 2, none⟩ = some (.slice A n c)) ∧ (w'.cell? ⟨g, k * 2, none⟩ = some (.int .u64 i) ∧ w'.cell? ⟨g, k * 2 + 1, none⟩ = some (.int .u64 U))) (fun _ h => h.1) _ _ _ _ ?_
    have hHeld := And.intro hHeld (And.intro e0 e1)
    refine take_d (i := 6) (d := 19) (v := ?d19) rfl rfl (by kernel_rfl) (by kernel_rfl) (by kernel_rfl) (fun _ _ _ h => h) (Or.inl ⟨by kernel_rfl, ?d19h⟩) hHeld ?d19n
    case d19h => (intro w hSw; (try dsimp only at hSw); go_split_ands; go_simp; (try exact rfl))
    try simp only [Act.put, List.setIfInBounds_toArray, List.set_cons_zero, List.set_cons_succ]
    refine take_d (i := 7) (d := 20) (v := ?d20) rfl rfl (by kernel_rfl) (by kernel_rfl) (by kernel_rfl) (fun _ _ _ h => h) (Or.inl ⟨by kernel_rfl, ?d20h⟩) hHeld ?d20n
    case d20h => (intro w hSw; (try dsimp only at hSw); go_split_ands; go_simp; (try exact rfl))
    try simp only [Act.put, List.setIfInBounds_toArray, List.set_cons_zero, List.set_cons_succ]
    refine take_d (i := 12) (d := 25) (v := ?d25) rfl rfl (by kernel_rfl) (by kernel_rfl) (by kernel_rfl) (fun _ _ _ h => h) (Or.inl ⟨by kernel_rfl, ?d25h⟩) hHeld ?d25n
    case d25h => (intro w hSw; (try dsimp only at hSw); go_split_ands; go_simp; (try exact rfl))
    try simp only [Act.put, List.setIfInBounds_toArray, List.set_cons_zero, List.set_cons_succ]
    refine wpAnyH_ready (rs := [13]) (by kernel_rfl) (by simp) ?_
    refine AllReadyH.cons rfl (fun K hK => ?_) AllReadyH.nil
    go_simp
    refine (CP.out ⟨i, U, es.drop k⟩ _ _ _ _ (HK.out.below (HB2.out.mono hB)) (Nat.le_trans hB HB2.out.size)).mono ?_
    rintro e w3 ⟨A3, n3, c3, rfl, ho3, hb3⟩
    have B03 := Lib.hid (B02.out.below hb3 B02.out.lt)
    have B13 := Lib.hid (B12.out.below hb3 B12.out.lt)
    have HB3 := Lib.hid (HB2.out.trans (hb3.mono HB2.out.size))
    have HO3 := Lib.hid (ho3.down HB2.out.size)
    have E3 := And.intro ((hb3.cell (p := ⟨g, k * 2, none⟩) G2.out).trans e0) ((hb3.cell (p := ⟨g, k * 2 + 1, none⟩) G2.out).trans e1)
    have G3 : Hid (g < w3.heap.size) := Lib.hid (Nat.lt_of_lt_of_le G2.out hb3.size)
    clear ho3 hb3
    refine hK.out _ _ (⟨C3.out _ B03.out, E3⟩) (fun hHeld => ?_)
    clear hK K
    try simp only [Act.put, List.setIfInBounds_toArray, List.set_cons_zero, List.set_cons_succ]
    refine wpAnyH_ready (rs := [14]) (by kernel_rfl) (by simp) ?_
    refine AllReadyH.cons rfl (fun K hK => ?_) AllReadyH.nil
    refine wp_store_blk 27 _ _ rfl (w.heap.size + 1) #[.int .u64 0, .int .u64 0, .slice none 0 0] 27 [.int .u64 i, .int .u64 U, .slice A3 n3 c3] rfl rfl B13.out rfl Try.i27 (by simp [Value.oneCell']) ?_
    intro w4 hb4 ho4
    have B14 := Lib.hid hb4
    have B04 := Lib.hid (ho4.keep B03.out (by omega))
    have HB4 := Lib.hid (HB3.out.trans (ho4.below (by omega)))
    have HO4 := Lib.hid (HO3.out.only27 B13.out ho4)
    have E4 := And.intro ((World.cell?_of_block (ho4.block g (by have := G1.out; have := B10.out.lt; omega))).trans E3.1) ((World.cell?_of_block (ho4.block g (by have := G1.out; have := B10.out.lt; omega))).trans E3.2)
    clear hb4 ho4
    refine hK.out _ _ ⟨C3.out _ B04.out, E4⟩ (fun hHeld => ?_)
    clear hK K
    try simp only [Act.put, List.setIfInBounds_toArray, List.set_cons_zero, List.set_cons_succ]
    refine take_d (i := 15) (d := 5) (v := ?d5) rfl rfl (by kernel_rfl) (by kernel_rfl) (by kernel_rfl) (fun _ _ _ h => h) (Or.inl ⟨by kernel_rfl, ?d5h⟩) hHeld ?d5n
    case d5h => (intro w hSw; (try dsimp only at hSw); go_split_ands; go_simp; (try exact rfl))
    try simp only [Act.put, List.setIfInBounds_toArray, List.set_cons_zero, List.set_cons_succ]
    refine wpAnyH_done (by kernel_rfl) ?_ _
    refine NoPanic.normal ?_
    go_wp2
    all_goals exact bodyPost_ret (ret27t rfl _ _ _ _ _ _ _ rfl rfl B14.out) rfl ⟨A3, n3, c3, rfl, HO4.out, HB4.out⟩

end Go.Proofs.Ytmgaihdepglahaa
