/-
  A log cut and extended by what was cut off; a log given up at its beginning: the law LogParts.
-/
import Derived.Test.YtmgaihdepglahaaQW
namespace Go.Proofs.Ytmgaihdepglahaa
open Go.RowKit
attribute [local go_sem ↓] eqA neA eqGA field1

set_option linter.unusedSimpArgs false in
set_option maxRecDepth 100000 in
set_option maxHeartbeats 16000000 in
theorem parts_walk (g : Gc) (i : Int) (w : World) (hg : g.raw w w.heap.size) (hi : 0 ≤ i ∧ i < 18446744073709551616) :
    Calls Try.prog 8 #[.agg #[.int .u64 g.bi, .int .u64 g.bt, .slice g.A g.n g.c], .int .u64 i] w fun e w' => e = .returned (.bool true) ∧ Below w.heap.size w w' := by
  obtain ⟨L, hL⟩ : ∃ L, fewG g.bi g.bt (g.xs.map Ec.en) = L := ⟨_, rfl⟩
  have OW := Lib.hid (fun W (hW : Below w.heap.size w W) => own_any g.bi g.bt g.A g.n g.c w.heap.size g.xs W (hg.es.below hW) hW.size)
  rw [hL] at OW
  have hLok : Lok L := by
    rw [← hL]
    exact ⟨by have := (fewL_few (g.xs.map Ec.en)).1; show (fewL _).length ≤ 100; omega, hg.bi0, hg.bi1, hg.bt0, hg.bt1⟩
  have b20 := Blk.new w 27 #[.int .u64 g.bi, .int .u64 g.bt, .slice g.A g.n g.c]
  have hb20 : Below w.heap.size w (w.alloc (.cells #[.int .u64 g.bi, .int .u64 g.bt, .slice g.A g.n g.c] 27)) := (Below.refl _ _).alloc (Nat.le_refl _) _
  clear hL hg
  go_enter Try.func8, Try.ntmps8
  go_wp2_with (first | (go_at_call 10; refine (wakes_any _).mono ?_; rintro e w0 ⟨rfl, hb0⟩; have b2 := b20.below hb0 b20.lt; obtain ⟨x0, x1, x2⟩ := b2.three; have HB0 := hb20.trans (hb0.mono hb20.size); clear hb0) | (go_at_call 11; refine (OW.out _ HB0).mono ?_; rintro e w1 ⟨AL, nL, cL, rfl, ho1, hb1⟩; have b21 := b2.below hb1 b2.lt; have HB1' := HB0.trans (hb1.mono HB0.size); have ho1' := ho1.down HB0.size; clear hb1 ho1 x0 x1 x2; obtain ⟨x0, x1, x2⟩ := b21.three; have y0 := b21.frozen 0; have y1 := b21.frozen 1; have y2 := b21.frozen 2) | (go_at_call 42; refine unheld ?_))
  unfold Held
  have hon := set3_only w1 w.heap.size (.int .u64 L.bi) (.int .u64 L.bt) (.slice AL nL cL)
  have B22 : Hid (Blk (((w1.setCell ⟨w.heap.size, 0, none⟩ (.int .u64 L.bi)).setCell ⟨w.heap.size, 1, none⟩ (.int .u64 L.bt)).setCell ⟨w.heap.size, 2, none⟩ (.slice AL nL cL)) w.heap.size 27 #[.int .u64 L.bi, .int .u64 L.bt, .slice AL nL cL]) := Lib.hid (((b21.set_ 0 _).set_ 1 _).set_ 2 _)
  have HL2 := Lib.hid (ho1'.only27 b21 hon)
  have HB2 := Lib.hid (HB1'.trans (hon.below (Nat.le_refl _)))
  clear hon b21 ho1' HB1' x0 x1 x2 y0 y1 y2 b2 HB0 b20 hb20 OW
  generalize (((w1.setCell ⟨w.heap.size, 0, none⟩ (.int .u64 L.bi)).setCell ⟨w.heap.size, 1, none⟩ (.int .u64 L.bt)).setCell ⟨w.heap.size, 2, none⟩ (.slice AL nL cL)) = w2 at *
  have jb := subw_lt i
  have LR : Hid (∀ W, Eo W w.heap.size AL nL cL L.es → Lr W W.heap.size AL nL cL L) := Lib.hid (fun W ho => hLok.lr ho)
  have MA := Lib.hid (fun W ho => may_any L AL nL cL _ W (LR.out W ho) (Nat.le_refl _))
  have CU := Lib.hid (fun W ho => Cut_any L AL nL cL _ W (LR.out W ho) (Nat.le_refl _) i)
  have FR := Lib.hid (fun W ho => From_any L AL nL cL _ W (LR.out W ho) (Nat.le_refl _) i 16)
  have CO := Lib.hid (fun W ho => Compact_any L AL nL cL _ W (LR.out W ho) (Nat.le_refl _) i hi.1 hi.2)
  have TE := Lib.hid (fun W ho => Term_any L AL nL cL _ W (LR.out W ho) (Nat.le_refl _) i hi.1 hi.2)
  cases hr : right L with
  | false =>
    rw [hr] at MA
    refine (MA.out w2 HL2.out).mono ?_
    rintro e w3 ⟨rfl, hb3⟩
    have HB3 := Lib.hid (HB2.out.trans (hb3.mono HB2.out.size))
    clear hb3
    go_wp2
    go_ret
    exact ⟨rfl, HB3.out⟩
  | true =>
    rw [hr] at MA
    obtain ⟨h16, hLend⟩ : L.es.length ≤ 16 ∧ L.bi + L.es.length ≤ 18446744073709551614 := ⟨(right_parts hr).2.1, (right_parts hr).2.2.2⟩
    have HN : Hid (nL = L.es.length) := Lib.hid HL2.out.len.symm
    have hi0 := hLok.bi0
    have LL : Hid (∀ W, Eo W w.heap.size AL nL cL L.es → Calls Try.prog 28 #[.agg #[.int .u64 L.bi, .int .u64 L.bt, .slice AL nL cL]] W fun e w' => e = .returned (.agg #[.int .u64 L.lastI, .int .u64 L.lastT]) ∧ Below W.heap.size W w') := Lib.hid (fun W ho => by
      have := Last_any L AL nL cL _ W (LR.out W ho) (Nat.le_refl _)
      unfold pLastI pLastT at this
      rw [if_pos hr, if_pos hr] at this
      exact this)
    have hfe : fromE L i 16 = spotE L (subw i) := by
      unfold fromE
      by_cases h : spotE L (subw i) = 0
      · rw [if_neg (by rw [h]; simp), if_neg (by decide), h]
      · rw [if_pos h]
    have SJ := Lib.hid (spot_at hr hi0 jb.1 jb.2).2
    have SI := Lib.hid (spot_at hr hi0 hi.1 hi.2).2
    have TI : Hid (∀ k : Nat, k ≤ L.es.length → ∀ W, Eo W w.heap.size AL nL cL L.es → Calls Try.prog 30 #[.agg #[.int .u64 L.bi, .int .u64 L.bt, .slice AL nL cL], .int .u64 (L.bi + (k : Int))] W fun e w' => e = .returned (.tuple #[.int .u64 (L.T k), .bool true]) ∧ Below W.heap.size W w') := Lib.hid (fun k hk W ho => by
      have := Term_any L AL nL cL _ W (LR.out W ho) (Nat.le_refl _) (L.bi + k) (by omega) (by omega)
      rw [(term_in hr hi0 hk).1, (term_in hr hi0 hk).2] at this
      exact this)
    have HFE := Lib.hid hfe
    have H16 := Lib.hid h16
    have HEnd := Lib.hid hLend
    have HRT := Lib.hid hr
    clear hfe h16 hLend hr
    refine (MA.out w2 HL2.out).mono ?_
    rintro e w3 ⟨rfl, hb⟩
    have B23 := Lib.hid (B22.out.below hb B22.out.lt)
    have HL3 := Lib.hid (Eo.below HL2.out hb)
    have HB3 := Lib.hid (HB2.out.trans (hb.mono HB2.out.size))
    clear hb
    obtain ⟨x0, x1, x2⟩ := B23.out.three
    have hz := B23.out.lt
    go_wp2_with fail
    by_cases hE : spotE L (subw i) = 0
    rotate_left
    · have hE1 : (spotE L (subw i) == 0) = false := by simp [hE]
      have hpc : pCutL L (subw i) = lg0 := if_neg hE
      obtain ⟨hf1, hf2, hf3⟩ := from_bad (l := L) (i := i) (n := 16) (by rw [HFE.out]; exact hE)
      rw [hpc] at CU
      rw [hf1, hf2, hf3, HFE.out] at FR
      generalize spotE L (subw i) = E at *
      refine (CU.out w3 HL3.out).mono ?_
      rintro e w4 ⟨Ax, nx, cx, rfl, ho4, hb⟩
      have B24 := Lib.hid (B23.out.below hb B23.out.lt)
      have HL4 := Lib.hid (Eo.below HL3.out hb)
      have HB4 := Lib.hid (HB3.out.trans (hb.mono HB3.out.size))
      clear hb ho4 x0 x1 x2 hz
      obtain ⟨x0, x1, x2⟩ := B24.out.three
      have hz := B24.out.lt
      go_wp2_with fail
      have hb : Below w4.heap.size w4 (w4.alloc (.cells #[.int .u64 lg0.bi, .int .u64 lg0.bt, .slice Ax nx cx] 27)) := (Below.refl _ _).alloc (Nat.le_refl _) _
      have B25 := Lib.hid (B24.out.below hb B24.out.lt)
      have HL5 := Lib.hid (Eo.below HL4.out hb)
      have HB5 := Lib.hid (HB4.out.trans (hb.mono HB4.out.size))
      have B55 : Hid (Blk (w4.alloc (.cells #[.int .u64 lg0.bi, .int .u64 lg0.bt, .slice Ax nx cx] 27)) w4.heap.size 27 #[.int .u64 lg0.bi, .int .u64 lg0.bt, .slice Ax nx cx]) := Lib.hid (Blk.new _ _ _)
      clear hb
      generalize (w4.alloc (.cells #[.int .u64 lg0.bi, .int .u64 lg0.bt, .slice Ax nx cx] 27)) = w5 at *
      generalize w4.heap.size = p5 at *
      refine (FR.out w5 HL5.out).mono ?_
      rintro e w6 ⟨Ar, nr, cr, rfl, ho6, hb⟩
      have B26 := Lib.hid (B25.out.below hb B25.out.lt)
      have HL6 := Lib.hid (Eo.below HL5.out hb)
      have HB6 := Lib.hid (HB5.out.trans (hb.mono HB5.out.size))
      clear hb ho6 x0 x1 x2 hz
      obtain ⟨x0, x1, x2⟩ := B26.out.three
      have hz := B26.out.lt
      go_wp2_with fail
      have hb : Below w6.heap.size w6 (w6.alloc (.cells #[.int .u64 0, .int .u64 0] 24)) := (Below.refl _ _).alloc (Nat.le_refl _) _
      have B27 := Lib.hid (B26.out.below hb B26.out.lt)
      have HL7 := Lib.hid (Eo.below HL6.out hb)
      have HB7 := Lib.hid (HB6.out.trans (hb.mono HB6.out.size))
      have B77 : Hid (Blk (w6.alloc (.cells #[.int .u64 0, .int .u64 0] 24)) w6.heap.size 24 #[.int .u64 0, .int .u64 0]) := Lib.hid (Blk.new _ _ _)
      clear hb
      generalize (w6.alloc (.cells #[.int .u64 0, .int .u64 0] 24)) = w7 at *
      generalize w6.heap.size = p7 at *
      clear x0 x1 x2 hz FR CU
      by_cases hE2 : spotE L i = 0
      rotate_left
      · have hz0 : pComL L i = lg0 := if_neg hE2
        rw [hz0] at CO
        have hE3 : (spotE L i == 0) = false := by simp [hE2]
        generalize spotE L i = E2 at *
        refine (CO.out w7 HL7.out).mono ?_
        rintro e w8 ⟨Az, nz, cz, rfl, hoz, hb⟩
        have B28 := Lib.hid (B27.out.below hb B27.out.lt)
        have HL8 := Lib.hid (Eo.below HL7.out hb)
        have HB8 := Lib.hid (HB7.out.trans (hb.mono HB7.out.size))
        obtain rfl : nz = 0 := by have := hoz.len; exact this.symm
        clear hb hoz
        obtain ⟨x0, x1, x2⟩ := B28.out.three
        have hz := B28.out.lt
        go_wp2_with fail
        clear x0 x1 x2 hz
        have hb : Below w8.heap.size w8 (w8.alloc (.cells #[.int .u64 lg0.bi, .int .u64 lg0.bt, .slice Az 0 cz] 27)) := (Below.refl _ _).alloc (Nat.le_refl _) _
        have B29 := Lib.hid (B28.out.below hb B28.out.lt)
        have HL9 := Lib.hid (Eo.below HL8.out hb)
        have HB9 := Lib.hid (HB8.out.trans (hb.mono HB8.out.size))
        have BZ9 : Hid (Blk (w8.alloc (.cells #[.int .u64 lg0.bi, .int .u64 lg0.bt, .slice Az 0 cz] 27)) w8.heap.size 27 #[.int .u64 lg0.bi, .int .u64 lg0.bt, .slice Az 0 cz]) := Lib.hid (Blk.new _ _ _)
        clear hb
        generalize (w8.alloc (.cells #[.int .u64 lg0.bi, .int .u64 lg0.bt, .slice Az 0 cz] 27)) = w9 at *
        generalize w8.heap.size = pZ at *
        refine (TE.out w9 HL9.out).mono ?_
        rintro e w10 ⟨rfl, hb⟩
        have B210 := Lib.hid (B29.out.below hb B29.out.lt)
        have BZ10 := Lib.hid (BZ9.out.below hb BZ9.out.lt)
        have HL10 := Lib.hid (Eo.below HL9.out hb)
        have HB10 := Lib.hid (HB9.out.trans (hb.mono HB9.out.size))
        clear hb
        obtain ⟨x0, x1, x2⟩ := BZ10.out.three
        go_wp2
        go_ret
        exact ⟨rfl, HB10.out⟩
      · skip
        obtain ⟨hik, hkn2, hT2⟩ := SI.out hE2
        obtain ⟨k2, hk2⟩ : ∃ k2, spotN L i = k2 := ⟨_, rfl⟩
        rw [hk2] at hik hkn2 hT2
        have hz0 : pComL L i = ⟨L.bi + k2, L.T k2, L.es.drop k2⟩ := by unfold pComL; rw [if_pos hE2, hk2, hT2, ← hik]
        rw [hz0, hE2] at CO
        rw [hE2, hT2] at TE
        clear hz0 hE2 hk2 jb
        subst hik
        have h16 := H16.out
        have hLend := HEnd.out
        have hr := HRT.out
        have hzr := com_right hr hi0 hkn2
        have hzl := com_last (l := L) hkn2
        have hZok : Lok ⟨L.bi + k2, L.T k2, L.es.drop k2⟩ := ⟨by show (L.es.drop k2).length ≤ 100; rw [List.length_drop]; omega, by show 0 ≤ L.bi + (k2 : Int); omega, by show L.bi + (k2 : Int) < _; omega, (by have := (LR.out w2 HL2.out).T01 (k := k2) (by have := HN.out; omega); exact this.1), (by have := (LR.out w2 HL2.out).T01 (k := k2) (by have := HN.out; omega); exact this.2)⟩
        have TZ := fun (j : Nat) (hj : j ≤ L.es.length) => term_com hr hi0 hkn2 hj
        refine (CO.out w7 HL7.out).mono ?_
        rintro e w8 ⟨Az, nz, cz, rfl, hoz, hb⟩
        have Hz8 := Lib.hid (hoz.down HB7.out.size)
        have B28 := Lib.hid (B27.out.below hb B27.out.lt)
        have HL8 := Lib.hid (Eo.below HL7.out hb)
        have HB8 := Lib.hid (HB7.out.trans (hb.mono HB7.out.size))
        clear hb hoz
        have MZ : Hid (∀ W, Eo W w.heap.size Az nz cz (L.es.drop k2) → Calls Try.prog 42 #[.agg #[.int .u64 (L.bi + (k2 : Int)), .int .u64 (L.T k2), .slice Az nz cz]] W fun e w' => e = .returned (.bool true) ∧ Below W.heap.size W w') := Lib.hid (fun W ho => by
          have := may_any ⟨L.bi + k2, L.T k2, L.es.drop k2⟩ Az nz cz W.heap.size W (hZok.lr ho) (Nat.le_refl _)
          rw [hzr] at this
          exact this)
        have LZ : Hid (∀ W, Eo W w.heap.size Az nz cz (L.es.drop k2) → Calls Try.prog 28 #[.agg #[.int .u64 (L.bi + (k2 : Int)), .int .u64 (L.T k2), .slice Az nz cz]] W fun e w' => e = .returned (.agg #[.int .u64 L.lastI, .int .u64 L.lastT]) ∧ Below W.heap.size W w') := Lib.hid (fun W ho => by
          have := Last_any ⟨L.bi + k2, L.T k2, L.es.drop k2⟩ Az nz cz W.heap.size W (hZok.lr ho) (Nat.le_refl _)
          unfold pLastI pLastT at this
          rw [if_pos hzr, if_pos hzr, hzl.1, hzl.2] at this
          exact this)
        have TZ2 : Hid (∀ j : Nat, j ≤ L.es.length → ∀ W, Eo W w.heap.size Az nz cz (L.es.drop k2) → ∃ t, (L.bi + (k2 : Int) ≤ L.bi + (j : Int) → t = L.T j) ∧ Calls Try.prog 30 #[.agg #[.int .u64 (L.bi + (k2 : Int)), .int .u64 (L.T k2), .slice Az nz cz], .int .u64 (L.bi + (j : Int))] W fun e w' => e = .returned (.tuple #[.int .u64 t, .bool (decide (L.bi + (k2 : Int) ≤ L.bi + (j : Int)))]) ∧ Below W.heap.size W w') := Lib.hid (fun j hj W ho => by
          have := Term_any ⟨L.bi + k2, L.T k2, L.es.drop k2⟩ Az nz cz W.heap.size W (hZok.lr ho) (Nat.le_refl _) (L.bi + j) (by omega) (by omega)
          rw [(TZ j hj).1] at this
          exact ⟨_, (TZ j hj).2, this⟩)
        clear TZ hzr hzl hr hT2 h16 hLend hkn2
        obtain ⟨x0, x1, x2⟩ := B28.out.three
        have hz := B28.out.lt
        go_wp2_with fail
        clear x0 x1 x2 hz
        have hb : Below w8.heap.size w8 (w8.alloc (.cells #[.int .u64 (L.bi + (k2 : Int)), .int .u64 (L.T k2), .slice Az nz cz] 27)) := (Below.refl _ _).alloc (Nat.le_refl _) _
        have B29 := Lib.hid (B28.out.below hb B28.out.lt)
        have HL9 := Lib.hid (Eo.below HL8.out hb)
        have Hz9 := Lib.hid (Eo.below Hz8.out hb)
        have HB9 := Lib.hid (HB8.out.trans (hb.mono HB8.out.size))
        have BZ9 : Hid (Blk (w8.alloc (.cells #[.int .u64 (L.bi + (k2 : Int)), .int .u64 (L.T k2), .slice Az nz cz] 27)) w8.heap.size 27 #[.int .u64 (L.bi + (k2 : Int)), .int .u64 (L.T k2), .slice Az nz cz]) := Lib.hid (Blk.new _ _ _)
        clear hb
        generalize (w8.alloc (.cells #[.int .u64 (L.bi + (k2 : Int)), .int .u64 (L.T k2), .slice Az nz cz] 27)) = w9 at *
        generalize w8.heap.size = pZ at *
        refine (TE.out w9 HL9.out).mono ?_
        rintro e w10 ⟨rfl, hb⟩
        have B210 := Lib.hid (B29.out.below hb B29.out.lt)
        have BZ10 := Lib.hid (BZ9.out.below hb BZ9.out.lt)
        have HL10 := Lib.hid (Eo.below HL9.out hb)
        have Hz10 := Lib.hid (Eo.below Hz9.out hb)
        have HB10 := Lib.hid (HB9.out.trans (hb.mono HB9.out.size))
        clear hb
        have q3 := Eqa_refl (L.bi + (k2 : Int)) (L.T k2)
        have q4 := Eqa_refl L.lastI L.lastT
        go_wp2_with fail
        have hb : Below w10.heap.size w10 w10.drew := (Below.refl _ _).drew
        have B211 := Lib.hid (B210.out.below hb B210.out.lt)
        have BZ11 := Lib.hid (BZ10.out.below hb BZ10.out.lt)
        have HL11 := Lib.hid (Eo.below HL10.out hb)
        have Hz11 := Lib.hid (Eo.below Hz10.out hb)
        have HB11 := Lib.hid (HB10.out.trans (hb.mono HB10.out.size))
        clear hb
        have hS1 := (show _ ∧ _ from ⟨BZ11.out.three, B211.out.three⟩)
        refine wp_region_noPanic ?_
        refine wp_region_held_drew (S := fun w' => (w'.cell? ⟨pZ, 0, none⟩ = some (.int .u64 (L.bi + (k2 : Int))) ∧ w'.cell? ⟨pZ, 1, none⟩ = some (.int .u64 (L.T k2)) ∧ w'.cell? ⟨pZ, 2, none⟩ = some (.slice Az nz cz)) ∧ (w'.cell? ⟨w.heap.size, 0, none⟩ = some (.int .u64 L.bi) ∧ w'.cell? ⟨w.heap.size, 1, none⟩ = some (.int .u64 L.bt) ∧ w'.cell? ⟨w.heap.size, 2, none⟩ = some (.slice AL nL cL))) (by kernel_rfl) hS1 (fun hHeld => ?_)
        generalize w10.drew = w11 at *
        refine take_d (i := 0) (d := 101) (v := ?d101) rfl rfl (by kernel_rfl) (by kernel_rfl) (by kernel_rfl) (fun _ _ _ h => h) (Or.inl ⟨by kernel_rfl, ?d101h⟩) hHeld ?d101n
        case d101h => (intro w hSw; (try dsimp only at hSw); go_split_ands; go_simp; (try exact rfl))
        try simp only [Act.put, List.setIfInBounds_toArray, List.set_cons_zero, List.set_cons_succ]
        refine wpAnyH_ready (rs := [1]) (by kernel_rfl) (by simp) ?_
        refine AllReadyH.cons rfl (fun K hK => ?_) AllReadyH.nil
        go_simp
        refine (MZ.out w11 Hz11.out).mono ?_
        rintro e w12 ⟨rfl, hb⟩
        have B212 := Lib.hid (B211.out.below hb B211.out.lt)
        have BZ12 := Lib.hid (BZ11.out.below hb BZ11.out.lt)
        have HL12 := Lib.hid (Eo.below HL11.out hb)
        have Hz12 := Lib.hid (Eo.below Hz11.out hb)
        have HB12 := Lib.hid (HB11.out.trans (hb.mono HB11.out.size))
        clear hb
        refine hK.out _ _ (⟨BZ12.out.three, B212.out.three⟩) (fun hHeld => ?_)
        clear hK K
        try simp only [Act.put, List.setIfInBounds_toArray, List.set_cons_zero, List.set_cons_succ]
        refine take_d (i := 2) (d := 103) (v := ?d103) rfl rfl (by kernel_rfl) (by kernel_rfl) (by kernel_rfl) (fun _ _ _ h => h) (Or.inl ⟨by kernel_rfl, ?d103h⟩) hHeld ?d103n
        case d103h => (intro w hSw; (try dsimp only at hSw); go_split_ands; go_simp; (try exact rfl))
        try simp only [Act.put, List.setIfInBounds_toArray, List.set_cons_zero, List.set_cons_succ]
        refine take_d (i := 3) (d := 104) (v := ?d104) rfl rfl (by kernel_rfl) (by kernel_rfl) (by kernel_rfl) (fun _ _ _ h => h) (Or.inl ⟨by kernel_rfl, ?d104h⟩) hHeld ?d104n
        case d104h => (intro w hSw; (try dsimp only at hSw); go_split_ands; go_simp; (try exact rfl))
        try simp only [Act.put, List.setIfInBounds_toArray, List.set_cons_zero, List.set_cons_succ]
        refine take_d (i := 4) (d := 105) (v := ?d105) rfl rfl (by kernel_rfl) (by kernel_rfl) (by kernel_rfl) (fun _ _ _ h => h) (Or.inl ⟨by kernel_rfl, ?d105h⟩) hHeld ?d105n
        case d105h => (intro w hSw; (try dsimp only at hSw); go_split_ands; go_simp; (try exact rfl))
        try simp only [Act.put, List.setIfInBounds_toArray, List.set_cons_zero, List.set_cons_succ]
        refine take_d (i := 5) (d := 106) (v := ?d106) rfl rfl (by kernel_rfl) (by kernel_rfl) (by kernel_rfl) (fun _ _ _ h => h) (Or.inl ⟨by kernel_rfl, ?d106h⟩) hHeld ?d106n
        case d106h => (intro w hSw; (try dsimp only at hSw); go_split_ands; go_simp; (try exact rfl))
        try simp only [Act.put, List.setIfInBounds_toArray, List.set_cons_zero, List.set_cons_succ]
        refine take_d (i := 6) (d := 107) (v := ?d107) rfl rfl (by kernel_rfl) (by kernel_rfl) (by kernel_rfl) (fun _ _ _ h => h) (Or.inl ⟨by kernel_rfl, ?d107h⟩) hHeld ?d107n
        case d107h => (intro w hSw; (try dsimp only at hSw); go_split_ands; go_simp; (try exact rfl))
        try simp only [Act.put, List.setIfInBounds_toArray, List.set_cons_zero, List.set_cons_succ]
        refine take_d (i := 7) (d := 108) (v := ?d108) rfl rfl (by kernel_rfl) (by kernel_rfl) (by kernel_rfl) (fun _ _ _ h => h) (Or.inl ⟨by kernel_rfl, ?d108h⟩) hHeld ?d108n
        case d108h => (intro w hSw; (try dsimp only at hSw); go_split_ands; go_simp; (try exact rfl))
        try simp only [Act.put, List.setIfInBounds_toArray, List.set_cons_zero, List.set_cons_succ]
        refine take_d (i := 8) (d := 109) (v := ?d109) rfl rfl (by kernel_rfl) (by kernel_rfl) (by kernel_rfl) (fun _ _ _ h => h) (Or.inl ⟨by kernel_rfl, ?d109h⟩) hHeld ?d109n
        case d109h => (intro w hSw; (try dsimp only at hSw); go_split_ands; go_simp; (try exact rfl))
        try simp only [Act.put, List.setIfInBounds_toArray, List.set_cons_zero, List.set_cons_succ]
        refine take_d (i := 9) (d := 110) (v := ?d110) rfl rfl (by kernel_rfl) (by kernel_rfl) (by kernel_rfl) (fun _ _ _ h => h) (Or.inl ⟨by kernel_rfl, ?d110h⟩) hHeld ?d110n
        case d110h => (intro w hSw; (try dsimp only at hSw); go_split_ands; go_simp; (try exact rfl))
        try simp only [Act.put, List.setIfInBounds_toArray, List.set_cons_zero, List.set_cons_succ]
        refine take_d (i := 10) (d := 111) (v := ?d111) rfl rfl (by kernel_rfl) (by kernel_rfl) (by kernel_rfl) (fun _ _ _ h => h) (Or.inl ⟨by kernel_rfl, ?d111h⟩) hHeld ?d111n
        case d111h => (intro w hSw; (try dsimp only at hSw); go_split_ands; go_simp; (try exact rfl))
        try simp only [Act.put, List.setIfInBounds_toArray, List.set_cons_zero, List.set_cons_succ]
        refine take_d (i := 11) (d := 112) (v := ?d112) rfl rfl (by kernel_rfl) (by kernel_rfl) (by kernel_rfl) (fun _ _ _ h => h) (Or.inl ⟨by kernel_rfl, ?d112h⟩) hHeld ?d112n
        case d112h => (intro w hSw; (try dsimp only at hSw); go_split_ands; go_simp; (try exact rfl))
        try simp only [Act.put, List.setIfInBounds_toArray, List.set_cons_zero, List.set_cons_succ]
        refine take_d (i := 12) (d := 113) (v := ?d113) rfl rfl (by kernel_rfl) (by kernel_rfl) (by kernel_rfl) (fun _ _ _ h => h) (Or.inl ⟨by kernel_rfl, ?d113h⟩) hHeld ?d113n
        case d113h => (intro w hSw; (try dsimp only at hSw); go_split_ands; go_simp; (try exact rfl))
        try simp only [Act.put, List.setIfInBounds_toArray, List.set_cons_zero, List.set_cons_succ]
        refine take_d (i := 14) (d := 115) (v := ?d115) rfl rfl (by kernel_rfl) (by kernel_rfl) (by kernel_rfl) (fun _ _ _ h => h) (Or.inl ⟨by kernel_rfl, ?d115h⟩) hHeld ?d115n
        case d115h => (intro w hSw; (try dsimp only at hSw); go_split_ands; go_simp; (try exact rfl))
        try simp only [Act.put, List.setIfInBounds_toArray, List.set_cons_zero, List.set_cons_succ]
        refine wpAnyH_ready (rs := [13]) (by kernel_rfl) (by simp) ?_
        refine AllReadyH.cons rfl (fun K hK => ?_) AllReadyH.nil
        go_simp
        refine (LZ.out w12 Hz12.out).mono ?_
        rintro e w13 ⟨rfl, hb⟩
        have B213 := Lib.hid (B212.out.below hb B212.out.lt)
        have BZ13 := Lib.hid (BZ12.out.below hb BZ12.out.lt)
        have HL13 := Lib.hid (Eo.below HL12.out hb)
        have Hz13 := Lib.hid (Eo.below Hz12.out hb)
        have HB13 := Lib.hid (HB12.out.trans (hb.mono HB12.out.size))
        clear hb
        refine hK.out _ _ (⟨BZ13.out.three, B213.out.three⟩) (fun hHeld => ?_)
        clear hK K
        try simp only [Act.put, List.setIfInBounds_toArray, List.set_cons_zero, List.set_cons_succ]
        refine wpAnyH_ready (rs := [15]) (by kernel_rfl) (by simp) ?_
        refine AllReadyH.cons rfl (fun K hK => ?_) AllReadyH.nil
        go_simp
        refine (LL.out w13 HL13.out).mono ?_
        rintro e w14 ⟨rfl, hb⟩
        have B214 := Lib.hid (B213.out.below hb B213.out.lt)
        have BZ14 := Lib.hid (BZ13.out.below hb BZ13.out.lt)
        have HL14 := Lib.hid (Eo.below HL13.out hb)
        have Hz14 := Lib.hid (Eo.below Hz13.out hb)
        have HB14 := Lib.hid (HB13.out.trans (hb.mono HB13.out.size))
        clear hb
        refine hK.out _ _ (⟨BZ14.out.three, B214.out.three⟩) (fun hHeld => ?_)
        clear hK K
        try simp only [Act.put, List.setIfInBounds_toArray, List.set_cons_zero, List.set_cons_succ]
        refine take_d (i := 16) (d := 117) (v := ?d117) rfl rfl (by kernel_rfl) (by kernel_rfl) (by kernel_rfl) (fun _ _ _ h => h) (Or.inl ⟨by kernel_rfl, ?d117h⟩) hHeld ?d117n
        case d117h => (intro w hSw; (try dsimp only at hSw); go_split_ands; go_simp; (try exact rfl))
        try simp only [Act.put, List.setIfInBounds_toArray, List.set_cons_zero, List.set_cons_succ]
        refine take_d (i := 17) (d := 118) (v := ?d118) rfl rfl (by kernel_rfl) (by kernel_rfl) (by kernel_rfl) (fun _ _ _ h => h) (Or.inl ⟨by kernel_rfl, ?d118h⟩) hHeld ?d118n
        case d118h => (intro w hSw; (try dsimp only at hSw); go_split_ands; go_simp; (try exact rfl))
        try simp only [Act.put, List.setIfInBounds_toArray, List.set_cons_zero, List.set_cons_succ]
        refine wpAnyH_done (by kernel_rfl) ?_ _
        refine NoPanic.normal ?_
        have n64 : wrap64 ((nL : Int) + 1) = (nL : Int) + 1 := by rw [wrap64_eq]; have := HN.out; have := H16.out; omega
        obtain ⟨x0, x1, x2⟩ := B214.out.three
        go_wp2_with fail
        rw [n64]
        clear x0 x1 x2 n64
        go_loopw [123] (fun ix wr => ∃ j : Nat, j ≤ nL + 1 ∧ ix = .int .i64 j ∧ Blk wr w.heap.size 27 #[.int .u64 L.bi, .int .u64 L.bt, .slice AL nL cL] ∧ Blk wr pZ 27 #[.int .u64 (L.bi + (k2 : Int)), .int .u64 (L.T k2), .slice Az nz cz] ∧ Eo wr w.heap.size AL nL cL L.es ∧ Eo wr w.heap.size Az nz cz (L.es.drop k2) ∧ Below w.heap.size w wr) (fun ix _ => nL + 1 - (intOf ix).toNat)
        case atStart => exact ⟨0, Nat.zero_le _, rfl, B214.out, BZ14.out, HL14.out, Hz14.out, HB14.out⟩
        case round =>
          obtain ⟨j, hj, rfl, c2', cZ', oL', oz', hb'⟩ := hrel
          have B20 := Lib.hid c2'
          have BZ0 := Lib.hid cZ'
          have HL0 := Lib.hid oL'
          have Hz0 := Lib.hid oz'
          have HB0 := Lib.hid hb'
          clear c2' cZ' oL' oz' hb'
          by_cases hlt : j < nL + 1
          · have hjl : j ≤ L.es.length := by have := HN.out; omega
            have l0 : ((j : Int) < (nL : Int) + 1) := by omega
            have e18 : IntKind.u64.wrap (L.bi + (j : Int)) = L.bi + (j : Int) := by rw [IntKind.wrap_u64]; have := HEnd.out; have := hi0; omega
            have e19 : IntKind.u64.wrap (j : Int) = (j : Int) := by rw [IntKind.wrap_u64]; have := H16.out; omega
            obtain ⟨x0, x1, x2⟩ := B20.out.three
            go_wp2_with fail
            clear x0 x1 x2
            refine (TI.out j hjl wr HL0.out).mono ?_
            rintro e v1 ⟨rfl, hb⟩
            have B21 := Lib.hid (B20.out.below hb B20.out.lt)
            have BZ1 := Lib.hid (BZ0.out.below hb BZ0.out.lt)
            have HL1 := Lib.hid (Eo.below HL0.out hb)
            have Hz1 := Lib.hid (Eo.below Hz0.out hb)
            have HB1 := Lib.hid (HB0.out.trans (hb.mono HB0.out.size))
            clear hb
            obtain ⟨x0, x1, x2⟩ := BZ1.out.three
            go_wp2_with fail
            clear x0 x1 x2
            obtain ⟨t, ht, hcall⟩ := TZ2.out j hjl v1 Hz1.out
            refine hcall.mono ?_
            rintro e v2 ⟨rfl, hb⟩
            have B22' := Lib.hid (B21.out.below hb B21.out.lt)
            have BZ2' := Lib.hid (BZ1.out.below hb BZ1.out.lt)
            have HL2' := Lib.hid (Eo.below HL1.out hb)
            have Hz2' := Lib.hid (Eo.below Hz1.out hb)
            have HB2' := Lib.hid (HB1.out.trans (hb.mono HB1.out.size))
            clear hb hcall
            by_cases hge : L.bi + (k2 : Int) ≤ L.bi + (j : Int)
            · have hd : decide (L.bi + (k2 : Int) ≤ L.bi + (j : Int)) = true := decide_eq_true hge
              have hkj : k2 ≤ j := by omega
              obtain rfl := ht hge
              rw [hd]
              clear hge ht
              have j64 : wrap64 ((j : Int) + 1) = (j : Int) + 1 := by rw [wrap64_eq]; have := HN.out; have := H16.out; omega
              go_wp2
              go_roundw
              case rel => exact ⟨j + 1, (by clear j64; omega), (by first | (rw [j64]; rfl) | go_num), B22'.out, BZ2'.out, HL2'.out, Hz2'.out, HB2'.out⟩
              case measure => (try rw [j64]); clear j64; simp [intOf]; omega
            · have hd : decide (L.bi + (k2 : Int) ≤ L.bi + (j : Int)) = false := decide_eq_false hge
              have hkj : j < k2 := by omega
              have hkj2 : ¬ k2 ≤ j := by omega
              rw [hd]
              clear hge ht
              have j64 : wrap64 ((j : Int) + 1) = (j : Int) + 1 := by rw [wrap64_eq]; have := HN.out; have := H16.out; omega
              go_wp2
              go_roundw
              case rel => exact ⟨j + 1, (by clear j64; omega), (by first | (rw [j64]; rfl) | go_num), B22'.out, BZ2'.out, HL2'.out, Hz2'.out, HB2'.out⟩
              case measure => (try rw [j64]); clear j64; simp [intOf]; omega
          · have l0 : ¬ ((j : Int) < (nL : Int) + 1) := by omega
            go_wp2
            go_ret
            exact ⟨rfl, HB0.out⟩
    · have h16 := H16.out
      have hLend := HEnd.out
      have hr := HRT.out
      obtain ⟨hjk, hkn, hTj⟩ := SJ.out hE
      obtain ⟨k, hk⟩ : ∃ k, spotN L (subw i) = k := ⟨_, rfl⟩
      rw [hk] at hjk hkn hTj
      have hpc : pCutL L (subw i) = ⟨L.bi, L.bt, L.es.take k⟩ := by unfold pCutL; rw [if_pos hE, hk]
      obtain ⟨hf1, hf2, hf3⟩ := from_ok (l := L) (i := i) (n := 16) (by rw [HFE.out]; exact hE)
      have hf3' : fromL L i 16 = L.es.drop k := by rw [hf3, hk, List.take_of_length_le (by rw [List.length_drop]; have : (16 : Int).toNat = 16 := rfl; omega)]
      rw [hpc, hE] at CU
      rw [hf1, hf2, hf3', HFE.out, hE, hTj] at FR
      have hxr := cut_right hr hkn
      have hxl := cut_last hr hi0 hkn
      have hxe := ext_back hr hi0 hkn
      have hXok : Lok ⟨L.bi, L.bt, L.es.take k⟩ := ⟨by show (L.es.take k).length ≤ 100; rw [List.length_take]; omega, hLok.bi0, hLok.bi1, hLok.bt0, hLok.bt1⟩
      have EXT : Hid (∀ W Ax nx cx bx Ar nr cr br, Eo W bx Ax nx cx (L.es.take k) → Eo W br Ar nr cr (L.es.drop k) → Calls Try.prog 21 #[.agg #[.int .u64 L.bi, .int .u64 L.bt, .slice Ax nx cx], .slice Ar nr cr] W (Lgx W L L.lastI L.lastT 0)) := Lib.hid (fun W Ax nx cx bx Ar nr cr br ho ho' => by
        have hnr : nr ≤ 900 := by have := ho'.len; rw [List.length_drop] at this; omega
        have := Extend_any ⟨L.bi, L.bt, L.es.take k⟩ Ax nx cx W.heap.size W (hXok.lr ho) (Nat.le_refl _) Ar nr cr (L.es.drop k) ho'.read hnr
        obtain ⟨e1, e2, e3, e4⟩ := pExt_ok hxr hxe.1
        rw [e1, e2, e3, e4, hxe.2] at this
        exact this)
      have MX : Hid (∀ W Ax nx cx bx, Eo W bx Ax nx cx (L.es.take k) → Calls Try.prog 42 #[.agg #[.int .u64 L.bi, .int .u64 L.bt, .slice Ax nx cx]] W fun e w' => e = .returned (.bool true) ∧ Below W.heap.size W w') := Lib.hid (fun W Ax nx cx bx ho => by
        have := may_any ⟨L.bi, L.bt, L.es.take k⟩ Ax nx cx W.heap.size W (hXok.lr ho) (Nat.le_refl _)
        rw [hxr] at this
        exact this)
      have LX : Hid (∀ W Ax nx cx bx, Eo W bx Ax nx cx (L.es.take k) → Calls Try.prog 28 #[.agg #[.int .u64 L.bi, .int .u64 L.bt, .slice Ax nx cx]] W fun e w' => e = .returned (.agg #[.int .u64 (subw i), .int .u64 (L.T k)]) ∧ Below W.heap.size W w') := Lib.hid (fun W Ax nx cx bx ho => by
        have := Last_any ⟨L.bi, L.bt, L.es.take k⟩ Ax nx cx W.heap.size W (hXok.lr ho) (Nat.le_refl _)
        unfold pLastI pLastT at this
        rw [if_pos hxr, if_pos hxr, hxl.1, hxl.2, ← hjk] at this
        exact this)
      have SY : Hid (∀ W Ay ny cy by_, Eo W by_ Ay ny cy L.es → Eo W w.heap.size AL nL cL L.es → Calls Try.prog 41 #[.agg #[.int .u64 L.bi, .int .u64 L.bt, .slice Ay ny cy], .agg #[.int .u64 L.bi, .int .u64 L.bt, .slice AL nL cL]] W fun e w' => e = .returned (.bool true) ∧ Below W.heap.size W w') := Lib.hid (fun W Ay ny cy by_ ho ho' => by
        have := Same_any L L Ay AL ny nL cy cL W.heap.size W (hLok.lr ho) (hLok.lr ho') (Nat.le_refl _)
        rw [decide_eq_true rfl] at this
        exact this)
      clear hxr hxl hxe hf1 hf2 hf3 hf3' hpc hTj h16 hLend hr hjk hkn
      have q1 := Eqa_refl (subw i) (L.T k)
      have q2 := Eqa_refl L.lastI L.lastT
      refine (CU.out w3 HL3.out).mono ?_
      rintro e w4 ⟨Ax, nx, cx, rfl, ho4, hb⟩
      have Hx4 := Lib.hid (ho4.down HB3.out.size)
      have B24 := Lib.hid (B23.out.below hb B23.out.lt)
      have HL4 := Lib.hid (Eo.below HL3.out hb)
      have HB4 := Lib.hid (HB3.out.trans (hb.mono HB3.out.size))
      clear hb ho4 x0 x1 x2 hz
      obtain ⟨x0, x1, x2⟩ := B24.out.three
      have hz := B24.out.lt
      go_wp2_with fail
      have hb : Below w4.heap.size w4 (w4.alloc (.cells #[.int .u64 L.bi, .int .u64 L.bt, .slice Ax nx cx] 27)) := (Below.refl _ _).alloc (Nat.le_refl _) _
      have B25 := Lib.hid (B24.out.below hb B24.out.lt)
      have HL5 := Lib.hid (Eo.below HL4.out hb)
      have Hx5 := Lib.hid (Eo.below Hx4.out hb)
      have HB5 := Lib.hid (HB4.out.trans (hb.mono HB4.out.size))
      have B55 : Hid (Blk (w4.alloc (.cells #[.int .u64 L.bi, .int .u64 L.bt, .slice Ax nx cx] 27)) w4.heap.size 27 #[.int .u64 L.bi, .int .u64 L.bt, .slice Ax nx cx]) := Lib.hid (Blk.new _ _ _)
      clear hb
      generalize (w4.alloc (.cells #[.int .u64 L.bi, .int .u64 L.bt, .slice Ax nx cx] 27)) = w5 at *
      generalize w4.heap.size = p5 at *
      refine (FR.out w5 HL5.out).mono ?_
      rintro e w6 ⟨Ar, nr, cr, rfl, ho6, hb⟩
      have Hr6 := Lib.hid (ho6.down HB5.out.size)
      have B26 := Lib.hid (B25.out.below hb B25.out.lt)
      have B56 := Lib.hid (B55.out.below hb B55.out.lt)
      have HL6 := Lib.hid (Eo.below HL5.out hb)
      have Hx6 := Lib.hid (Eo.below Hx5.out hb)
      have HB6 := Lib.hid (HB5.out.trans (hb.mono HB5.out.size))
      clear hb ho6 x0 x1 x2 hz
      obtain ⟨x0, x1, x2⟩ := B56.out.three
      have hz := B56.out.lt
      go_wp2_with fail
      have hb : Below w6.heap.size w6 (w6.alloc (.cells #[.int .u64 (subw i), .int .u64 (L.T k)] 24)) := (Below.refl _ _).alloc (Nat.le_refl _) _
      have B27 := Lib.hid (B26.out.below hb B26.out.lt)
      have B57 := Lib.hid (B56.out.below hb B56.out.lt)
      have HL7 := Lib.hid (Eo.below HL6.out hb)
      have Hx7 := Lib.hid (Eo.below Hx6.out hb)
      have Hr7 := Lib.hid (Eo.below Hr6.out hb)
      have HB7 := Lib.hid (HB6.out.trans (hb.mono HB6.out.size))
      have B77 : Hid (Blk (w6.alloc (.cells #[.int .u64 (subw i), .int .u64 (L.T k)] 24)) w6.heap.size 24 #[.int .u64 (subw i), .int .u64 (L.T k)]) := Lib.hid (Blk.new _ _ _)
      clear hb
      generalize (w6.alloc (.cells #[.int .u64 (subw i), .int .u64 (L.T k)] 24)) = w7 at *
      generalize w6.heap.size = p7 at *
      clear x0 x1 x2 hz FR CU
      refine (EXT.out w7 _ _ _ _ _ _ _ _ Hx7.out Hr7.out).mono ?_
      rintro e w8 ⟨Ay, ny, cy, rfl, ho8, hb⟩
      have Hy8 := Lib.hid (ho8.down HB7.out.size)
      have B28 := Lib.hid (B27.out.below hb B27.out.lt)
      have B58 := Lib.hid (B57.out.below hb B57.out.lt)
      have B78 := Lib.hid (B77.out.below hb B77.out.lt)
      have HL8 := Lib.hid (Eo.below HL7.out hb)
      have Hx8 := Lib.hid (Eo.below Hx7.out hb)
      have HB8 := Lib.hid (HB7.out.trans (hb.mono HB7.out.size))
      clear hb ho8
      go_wp2_with fail
      have hb : Below w8.heap.size w8 ((w8.alloc (.cells #[.int .u64 L.bi, .int .u64 L.bt, .slice Ay ny cy] 27)).alloc (.cells #[.int .u64 L.lastI, .int .u64 L.lastT] 24)) := ((Below.refl _ _).alloc (Nat.le_refl _) _).alloc (by simp) _
      have B210 := Lib.hid (B28.out.below hb B28.out.lt)
      have B510 := Lib.hid (B58.out.below hb B58.out.lt)
      have B710 := Lib.hid (B78.out.below hb B78.out.lt)
      have HL10 := Lib.hid (Eo.below HL8.out hb)
      have Hx10 := Lib.hid (Eo.below Hx8.out hb)
      have Hy10 := Lib.hid (Eo.below Hy8.out hb)
      have HB10 := Lib.hid (HB8.out.trans (hb.mono HB8.out.size))
      have BY10 : Hid (Blk ((w8.alloc (.cells #[.int .u64 L.bi, .int .u64 L.bt, .slice Ay ny cy] 27)).alloc (.cells #[.int .u64 L.lastI, .int .u64 L.lastT] 24)) w8.heap.size 27 #[.int .u64 L.bi, .int .u64 L.bt, .slice Ay ny cy]) := Lib.hid ((Blk.new _ _ _).alloc _)
      have BE10 : Hid (Blk ((w8.alloc (.cells #[.int .u64 L.bi, .int .u64 L.bt, .slice Ay ny cy] 27)).alloc (.cells #[.int .u64 L.lastI, .int .u64 L.lastT] 24)) (w8.heap.size + 1) 24 #[.int .u64 L.lastI, .int .u64 L.lastT]) := Lib.hid (Blk.fresh (by simp))
      clear hb
      generalize ((w8.alloc (.cells #[.int .u64 L.bi, .int .u64 L.bt, .slice Ay ny cy] 27)).alloc (.cells #[.int .u64 L.lastI, .int .u64 L.lastT] 24)) = w10 at *
      generalize w8.heap.size = pY at *
      have D5 := B510.out.lt
      have hb : Below w10.heap.size w10 w10.drew := (Below.refl _ _).drew
      have B211 := Lib.hid (B210.out.below hb B210.out.lt)
      have B511 := Lib.hid (B510.out.below hb B510.out.lt)
      have B711 := Lib.hid (B710.out.below hb B710.out.lt)
      have BY11 := Lib.hid (BY10.out.below hb BY10.out.lt)
      have BE11 := Lib.hid (BE10.out.below hb BE10.out.lt)
      have HL11 := Lib.hid (Eo.below HL10.out hb)
      have Hx11 := Lib.hid (Eo.below Hx10.out hb)
      have Hy11 := Lib.hid (Eo.below Hy10.out hb)
      have HB11 := Lib.hid (HB10.out.trans (hb.mono HB10.out.size))
      clear hb D5
      have hS0 := (show _ ∧ _ ∧ _ ∧ _ ∧ _ from ⟨B511.out.three, BY11.out.three, B211.out.three, B711.out.two, BE11.out.two⟩)
      refine wp_region_noPanic ?_
      refine wp_region_held_drew (S := fun w' => (w'.cell? ⟨p5, 0, none⟩ = some (.int .u64 L.bi) ∧ w'.cell? ⟨p5, 1, none⟩ = some (.int .u64 L.bt) ∧ w'.cell? ⟨p5, 2, none⟩ = some (.slice Ax nx cx)) ∧ (w'.cell? ⟨pY, 0, none⟩ = some (.int .u64 L.bi) ∧ w'.cell? ⟨pY, 1, none⟩ = some (.int .u64 L.bt) ∧ w'.cell? ⟨pY, 2, none⟩ = some (.slice Ay ny cy)) ∧ (w'.cell? ⟨w.heap.size, 0, none⟩ = some (.int .u64 L.bi) ∧ w'.cell? ⟨w.heap.size, 1, none⟩ = some (.int .u64 L.bt) ∧ w'.cell? ⟨w.heap.size, 2, none⟩ = some (.slice AL nL cL)) ∧ (w'.cell? ⟨p7, 0, none⟩ = some (.int .u64 (subw i)) ∧ w'.cell? ⟨p7, 1, none⟩ = some (.int .u64 (L.T k))) ∧ (w'.cell? ⟨pY + 1, 0, none⟩ = some (.int .u64 L.lastI) ∧ w'.cell? ⟨pY + 1, 1, none⟩ = some (.int .u64 L.lastT))) (by kernel_rfl) hS0 (fun hHeld => ?_)
      generalize w10.drew = w11 at *
      refine take_d (i := 0) (d := 54) (v := ?c54) rfl rfl (by kernel_rfl) (by kernel_rfl) (by kernel_rfl) (fun _ _ _ h => h) (Or.inl ⟨by kernel_rfl, ?c54h⟩) hHeld ?c54n
      case c54h => (intro w hSw; (try dsimp only at hSw); go_split_ands; go_simp; (try exact rfl))
      try simp only [Act.put, List.setIfInBounds_toArray, List.set_cons_zero, List.set_cons_succ]
      refine take_d (i := 1) (d := 55) (v := ?c55) rfl rfl (by kernel_rfl) (by kernel_rfl) (by kernel_rfl) (fun _ _ _ h => h) (Or.inl ⟨by kernel_rfl, ?c55h⟩) hHeld ?c55n
      case c55h => (intro w hSw; (try dsimp only at hSw); go_split_ands; go_simp; (try exact rfl))
      try simp only [Act.put, List.setIfInBounds_toArray, List.set_cons_zero, List.set_cons_succ]
      refine take_d (i := 2) (d := 56) (v := ?c56) rfl rfl (by kernel_rfl) (by kernel_rfl) (by kernel_rfl) (fun _ _ _ h => h) (Or.inl ⟨by kernel_rfl, ?c56h⟩) hHeld ?c56n
      case c56h => (intro w hSw; (try dsimp only at hSw); go_split_ands; go_simp; (try exact rfl))
      try simp only [Act.put, List.setIfInBounds_toArray, List.set_cons_zero, List.set_cons_succ]
      refine take_d (i := 3) (d := 57) (v := ?c57) rfl rfl (by kernel_rfl) (by kernel_rfl) (by kernel_rfl) (fun _ _ _ h => h) (Or.inl ⟨by kernel_rfl, ?c57h⟩) hHeld ?c57n
      case c57h => (intro w hSw; (try dsimp only at hSw); go_split_ands; go_simp; (try exact rfl))
      try simp only [Act.put, List.setIfInBounds_toArray, List.set_cons_zero, List.set_cons_succ]
      refine wpAnyH_ready (rs := [4]) (by kernel_rfl) (by simp) ?_
      refine AllReadyH.cons rfl (fun K hK => ?_) AllReadyH.nil
      go_simp
      refine (MX.out w11 _ _ _ _ Hx11.out).mono ?_
      rintro e w12 ⟨rfl, hb⟩
      have B212 := Lib.hid (B211.out.below hb B211.out.lt)
      have B512 := Lib.hid (B511.out.below hb B511.out.lt)
      have B712 := Lib.hid (B711.out.below hb B711.out.lt)
      have BY12 := Lib.hid (BY11.out.below hb BY11.out.lt)
      have BE12 := Lib.hid (BE11.out.below hb BE11.out.lt)
      have HL12 := Lib.hid (Eo.below HL11.out hb)
      have Hx12 := Lib.hid (Eo.below Hx11.out hb)
      have Hy12 := Lib.hid (Eo.below Hy11.out hb)
      have HB12 := Lib.hid (HB11.out.trans (hb.mono HB11.out.size))
      clear hb
      refine hK.out _ _ (⟨B512.out.three, BY12.out.three, B212.out.three, B712.out.two, BE12.out.two⟩) (fun hHeld => ?_)
      clear hK K
      try simp only [Act.put, List.setIfInBounds_toArray, List.set_cons_zero, List.set_cons_succ]
      refine take_d (i := 5) (d := 59) (v := ?c59) rfl rfl (by kernel_rfl) (by kernel_rfl) (by kernel_rfl) (fun _ _ _ h => h) (Or.inl ⟨by kernel_rfl, ?c59h⟩) hHeld ?c59n
      case c59h => (intro w hSw; (try dsimp only at hSw); go_split_ands; go_simp; (try exact rfl))
      try simp only [Act.put, List.setIfInBounds_toArray, List.set_cons_zero, List.set_cons_succ]
      refine take_d (i := 6) (d := 60) (v := ?c60) rfl rfl (by kernel_rfl) (by kernel_rfl) (by kernel_rfl) (fun _ _ _ h => h) (Or.inl ⟨by kernel_rfl, ?c60h⟩) hHeld ?c60n
      case c60h => (intro w hSw; (try dsimp only at hSw); go_split_ands; go_simp; (try exact rfl))
      try simp only [Act.put, List.setIfInBounds_toArray, List.set_cons_zero, List.set_cons_succ]
      refine take_d (i := 7) (d := 61) (v := ?c61) rfl rfl (by kernel_rfl) (by kernel_rfl) (by kernel_rfl) (fun _ _ _ h => h) (Or.inl ⟨by kernel_rfl, ?c61h⟩) hHeld ?c61n
      case c61h => (intro w hSw; (try dsimp only at hSw); go_split_ands; go_simp; (try exact rfl))
      try simp only [Act.put, List.setIfInBounds_toArray, List.set_cons_zero, List.set_cons_succ]
      refine take_d (i := 8) (d := 62) (v := ?c62) rfl rfl (by kernel_rfl) (by kernel_rfl) (by kernel_rfl) (fun _ _ _ h => h) (Or.inl ⟨by kernel_rfl, ?c62h⟩) hHeld ?c62n
      case c62h => (intro w hSw; (try dsimp only at hSw); go_split_ands; go_simp; (try exact rfl))
      try simp only [Act.put, List.setIfInBounds_toArray, List.set_cons_zero, List.set_cons_succ]
      refine take_d (i := 10) (d := 64) (v := ?c64) rfl rfl (by kernel_rfl) (by kernel_rfl) (by kernel_rfl) (fun _ _ _ h => h) (Or.inl ⟨by kernel_rfl, ?c64h⟩) hHeld ?c64n
      case c64h => (intro w hSw; (try dsimp only at hSw); go_split_ands; go_simp; (try exact rfl))
      try simp only [Act.put, List.setIfInBounds_toArray, List.set_cons_zero, List.set_cons_succ]
      refine wpAnyH_ready (rs := [9]) (by kernel_rfl) (by simp) ?_
      refine AllReadyH.cons rfl (fun K hK => ?_) AllReadyH.nil
      go_simp
      refine (LX.out w12 _ _ _ _ Hx12.out).mono ?_
      rintro e w13 ⟨rfl, hb⟩
      have B213 := Lib.hid (B212.out.below hb B212.out.lt)
      have B513 := Lib.hid (B512.out.below hb B512.out.lt)
      have B713 := Lib.hid (B712.out.below hb B712.out.lt)
      have BY13 := Lib.hid (BY12.out.below hb BY12.out.lt)
      have BE13 := Lib.hid (BE12.out.below hb BE12.out.lt)
      have HL13 := Lib.hid (Eo.below HL12.out hb)
      have Hx13 := Lib.hid (Eo.below Hx12.out hb)
      have Hy13 := Lib.hid (Eo.below Hy12.out hb)
      have HB13 := Lib.hid (HB12.out.trans (hb.mono HB12.out.size))
      clear hb
      refine hK.out _ _ (⟨B513.out.three, BY13.out.three, B213.out.three, B713.out.two, BE13.out.two⟩) (fun hHeld => ?_)
      clear hK K
      try simp only [Act.put, List.setIfInBounds_toArray, List.set_cons_zero, List.set_cons_succ]
      refine take_d (i := 11) (d := 65) (v := ?c65) rfl rfl (by kernel_rfl) (by kernel_rfl) (by kernel_rfl) (fun _ _ _ h => h) (Or.inl ⟨by kernel_rfl, ?c65h⟩) hHeld ?c65n
      case c65h => (intro w hSw; (try dsimp only at hSw); go_split_ands; go_simp; (try exact rfl))
      try simp only [Act.put, List.setIfInBounds_toArray, List.set_cons_zero, List.set_cons_succ]
      refine take_d (i := 12) (d := 66) (v := ?c66) rfl rfl (by kernel_rfl) (by kernel_rfl) (by kernel_rfl) (fun _ _ _ h => h) (Or.inl ⟨by kernel_rfl, ?c66h⟩) hHeld ?c66n
      case c66h => (intro w hSw; (try dsimp only at hSw); go_split_ands; go_simp; (try exact rfl))
      try simp only [Act.put, List.setIfInBounds_toArray, List.set_cons_zero, List.set_cons_succ]
      refine take_d (i := 13) (d := 67) (v := ?c67) rfl rfl (by kernel_rfl) (by kernel_rfl) (by kernel_rfl) (fun _ _ _ h => h) (Or.inl ⟨by kernel_rfl, ?c67h⟩) hHeld ?c67n
      case c67h => (intro w hSw; (try dsimp only at hSw); go_split_ands; go_simp; (try exact rfl))
      try simp only [Act.put, List.setIfInBounds_toArray, List.set_cons_zero, List.set_cons_succ]
      refine take_d (i := 14) (d := 68) (v := ?c68) rfl rfl (by kernel_rfl) (by kernel_rfl) (by kernel_rfl) (fun _ _ _ h => h) (Or.inl ⟨by kernel_rfl, ?c68h⟩) hHeld ?c68n
      case c68h => (intro w hSw; (try dsimp only at hSw); go_split_ands; go_simp; (try exact rfl))
      try simp only [Act.put, List.setIfInBounds_toArray, List.set_cons_zero, List.set_cons_succ]
      refine take_d (i := 15) (d := 69) (v := ?c69) rfl rfl (by kernel_rfl) (by kernel_rfl) (by kernel_rfl) (fun _ _ _ h => h) (Or.inl ⟨by kernel_rfl, ?c69h⟩) hHeld ?c69n
      case c69h => (intro w hSw; (try dsimp only at hSw); go_split_ands; go_simp; (try exact rfl))
      try simp only [Act.put, List.setIfInBounds_toArray, List.set_cons_zero, List.set_cons_succ]
      refine wpAnyH_ready (rs := [16]) (by kernel_rfl) (by simp) ?_
      refine AllReadyH.cons rfl (fun K hK => ?_) AllReadyH.nil
      go_simp
      refine (SY.out w13 _ _ _ _ Hy13.out HL13.out).mono ?_
      rintro e w14 ⟨rfl, hb⟩
      have B214 := Lib.hid (B213.out.below hb B213.out.lt)
      have B514 := Lib.hid (B513.out.below hb B513.out.lt)
      have B714 := Lib.hid (B713.out.below hb B713.out.lt)
      have BY14 := Lib.hid (BY13.out.below hb BY13.out.lt)
      have BE14 := Lib.hid (BE13.out.below hb BE13.out.lt)
      have HL14 := Lib.hid (Eo.below HL13.out hb)
      have Hx14 := Lib.hid (Eo.below Hx13.out hb)
      have Hy14 := Lib.hid (Eo.below Hy13.out hb)
      have HB14 := Lib.hid (HB13.out.trans (hb.mono HB13.out.size))
      clear hb
      refine hK.out _ _ (⟨B514.out.three, BY14.out.three, B214.out.three, B714.out.two, BE14.out.two⟩) (fun hHeld => ?_)
      clear hK K
      try simp only [Act.put, List.setIfInBounds_toArray, List.set_cons_zero, List.set_cons_succ]
      refine take_d (i := 17) (d := 71) (v := ?c71) rfl rfl (by kernel_rfl) (by kernel_rfl) (by kernel_rfl) (fun _ _ _ h => h) (Or.inl ⟨by kernel_rfl, ?c71h⟩) hHeld ?c71n
      case c71h => (intro w hSw; (try dsimp only at hSw); go_split_ands; go_simp; (try exact rfl))
      try simp only [Act.put, List.setIfInBounds_toArray, List.set_cons_zero, List.set_cons_succ]
      refine take_d (i := 18) (d := 72) (v := ?c72) rfl rfl (by kernel_rfl) (by kernel_rfl) (by kernel_rfl) (fun _ _ _ h => h) (Or.inl ⟨by kernel_rfl, ?c72h⟩) hHeld ?c72n
      case c72h => (intro w hSw; (try dsimp only at hSw); go_split_ands; go_simp; (try exact rfl))
      try simp only [Act.put, List.setIfInBounds_toArray, List.set_cons_zero, List.set_cons_succ]
      refine take_d (i := 19) (d := 73) (v := ?c73) rfl rfl (by kernel_rfl) (by kernel_rfl) (by kernel_rfl) (fun _ _ _ h => h) (Or.inl ⟨by kernel_rfl, ?c73h⟩) hHeld ?c73n
      case c73h => (intro w hSw; (try dsimp only at hSw); go_split_ands; go_simp; (try exact rfl))
      try simp only [Act.put, List.setIfInBounds_toArray, List.set_cons_zero, List.set_cons_succ]
      refine take_d (i := 20) (d := 74) (v := ?c74) rfl rfl (by kernel_rfl) (by kernel_rfl) (by kernel_rfl) (fun _ _ _ h => h) (Or.inl ⟨by kernel_rfl, ?c74h⟩) hHeld ?c74n
      case c74h => (intro w hSw; (try dsimp only at hSw); go_split_ands; go_simp; (try exact rfl))
      try simp only [Act.put, List.setIfInBounds_toArray, List.set_cons_zero, List.set_cons_succ]
      refine take_d (i := 21) (d := 75) (v := ?c75) rfl rfl (by kernel_rfl) (by kernel_rfl) (by kernel_rfl) (fun _ _ _ h => h) (Or.inl ⟨by kernel_rfl, ?c75h⟩) hHeld ?c75n
      case c75h => (intro w hSw; (try dsimp only at hSw); go_split_ands; go_simp; (try exact rfl))
      try simp only [Act.put, List.setIfInBounds_toArray, List.set_cons_zero, List.set_cons_succ]
      refine wpAnyH_ready (rs := [22]) (by kernel_rfl) (by simp) ?_
      refine AllReadyH.cons rfl (fun K hK => ?_) AllReadyH.nil
      go_simp
      refine (LL.out w14 HL14.out).mono ?_
      rintro e w15 ⟨rfl, hb⟩
      have B215 := Lib.hid (B214.out.below hb B214.out.lt)
      have B515 := Lib.hid (B514.out.below hb B514.out.lt)
      have B715 := Lib.hid (B714.out.below hb B714.out.lt)
      have BY15 := Lib.hid (BY14.out.below hb BY14.out.lt)
      have BE15 := Lib.hid (BE14.out.below hb BE14.out.lt)
      have HL15 := Lib.hid (Eo.below HL14.out hb)
      have Hx15 := Lib.hid (Eo.below Hx14.out hb)
      have Hy15 := Lib.hid (Eo.below Hy14.out hb)
      have HB15 := Lib.hid (HB14.out.trans (hb.mono HB14.out.size))
      clear hb
      refine hK.out _ _ (⟨B515.out.three, BY15.out.three, B215.out.three, B715.out.two, BE15.out.two⟩) (fun hHeld => ?_)
      clear hK K
      try simp only [Act.put, List.setIfInBounds_toArray, List.set_cons_zero, List.set_cons_succ]
      refine take_d (i := 23) (d := 77) (v := ?c77) rfl rfl (by kernel_rfl) (by kernel_rfl) (by kernel_rfl) (fun _ _ _ h => h) (Or.inl ⟨by kernel_rfl, ?c77h⟩) hHeld ?c77n
      case c77h => (intro w hSw; (try dsimp only at hSw); go_split_ands; go_simp; (try exact rfl))
      try simp only [Act.put, List.setIfInBounds_toArray, List.set_cons_zero, List.set_cons_succ]
      refine take_d (i := 24) (d := 78) (v := ?c78) rfl rfl (by kernel_rfl) (by kernel_rfl) (by kernel_rfl) (fun _ _ _ h => h) (Or.inl ⟨by kernel_rfl, ?c78h⟩) hHeld ?c78n
      case c78h => (intro w hSw; (try dsimp only at hSw); go_split_ands; go_simp; (try exact rfl))
      try simp only [Act.put, List.setIfInBounds_toArray, List.set_cons_zero, List.set_cons_succ]
      refine wpAnyH_done (by kernel_rfl) ?_ _
      refine NoPanic.normal ?_
      clear MX LX SY EXT
      obtain ⟨x0, x1, x2⟩ := B215.out.three
      go_wp2_with fail
      clear x0 x1 x2
      by_cases hE2 : spotE L i = 0
      rotate_left
      · have hz0 : pComL L i = lg0 := if_neg hE2
        rw [hz0] at CO
        have hE3 : (spotE L i == 0) = false := by simp [hE2]
        generalize spotE L i = E2 at *
        refine (CO.out w15 HL15.out).mono ?_
        rintro e w16 ⟨Az, nz, cz, rfl, hoz, hb⟩
        have B216 := Lib.hid (B215.out.below hb B215.out.lt)
        have HL16 := Lib.hid (Eo.below HL15.out hb)
        have HB16 := Lib.hid (HB15.out.trans (hb.mono HB15.out.size))
        obtain rfl : nz = 0 := by have := hoz.len; exact this.symm
        clear hb hoz
        obtain ⟨x0, x1, x2⟩ := B216.out.three
        have hz := B216.out.lt
        go_wp2_with fail
        clear x0 x1 x2 hz
        have hb : Below w16.heap.size w16 (w16.alloc (.cells #[.int .u64 lg0.bi, .int .u64 lg0.bt, .slice Az 0 cz] 27)) := (Below.refl _ _).alloc (Nat.le_refl _) _
        have B217 := Lib.hid (B216.out.below hb B216.out.lt)
        have HL17 := Lib.hid (Eo.below HL16.out hb)
        have HB17 := Lib.hid (HB16.out.trans (hb.mono HB16.out.size))
        have BZ17 : Hid (Blk (w16.alloc (.cells #[.int .u64 lg0.bi, .int .u64 lg0.bt, .slice Az 0 cz] 27)) w16.heap.size 27 #[.int .u64 lg0.bi, .int .u64 lg0.bt, .slice Az 0 cz]) := Lib.hid (Blk.new _ _ _)
        clear hb
        generalize (w16.alloc (.cells #[.int .u64 lg0.bi, .int .u64 lg0.bt, .slice Az 0 cz] 27)) = w17 at *
        generalize w16.heap.size = pZ at *
        refine (TE.out w17 HL17.out).mono ?_
        rintro e w18 ⟨rfl, hb⟩
        have B218 := Lib.hid (B217.out.below hb B217.out.lt)
        have BZ18 := Lib.hid (BZ17.out.below hb BZ17.out.lt)
        have HL18 := Lib.hid (Eo.below HL17.out hb)
        have HB18 := Lib.hid (HB17.out.trans (hb.mono HB17.out.size))
        clear hb
        obtain ⟨x0, x1, x2⟩ := BZ18.out.three
        go_wp2
        go_ret
        exact ⟨rfl, HB18.out⟩
      · skip
        obtain ⟨hik, hkn2, hT2⟩ := SI.out hE2
        obtain ⟨k2, hk2⟩ : ∃ k2, spotN L i = k2 := ⟨_, rfl⟩
        rw [hk2] at hik hkn2 hT2
        have hz0 : pComL L i = ⟨L.bi + k2, L.T k2, L.es.drop k2⟩ := by unfold pComL; rw [if_pos hE2, hk2, hT2, ← hik]
        rw [hz0, hE2] at CO
        rw [hE2, hT2] at TE
        clear hz0 hE2 hk2 jb
        subst hik
        have h16 := H16.out
        have hLend := HEnd.out
        have hr := HRT.out
        have hzr := com_right hr hi0 hkn2
        have hzl := com_last (l := L) hkn2
        have hZok : Lok ⟨L.bi + k2, L.T k2, L.es.drop k2⟩ := ⟨by show (L.es.drop k2).length ≤ 100; rw [List.length_drop]; omega, by show 0 ≤ L.bi + (k2 : Int); omega, by show L.bi + (k2 : Int) < _; omega, (by have := (LR.out w2 HL2.out).T01 (k := k2) (by have := HN.out; omega); exact this.1), (by have := (LR.out w2 HL2.out).T01 (k := k2) (by have := HN.out; omega); exact this.2)⟩
        have TZ := fun (j : Nat) (hj : j ≤ L.es.length) => term_com hr hi0 hkn2 hj
        refine (CO.out w15 HL15.out).mono ?_
        rintro e w16 ⟨Az, nz, cz, rfl, hoz, hb⟩
        have Hz16 := Lib.hid (hoz.down HB15.out.size)
        have B216 := Lib.hid (B215.out.below hb B215.out.lt)
        have HL16 := Lib.hid (Eo.below HL15.out hb)
        have HB16 := Lib.hid (HB15.out.trans (hb.mono HB15.out.size))
        clear hb hoz
        have MZ : Hid (∀ W, Eo W w.heap.size Az nz cz (L.es.drop k2) → Calls Try.prog 42 #[.agg #[.int .u64 (L.bi + (k2 : Int)), .int .u64 (L.T k2), .slice Az nz cz]] W fun e w' => e = .returned (.bool true) ∧ Below W.heap.size W w') := Lib.hid (fun W ho => by
          have := may_any ⟨L.bi + k2, L.T k2, L.es.drop k2⟩ Az nz cz W.heap.size W (hZok.lr ho) (Nat.le_refl _)
          rw [hzr] at this
          exact this)
        have LZ : Hid (∀ W, Eo W w.heap.size Az nz cz (L.es.drop k2) → Calls Try.prog 28 #[.agg #[.int .u64 (L.bi + (k2 : Int)), .int .u64 (L.T k2), .slice Az nz cz]] W fun e w' => e = .returned (.agg #[.int .u64 L.lastI, .int .u64 L.lastT]) ∧ Below W.heap.size W w') := Lib.hid (fun W ho => by
          have := Last_any ⟨L.bi + k2, L.T k2, L.es.drop k2⟩ Az nz cz W.heap.size W (hZok.lr ho) (Nat.le_refl _)
          unfold pLastI pLastT at this
          rw [if_pos hzr, if_pos hzr, hzl.1, hzl.2] at this
          exact this)
        have TZ2 : Hid (∀ j : Nat, j ≤ L.es.length → ∀ W, Eo W w.heap.size Az nz cz (L.es.drop k2) → ∃ t, (L.bi + (k2 : Int) ≤ L.bi + (j : Int) → t = L.T j) ∧ Calls Try.prog 30 #[.agg #[.int .u64 (L.bi + (k2 : Int)), .int .u64 (L.T k2), .slice Az nz cz], .int .u64 (L.bi + (j : Int))] W fun e w' => e = .returned (.tuple #[.int .u64 t, .bool (decide (L.bi + (k2 : Int) ≤ L.bi + (j : Int)))]) ∧ Below W.heap.size W w') := Lib.hid (fun j hj W ho => by
          have := Term_any ⟨L.bi + k2, L.T k2, L.es.drop k2⟩ Az nz cz W.heap.size W (hZok.lr ho) (Nat.le_refl _) (L.bi + j) (by omega) (by omega)
          rw [(TZ j hj).1] at this
          exact ⟨_, (TZ j hj).2, this⟩)
        clear TZ hzr hzl hr hT2 h16 hLend hkn2
        obtain ⟨x0, x1, x2⟩ := B216.out.three
        have hz := B216.out.lt
        go_wp2_with fail
        clear x0 x1 x2 hz
        have hb : Below w16.heap.size w16 (w16.alloc (.cells #[.int .u64 (L.bi + (k2 : Int)), .int .u64 (L.T k2), .slice Az nz cz] 27)) := (Below.refl _ _).alloc (Nat.le_refl _) _
        have B217 := Lib.hid (B216.out.below hb B216.out.lt)
        have HL17 := Lib.hid (Eo.below HL16.out hb)
        have Hz17 := Lib.hid (Eo.below Hz16.out hb)
        have HB17 := Lib.hid (HB16.out.trans (hb.mono HB16.out.size))
        have BZ17 : Hid (Blk (w16.alloc (.cells #[.int .u64 (L.bi + (k2 : Int)), .int .u64 (L.T k2), .slice Az nz cz] 27)) w16.heap.size 27 #[.int .u64 (L.bi + (k2 : Int)), .int .u64 (L.T k2), .slice Az nz cz]) := Lib.hid (Blk.new _ _ _)
        clear hb
        generalize (w16.alloc (.cells #[.int .u64 (L.bi + (k2 : Int)), .int .u64 (L.T k2), .slice Az nz cz] 27)) = w17 at *
        generalize w16.heap.size = pZ at *
        refine (TE.out w17 HL17.out).mono ?_
        rintro e w18 ⟨rfl, hb⟩
        have B218 := Lib.hid (B217.out.below hb B217.out.lt)
        have BZ18 := Lib.hid (BZ17.out.below hb BZ17.out.lt)
        have HL18 := Lib.hid (Eo.below HL17.out hb)
        have Hz18 := Lib.hid (Eo.below Hz17.out hb)
        have HB18 := Lib.hid (HB17.out.trans (hb.mono HB17.out.size))
        clear hb
        have q3 := Eqa_refl (L.bi + (k2 : Int)) (L.T k2)
        have q4 := Eqa_refl L.lastI L.lastT
        go_wp2_with fail
        have hb : Below w18.heap.size w18 w18.drew := (Below.refl _ _).drew
        have B219 := Lib.hid (B218.out.below hb B218.out.lt)
        have BZ19 := Lib.hid (BZ18.out.below hb BZ18.out.lt)
        have HL19 := Lib.hid (Eo.below HL18.out hb)
        have Hz19 := Lib.hid (Eo.below Hz18.out hb)
        have HB19 := Lib.hid (HB18.out.trans (hb.mono HB18.out.size))
        clear hb
        have hS1 := (show _ ∧ _ from ⟨BZ19.out.three, B219.out.three⟩)
        refine wp_region_noPanic ?_
        refine wp_region_held_drew (S := fun w' => (w'.cell? ⟨pZ, 0, none⟩ = some (.int .u64 (L.bi + (k2 : Int))) ∧ w'.cell? ⟨pZ, 1, none⟩ = some (.int .u64 (L.T k2)) ∧ w'.cell? ⟨pZ, 2, none⟩ = some (.slice Az nz cz)) ∧ (w'.cell? ⟨w.heap.size, 0, none⟩ = some (.int .u64 L.bi) ∧ w'.cell? ⟨w.heap.size, 1, none⟩ = some (.int .u64 L.bt) ∧ w'.cell? ⟨w.heap.size, 2, none⟩ = some (.slice AL nL cL))) (by kernel_rfl) hS1 (fun hHeld => ?_)
        generalize w18.drew = w19 at *
        refine take_d (i := 0) (d := 101) (v := ?e101) rfl rfl (by kernel_rfl) (by kernel_rfl) (by kernel_rfl) (fun _ _ _ h => h) (Or.inl ⟨by kernel_rfl, ?e101h⟩) hHeld ?e101n
        case e101h => (intro w hSw; (try dsimp only at hSw); go_split_ands; go_simp; (try exact rfl))
        try simp only [Act.put, List.setIfInBounds_toArray, List.set_cons_zero, List.set_cons_succ]
        refine wpAnyH_ready (rs := [1]) (by kernel_rfl) (by simp) ?_
        refine AllReadyH.cons rfl (fun K hK => ?_) AllReadyH.nil
        go_simp
        refine (MZ.out w19 Hz19.out).mono ?_
        rintro e w20 ⟨rfl, hb⟩
        have B220 := Lib.hid (B219.out.below hb B219.out.lt)
        have BZ20 := Lib.hid (BZ19.out.below hb BZ19.out.lt)
        have HL20 := Lib.hid (Eo.below HL19.out hb)
        have Hz20 := Lib.hid (Eo.below Hz19.out hb)
        have HB20 := Lib.hid (HB19.out.trans (hb.mono HB19.out.size))
        clear hb
        refine hK.out _ _ (⟨BZ20.out.three, B220.out.three⟩) (fun hHeld => ?_)
        clear hK K
        try simp only [Act.put, List.setIfInBounds_toArray, List.set_cons_zero, List.set_cons_succ]
        refine take_d (i := 2) (d := 103) (v := ?e103) rfl rfl (by kernel_rfl) (by kernel_rfl) (by kernel_rfl) (fun _ _ _ h => h) (Or.inl ⟨by kernel_rfl, ?e103h⟩) hHeld ?e103n
        case e103h => (intro w hSw; (try dsimp only at hSw); go_split_ands; go_simp; (try exact rfl))
        try simp only [Act.put, List.setIfInBounds_toArray, List.set_cons_zero, List.set_cons_succ]
        refine take_d (i := 3) (d := 104) (v := ?e104) rfl rfl (by kernel_rfl) (by kernel_rfl) (by kernel_rfl) (fun _ _ _ h => h) (Or.inl ⟨by kernel_rfl, ?e104h⟩) hHeld ?e104n
        case e104h => (intro w hSw; (try dsimp only at hSw); go_split_ands; go_simp; (try exact rfl))
        try simp only [Act.put, List.setIfInBounds_toArray, List.set_cons_zero, List.set_cons_succ]
        refine take_d (i := 4) (d := 105) (v := ?e105) rfl rfl (by kernel_rfl) (by kernel_rfl) (by kernel_rfl) (fun _ _ _ h => h) (Or.inl ⟨by kernel_rfl, ?e105h⟩) hHeld ?e105n
        case e105h => (intro w hSw; (try dsimp only at hSw); go_split_ands; go_simp; (try exact rfl))
        try simp only [Act.put, List.setIfInBounds_toArray, List.set_cons_zero, List.set_cons_succ]
        refine take_d (i := 5) (d := 106) (v := ?e106) rfl rfl (by kernel_rfl) (by kernel_rfl) (by kernel_rfl) (fun _ _ _ h => h) (Or.inl ⟨by kernel_rfl, ?e106h⟩) hHeld ?e106n
        case e106h => (intro w hSw; (try dsimp only at hSw); go_split_ands; go_simp; (try exact rfl))
        try simp only [Act.put, List.setIfInBounds_toArray, List.set_cons_zero, List.set_cons_succ]
        refine take_d (i := 6) (d := 107) (v := ?e107) rfl rfl (by kernel_rfl) (by kernel_rfl) (by kernel_rfl) (fun _ _ _ h => h) (Or.inl ⟨by kernel_rfl, ?e107h⟩) hHeld ?e107n
        case e107h => (intro w hSw; (try dsimp only at hSw); go_split_ands; go_simp; (try exact rfl))
        try simp only [Act.put, List.setIfInBounds_toArray, List.set_cons_zero, List.set_cons_succ]
        refine take_d (i := 7) (d := 108) (v := ?e108) rfl rfl (by kernel_rfl) (by kernel_rfl) (by kernel_rfl) (fun _ _ _ h => h) (Or.inl ⟨by kernel_rfl, ?e108h⟩) hHeld ?e108n
        case e108h => (intro w hSw; (try dsimp only at hSw); go_split_ands; go_simp; (try exact rfl))
        try simp only [Act.put, List.setIfInBounds_toArray, List.set_cons_zero, List.set_cons_succ]
        refine take_d (i := 8) (d := 109) (v := ?e109) rfl rfl (by kernel_rfl) (by kernel_rfl) (by kernel_rfl) (fun _ _ _ h => h) (Or.inl ⟨by kernel_rfl, ?e109h⟩) hHeld ?e109n
        case e109h => (intro w hSw; (try dsimp only at hSw); go_split_ands; go_simp; (try exact rfl))
        try simp only [Act.put, List.setIfInBounds_toArray, List.set_cons_zero, List.set_cons_succ]
        refine take_d (i := 9) (d := 110) (v := ?e110) rfl rfl (by kernel_rfl) (by kernel_rfl) (by kernel_rfl) (fun _ _ _ h => h) (Or.inl ⟨by kernel_rfl, ?e110h⟩) hHeld ?e110n
        case e110h => (intro w hSw; (try dsimp only at hSw); go_split_ands; go_simp; (try exact rfl))
        try simp only [Act.put, List.setIfInBounds_toArray, List.set_cons_zero, List.set_cons_succ]
        refine take_d (i := 10) (d := 111) (v := ?e111) rfl rfl (by kernel_rfl) (by kernel_rfl) (by kernel_rfl) (fun _ _ _ h => h) (Or.inl ⟨by kernel_rfl, ?e111h⟩) hHeld ?e111n
        case e111h => (intro w hSw; (try dsimp only at hSw); go_split_ands; go_simp; (try exact rfl))
        try simp only [Act.put, List.setIfInBounds_toArray, List.set_cons_zero, List.set_cons_succ]
        refine take_d (i := 11) (d := 112) (v := ?e112) rfl rfl (by kernel_rfl) (by kernel_rfl) (by kernel_rfl) (fun _ _ _ h => h) (Or.inl ⟨by kernel_rfl, ?e112h⟩) hHeld ?e112n
        case e112h => (intro w hSw; (try dsimp only at hSw); go_split_ands; go_simp; (try exact rfl))
        try simp only [Act.put, List.setIfInBounds_toArray, List.set_cons_zero, List.set_cons_succ]
        refine take_d (i := 12) (d := 113) (v := ?e113) rfl rfl (by kernel_rfl) (by kernel_rfl) (by kernel_rfl) (fun _ _ _ h => h) (Or.inl ⟨by kernel_rfl, ?e113h⟩) hHeld ?e113n
        case e113h => (intro w hSw; (try dsimp only at hSw); go_split_ands; go_simp; (try exact rfl))
        try simp only [Act.put, List.setIfInBounds_toArray, List.set_cons_zero, List.set_cons_succ]
        refine take_d (i := 14) (d := 115) (v := ?e115) rfl rfl (by kernel_rfl) (by kernel_rfl) (by kernel_rfl) (fun _ _ _ h => h) (Or.inl ⟨by kernel_rfl, ?e115h⟩) hHeld ?e115n
        case e115h => (intro w hSw; (try dsimp only at hSw); go_split_ands; go_simp; (try exact rfl))
        try simp only [Act.put, List.setIfInBounds_toArray, List.set_cons_zero, List.set_cons_succ]
        refine wpAnyH_ready (rs := [13]) (by kernel_rfl) (by simp) ?_
        refine AllReadyH.cons rfl (fun K hK => ?_) AllReadyH.nil
        go_simp
        refine (LZ.out w20 Hz20.out).mono ?_
        rintro e w21 ⟨rfl, hb⟩
        have B221 := Lib.hid (B220.out.below hb B220.out.lt)
        have BZ21 := Lib.hid (BZ20.out.below hb BZ20.out.lt)
        have HL21 := Lib.hid (Eo.below HL20.out hb)
        have Hz21 := Lib.hid (Eo.below Hz20.out hb)
        have HB21 := Lib.hid (HB20.out.trans (hb.mono HB20.out.size))
        clear hb
        refine hK.out _ _ (⟨BZ21.out.three, B221.out.three⟩) (fun hHeld => ?_)
        clear hK K
        try simp only [Act.put, List.setIfInBounds_toArray, List.set_cons_zero, List.set_cons_succ]
        refine wpAnyH_ready (rs := [15]) (by kernel_rfl) (by simp) ?_
        refine AllReadyH.cons rfl (fun K hK => ?_) AllReadyH.nil
        go_simp
        refine (LL.out w21 HL21.out).mono ?_
        rintro e w22 ⟨rfl, hb⟩
        have B222 := Lib.hid (B221.out.below hb B221.out.lt)
        have BZ22 := Lib.hid (BZ21.out.below hb BZ21.out.lt)
        have HL22 := Lib.hid (Eo.below HL21.out hb)
        have Hz22 := Lib.hid (Eo.below Hz21.out hb)
        have HB22 := Lib.hid (HB21.out.trans (hb.mono HB21.out.size))
        clear hb
        refine hK.out _ _ (⟨BZ22.out.three, B222.out.three⟩) (fun hHeld => ?_)
        clear hK K
        try simp only [Act.put, List.setIfInBounds_toArray, List.set_cons_zero, List.set_cons_succ]
        refine take_d (i := 16) (d := 117) (v := ?e117) rfl rfl (by kernel_rfl) (by kernel_rfl) (by kernel_rfl) (fun _ _ _ h => h) (Or.inl ⟨by kernel_rfl, ?e117h⟩) hHeld ?e117n
        case e117h => (intro w hSw; (try dsimp only at hSw); go_split_ands; go_simp; (try exact rfl))
        try simp only [Act.put, List.setIfInBounds_toArray, List.set_cons_zero, List.set_cons_succ]
        refine take_d (i := 17) (d := 118) (v := ?e118) rfl rfl (by kernel_rfl) (by kernel_rfl) (by kernel_rfl) (fun _ _ _ h => h) (Or.inl ⟨by kernel_rfl, ?e118h⟩) hHeld ?e118n
        case e118h => (intro w hSw; (try dsimp only at hSw); go_split_ands; go_simp; (try exact rfl))
        try simp only [Act.put, List.setIfInBounds_toArray, List.set_cons_zero, List.set_cons_succ]
        refine wpAnyH_done (by kernel_rfl) ?_ _
        refine NoPanic.normal ?_
        have n64 : wrap64 ((nL : Int) + 1) = (nL : Int) + 1 := by rw [wrap64_eq]; have := HN.out; have := H16.out; omega
        obtain ⟨x0, x1, x2⟩ := B222.out.three
        go_wp2_with fail
        rw [n64]
        clear x0 x1 x2 n64
        go_loopw [123] (fun ix wr => ∃ j : Nat, j ≤ nL + 1 ∧ ix = .int .i64 j ∧ Blk wr w.heap.size 27 #[.int .u64 L.bi, .int .u64 L.bt, .slice AL nL cL] ∧ Blk wr pZ 27 #[.int .u64 (L.bi + (k2 : Int)), .int .u64 (L.T k2), .slice Az nz cz] ∧ Eo wr w.heap.size AL nL cL L.es ∧ Eo wr w.heap.size Az nz cz (L.es.drop k2) ∧ Below w.heap.size w wr) (fun ix _ => nL + 1 - (intOf ix).toNat)
        case atStart => exact ⟨0, Nat.zero_le _, rfl, B222.out, BZ22.out, HL22.out, Hz22.out, HB22.out⟩
        case round =>
          obtain ⟨j, hj, rfl, c2', cZ', oL', oz', hb'⟩ := hrel
          have B20 := Lib.hid c2'
          have BZ0 := Lib.hid cZ'
          have HL0 := Lib.hid oL'
          have Hz0 := Lib.hid oz'
          have HB0 := Lib.hid hb'
          clear c2' cZ' oL' oz' hb'
          by_cases hlt : j < nL + 1
          · have hjl : j ≤ L.es.length := by have := HN.out; omega
            have l0 : ((j : Int) < (nL : Int) + 1) := by omega
            have e18 : IntKind.u64.wrap (L.bi + (j : Int)) = L.bi + (j : Int) := by rw [IntKind.wrap_u64]; have := HEnd.out; have := hi0; omega
            have e19 : IntKind.u64.wrap (j : Int) = (j : Int) := by rw [IntKind.wrap_u64]; have := H16.out; omega
            obtain ⟨x0, x1, x2⟩ := B20.out.three
            go_wp2_with fail
            clear x0 x1 x2
            refine (TI.out j hjl wr HL0.out).mono ?_
            rintro e v1 ⟨rfl, hb⟩
            have B21 := Lib.hid (B20.out.below hb B20.out.lt)
            have BZ1 := Lib.hid (BZ0.out.below hb BZ0.out.lt)
            have HL1 := Lib.hid (Eo.below HL0.out hb)
            have Hz1 := Lib.hid (Eo.below Hz0.out hb)
            have HB1 := Lib.hid (HB0.out.trans (hb.mono HB0.out.size))
            clear hb
            obtain ⟨x0, x1, x2⟩ := BZ1.out.three
            go_wp2_with fail
            clear x0 x1 x2
            obtain ⟨t, ht, hcall⟩ := TZ2.out j hjl v1 Hz1.out
            refine hcall.mono ?_
            rintro e v2 ⟨rfl, hb⟩
            have B22' := Lib.hid (B21.out.below hb B21.out.lt)
            have BZ2' := Lib.hid (BZ1.out.below hb BZ1.out.lt)
            have HL2' := Lib.hid (Eo.below HL1.out hb)
            have Hz2' := Lib.hid (Eo.below Hz1.out hb)
            have HB2' := Lib.hid (HB1.out.trans (hb.mono HB1.out.size))
            clear hb hcall
            by_cases hge : L.bi + (k2 : Int) ≤ L.bi + (j : Int)
            · have hd : decide (L.bi + (k2 : Int) ≤ L.bi + (j : Int)) = true := decide_eq_true hge
              have hkj : k2 ≤ j := by omega
              obtain rfl := ht hge
              rw [hd]
              clear hge ht
              have j64 : wrap64 ((j : Int) + 1) = (j : Int) + 1 := by rw [wrap64_eq]; have := HN.out; have := H16.out; omega
              go_wp2
              go_roundw
              case rel => exact ⟨j + 1, (by clear j64; omega), (by first | (rw [j64]; rfl) | go_num), B22'.out, BZ2'.out, HL2'.out, Hz2'.out, HB2'.out⟩
              case measure => (try rw [j64]); clear j64; simp [intOf]; omega
            · have hd : decide (L.bi + (k2 : Int) ≤ L.bi + (j : Int)) = false := decide_eq_false hge
              have hkj : j < k2 := by omega
              have hkj2 : ¬ k2 ≤ j := by omega
              rw [hd]
              clear hge ht
              have j64 : wrap64 ((j : Int) + 1) = (j : Int) + 1 := by rw [wrap64_eq]; have := HN.out; have := H16.out; omega
              go_wp2
              go_roundw
              case rel => exact ⟨j + 1, (by clear j64; omega), (by first | (rw [j64]; rfl) | go_num), B22'.out, BZ2'.out, HL2'.out, Hz2'.out, HB2'.out⟩
              case measure => (try rw [j64]); clear j64; simp [intOf]; omega
          · have l0 : ¬ ((j : Int) < (nL : Int) + 1) := by omega
            go_wp2
            go_ret
            exact ⟨rfl, HB0.out⟩

end Go.Proofs.Ytmgaihdepglahaa
