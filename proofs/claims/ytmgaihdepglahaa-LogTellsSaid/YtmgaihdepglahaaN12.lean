/-
  The document's From: entries from an Index on, and the spot ahead.
-/
import Derived.Test.YtmgaihdepglahaaN9
import Derived.Test.YtmgaihdepglahaaAP
namespace Go.Proofs.Ytmgaihdepglahaa
open Go.RowKit

def Lfe (w : World) (I T er : Int) (es : List En) (e : Ending) (w' : World) : Prop := ∃ A m c, e = .returned (.tuple #[.agg #[.int .u64 I, .int .u64 T], .slice A m c, .int .i64 er]) ∧ Es w' w'.heap.size A m es ∧ m ≤ 1000000 ∧ Below w.heap.size w w'

theorem rfrom_none {l : Lg} {i q : Int} (h : l.ahead i = none) : rFromE l i q = 4 ∧ rFromI l i q = 0 ∧ rFromT l i q = 0 ∧ rFromL l i q = [] := by
  have e : rFromE l i q = 4 := by unfold rFromE; rw [h]; rfl
  exact ⟨e, by unfold rFromI; rw [if_neg (by rw [e]; decide)], by unfold rFromT; rw [if_neg (by rw [e]; decide)], by unfold rFromL; rw [if_neg (by rw [e]; decide)]⟩
theorem rfrom_neg {l : Lg} {i q : Int} {k : Nat} (h : l.ahead i = some k) (hq : q < 0) : rFromE l i q = 2 ∧ rFromI l i q = 0 ∧ rFromT l i q = 0 ∧ rFromL l i q = [] := by
  have e : rFromE l i q = 2 := by unfold rFromE; rw [h, if_neg (by simp), if_pos hq]
  exact ⟨e, by unfold rFromI; rw [if_neg (by rw [e]; decide)], by unfold rFromT; rw [if_neg (by rw [e]; decide)], by unfold rFromL; rw [if_neg (by rw [e]; decide)]⟩
theorem rfrom_some {l : Lg} {i q : Int} {k : Nat} (h : l.ahead i = some k) (hq : ¬ q < 0) : rFromE l i q = 0 ∧ rFromI l i q = i - 1 ∧ rFromT l i q = l.T k ∧ rFromL l i q = (l.es.drop k).take q.toNat := by
  have e : rFromE l i q = 0 := by unfold rFromE; rw [h, if_neg (by simp), if_neg hq]
  exact ⟨e, by unfold rFromI; rw [if_pos e], by unfold rFromT; rw [if_pos e, h]; rfl, by unfold rFromL; rw [if_pos e, h]; rfl⟩

set_option linter.unusedSimpArgs false in
set_option maxRecDepth 100000 in
set_option maxHeartbeats 2000000 in
theorem reffrom_any (l : Lg) (A : Option Addr) (n c B : Nat) (w : World) (h : Lr w B A n c l) (hB : B ≤ w.heap.size) (i q : Int) (hi0 : 0 ≤ i) (hi1 : i < 18446744073709551616) :
    Calls Try.prog 33 #[.agg #[.int .u64 l.bi, .int .u64 l.bt, .slice A n c], .int .u64 i, .int .i64 q] w (Lfe w (rFromI l i q) (rFromT l i q) (rFromE l i q) (rFromL l i q)) := by
  have NU := Lib.hid (fun W (hW : Below B w W) => refnumber_any l A n c B W (h.below hW) (Nat.le_trans hB hW.size))
  have HNB : Hid (∀ i, 0 ≤ i → i < 18446744073709551616 → ∀ k, l.num i = some k → k ≤ n ∧ spI l.bi k = i) := fun i hi0 hi1 k hk => by rw [← h.len]; exact numB_some hi0 hi1 hk
  have H := Lib.hid h
  obtain ⟨bi, bt, es⟩ := l
  obtain ⟨hes, hnc, hnil, hn, hbi0, hbi1, hbt0, hbt1⟩ := h
  simp only at hes hbi0 hbi1 hbt0 hbt1 HNB
  have SP := Lib.hid (fun W (hW : Below B w W) => refspots_any bi bt A n c B es W (hes.below hW) (by omega) (Nat.le_trans hB hW.size) hbi0 hbi1)
  have EN := Lib.hid (fun k (hk : k ≤ n) W (hW : Below B w W) => by
    have := refentries_any (if c = k then A else A.map (·.add (k * 3))) (n - k) (c - k) B (es.drop k) W (by
      have e := (hes.below hW).cut (k := k) (m := n - k) (c := c) (Nat.le_refl _) hk hnc
      rw [List.take_of_length_le (by rw [List.length_drop, hes.len]; exact Nat.le_refl _)] at e
      exact e) (by omega) (Nat.le_trans hB hW.size)
    exact this)
  have HB := Lib.hid (show Below w.heap.size w ((w.alloc (.cells #[.int .u64 bi, .int .u64 bt, .slice A n c] 27)).alloc (.cells #[.int .u64 0, .int .u64 0] 24)) from ((Below.refl _ _).alloc (Nat.le_refl _) _).alloc (by simp) _)
  have b0 := Lib.hid (show Blk ((w.alloc (.cells #[.int .u64 bi, .int .u64 bt, .slice A n c] 27)).alloc (.cells #[.int .u64 0, .int .u64 0] 24)) w.heap.size 27 #[.int .u64 bi, .int .u64 bt, .slice A n c] from (Blk.new w 27 _).alloc _)
  have b1 := Lib.hid (show Blk ((w.alloc (.cells #[.int .u64 bi, .int .u64 bt, .slice A n c] 27)).alloc (.cells #[.int .u64 0, .int .u64 0] 24)) (w.heap.size + 1) 24 #[.int .u64 0, .int .u64 0] from Blk.fresh (by simp))
  have C3 : Hid (∀ W, Blk W w.heap.size 27 #[.int .u64 bi, .int .u64 bt, .slice A n c] → W.cell? ⟨w.heap.size, 0, none⟩ = some (.int .u64 bi) ∧ W.cell? ⟨w.heap.size, 1, none⟩ = some (.int .u64 bt) ∧ W.cell? ⟨w.heap.size, 2, none⟩ = some (.slice A n c)) := fun W hb => ⟨hb.cell 0, hb.cell 1, hb.cell 2⟩
  have C2 : Hid (∀ W, Blk W (w.heap.size + 1) 24 #[.int .u64 0, .int .u64 0] → (W.cell? ⟨w.heap.size + 1, 0, none⟩ = some (.int .u64 0) ∧ W.cell? ⟨w.heap.size + 1, 1, none⟩ = some (.int .u64 0)) ∧ W.frozen? ⟨w.heap.size + 1, 0, none⟩ = false ∧ W.frozen? ⟨w.heap.size + 1, 1, none⟩ = false) := fun W hb => ⟨⟨hb.cell 0, hb.cell 1⟩, hb.frozen 0, hb.frozen 1⟩
  have hlen := Lib.hid hes.len
  clear hes
  by_cases hz : i = 0
  · subst hz
    obtain ⟨r1, r2, r3, r4⟩ := rfrom_none (l := ⟨bi, bt, es⟩) (i := 0) (q := q) (if_pos rfl)
    rw [r1, r2, r3, r4]
    clear r1 r2 r3 r4
    clear NU HNB SP EN
    obtain ⟨⟨x0, x1⟩, f0, f1⟩ := C2.out _ b1.out
    go_enter Try.func33, Try.ntmps33
    go_wp2
    exact bodyPost_ret (ret24x rfl _ _ (w.heap.size + 1) _ _ _ _ rfl rfl rfl b1.out) rfl ⟨none, 0, 0, rfl, Es.none_, by omega, HB.out⟩
  · have hah : (⟨bi, bt, es⟩ : Lg).ahead i = (⟨bi, bt, es⟩ : Lg).num (i - 1) := if_neg hz
    have hz' : (i == 0) = false := by simp [hz]
    have e1 : IntKind.u64.wrap (i - 1) = i - 1 := by rw [IntKind.wrap_u64]; omega
    have NU1 := Lib.hid (fun W (hW : Below B w W) => NU.out W hW (i - 1) (by omega) (by omega))
    have HNB1 := Lib.hid (HNB.out (i - 1) (by omega) (by omega))
    have hi2 : 1 ≤ i := by omega
    clear NU HNB hz
    unfold numZ at NU1
    cases hq : (⟨bi, bt, es⟩ : Lg).num (i - 1) with
    | none =>
      rw [hq] at NU1 hah
      obtain ⟨r1, r2, r3, r4⟩ := rfrom_none (q := q) hah
      rw [r1, r2, r3, r4]
      clear r1 r2 r3 r4 hah
      clear hq HNB1 SP EN
      go_enter Try.func33, Try.ntmps33
      go_wp2_with (go_at_call 61; refine (NU1.out _ (HB.out.mono hB)).mono ?_; rintro e w1 ⟨rfl, hb⟩; have B1 := Lib.hid (b1.out.below hb b1.out.lt); have HB1 := Lib.hid (HB.out.trans (hb.mono HB.out.size)); obtain ⟨⟨x0, x1⟩, f0, f1⟩ := C2.out _ B1.out; clear hb)
      exact bodyPost_ret (ret24x rfl _ _ (w.heap.size + 1) _ _ _ _ rfl rfl rfl ((B1.out.set_ 0 _).set_ 1 _)) rfl ⟨none, 0, 0, rfl, Es.none_, by omega, (HB1.out.setCell (Nat.le_succ _) _).setCell (Nat.le_succ _) _⟩
    | some k =>
      have hkn := (HNB1.out k hq).1
      have hki := (HNB1.out k hq).2
      rw [hq] at NU1 hah
      clear hq HNB1
      have k0 : (0 : Int) ≤ (k : Int) := by omega
      have k2 : ¬ (k : Int) < 0 := by omega
      by_cases hqn : q < 0
      · have hq' : decide (q < 0) = true := decide_eq_true hqn
        obtain ⟨r1, r2, r3, r4⟩ := rfrom_neg hah hqn
        rw [r1, r2, r3, r4]
        clear r1 r2 r3 r4 hah
        clear hki EN SP hqn
        go_enter Try.func33, Try.ntmps33
        go_wp2_with (go_at_call 61; refine (NU1.out _ (HB.out.mono hB)).mono ?_; rintro e w1 ⟨rfl, hb⟩; have B1 := Lib.hid (b1.out.below hb b1.out.lt); have HB1 := Lib.hid (HB.out.trans (hb.mono HB.out.size)); obtain ⟨⟨x0, x1⟩, f0, f1⟩ := C2.out _ B1.out; clear hb)
        exact bodyPost_ret (ret24x rfl _ _ (w.heap.size + 1) _ _ _ _ rfl rfl rfl ((B1.out.set_ 0 _).set_ 1 _)) rfl ⟨none, 0, 0, rfl, Es.none_, by omega, (HB1.out.setCell (Nat.le_succ _) _).setCell (Nat.le_succ _) _⟩
      · have hq' : decide (q < 0) = false := decide_eq_false hqn
        obtain ⟨r1, r2, r3, r4⟩ := rfrom_some hah hqn
        rw [r1, r2, r3, r4]
        clear r1 r2 r3 r4 hah
        have k1 : (k : Int) < (n : Int) + 1 := by omega
        have k3 : (k : Int) ≤ (n : Int) := by omega
        have HK := Lib.hid hki
        have HQ := Lib.hid hqn
        have EN1 := Lib.hid (EN.out k hkn)
        have DL := Lib.hid (show (es.drop k).length = n - k by rw [List.length_drop, hlen.out])
        clear EN hki hqn
        unfold Lg.T
        simp only
        generalize es.drop k = ds at *
        have hq0 : (0 : Int) ≤ q := by have := HQ.out; omega
        by_cases hlt : q < ((n - k : Nat) : Int)
        · have hlt' : decide (q < ((n - k : Nat) : Int)) = true := decide_eq_true hlt
          obtain ⟨m, hm⟩ : ∃ m : Nat, q.toNat = m := ⟨_, rfl⟩
          have hqm : q ≤ ((n - k : Nat) : Int) := by omega
          have HM := Lib.hid (show m ≤ n - k by omega)
          have HR6 := Lib.hid (show n - k ≤ 1000000 by omega)
          rw [hm]
          have HMQ := Lib.hid hm
          clear hm hlt
          go_enter Try.func33, Try.ntmps33
          go_wp2_with (first | (go_at_call 61; first | (refine (NU1.out _ (HB.out.mono hB)).mono ?_; rintro e w1 ⟨rfl, hb⟩; have B01 := Lib.hid (b0.out.below hb b0.out.lt); have B11 := Lib.hid (b1.out.below hb b1.out.lt); have HB1 := Lib.hid (HB.out.trans (hb.mono HB.out.size)); obtain ⟨y0, y1, y2⟩ := C3.out _ B01.out; clear hb) | (refine (NU1.out _ (HB1.out.mono hB)).mono ?_; rintro e w2 ⟨rfl, hb⟩; clear y0 y1 y2; have B02 := Lib.hid (B01.out.below hb B01.out.lt); have B12 := Lib.hid (B11.out.below hb B11.out.lt); have HB2 := Lib.hid (HB1.out.trans (hb.mono HB1.out.size)); obtain ⟨y0, y1, y2⟩ := C3.out _ B02.out; clear hb)) | (go_at_call 60; refine (EN1.out _ (HB2.out.mono hB)).mono ?_; rintro e w3 ⟨A3, c3, rfl, ho, hb⟩; clear y0 y1 y2; have B03 := Lib.hid (B02.out.below hb B02.out.lt); have B13 := Lib.hid (B12.out.below hb B12.out.lt); have HB3 := Lib.hid (HB2.out.trans (hb.mono HB2.out.size)); have HO3 := Lib.hid ho; have hc3 : q ≤ (c3 : Int) := (by have := ho.cap; omega); obtain ⟨y0, y1, y2⟩ := C3.out _ B03.out; clear hb ho) | (go_at_call 49; refine (SP.out _ (HB3.out.mono hB)).mono ?_; rintro e w4 ⟨A4, c4, rfl, ho, hb⟩; clear y0 y1 y2; have B14 := Lib.hid (B13.out.below hb B13.out.lt); have HB4 := Lib.hid (HB3.out.trans (hb.mono HB3.out.size)); have HO4 := Lib.hid (HO3.out.below hb); have HS4 := Lib.hid hb.size; obtain ⟨g, rfl, hgb, hgl, z0, z1⟩ := ho.at_ (show k < n + 1 by omega); obtain ⟨⟨x0, x1⟩, f0, f1⟩ := C2.out _ B14.out; clear hb ho hgb hgl))
          all_goals
            obtain rfl := HMQ.out
            exact bodyPost_ret (ret24x rfl _ _ (w.heap.size + 1) _ _ _ _ rfl rfl rfl ((B14.out.set_ 0 _).set_ 1 _)) rfl ⟨A3, q.toNat, c3, by rw [HK.out]; rfl, ((HO4.out.only B14.out (by decide) (by decide) (set2_only _ _ _ _)).read.take HM.out), by have := HM.out; have := HR6.out; omega, (HB4.out.setCell (Nat.le_succ _) _).setCell (Nat.le_succ _) _⟩
        · have hlt' : decide (q < ((n - k : Nat) : Int)) = false := decide_eq_false hlt
          have HR6 := Lib.hid (show n - k ≤ 1000000 by omega)
          rw [List.take_of_length_le (by rw [DL.out]; omega)]
          clear hlt hq0
          go_enter Try.func33, Try.ntmps33
          go_wp2_with (first | (go_at_call 61; first | (refine (NU1.out _ (HB.out.mono hB)).mono ?_; rintro e w1 ⟨rfl, hb⟩; have B01 := Lib.hid (b0.out.below hb b0.out.lt); have B11 := Lib.hid (b1.out.below hb b1.out.lt); have HB1 := Lib.hid (HB.out.trans (hb.mono HB.out.size)); obtain ⟨y0, y1, y2⟩ := C3.out _ B01.out; clear hb) | (refine (NU1.out _ (HB1.out.mono hB)).mono ?_; rintro e w2 ⟨rfl, hb⟩; clear y0 y1 y2; have B02 := Lib.hid (B01.out.below hb B01.out.lt); have B12 := Lib.hid (B11.out.below hb B11.out.lt); have HB2 := Lib.hid (HB1.out.trans (hb.mono HB1.out.size)); obtain ⟨y0, y1, y2⟩ := C3.out _ B02.out; clear hb)) | (go_at_call 60; refine (EN1.out _ (HB2.out.mono hB)).mono ?_; rintro e w3 ⟨A3, c3, rfl, ho, hb⟩; clear y0 y1 y2; have B03 := Lib.hid (B02.out.below hb B02.out.lt); have B13 := Lib.hid (B12.out.below hb B12.out.lt); have HB3 := Lib.hid (HB2.out.trans (hb.mono HB2.out.size)); have HO3 := Lib.hid ho; obtain ⟨y0, y1, y2⟩ := C3.out _ B03.out; clear hb ho) | (go_at_call 49; refine (SP.out _ (HB3.out.mono hB)).mono ?_; rintro e w4 ⟨A4, c4, rfl, ho, hb⟩; clear y0 y1 y2; have B14 := Lib.hid (B13.out.below hb B13.out.lt); have HB4 := Lib.hid (HB3.out.trans (hb.mono HB3.out.size)); have HO4 := Lib.hid (HO3.out.below hb); have HS4 := Lib.hid hb.size; obtain ⟨g, rfl, hgb, hgl, z0, z1⟩ := ho.at_ (show k < n + 1 by omega); obtain ⟨⟨x0, x1⟩, f0, f1⟩ := C2.out _ B14.out; clear hb ho hgb hgl))
          all_goals
            have HM := HR6
            exact bodyPost_ret (ret24x rfl _ _ (w.heap.size + 1) _ _ _ _ rfl rfl rfl ((B14.out.set_ 0 _).set_ 1 _)) rfl ⟨A3, n - k, c3, by rw [HK.out]; rfl, (HO4.out.only B14.out (by decide) (by decide) (set2_only _ _ _ _)).read, by have := HM.out; have := HR6.out; omega, (HB4.out.setCell (Nat.le_succ _) _).setCell (Nat.le_succ _) _⟩

end Go.Proofs.Ytmgaihdepglahaa
