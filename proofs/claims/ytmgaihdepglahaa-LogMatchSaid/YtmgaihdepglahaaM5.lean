/-
  The document's number, Last, Term.
-/
import Derived.Test.YtmgaihdepglahaaM4
namespace Go.Proofs.Ytmgaihdepglahaa
open Go.RowKit

theorem ret24 {fn : Func} {p : Tmp} (h : fn.results = #[.cell p 24]) (tmps : Array Value) (w : World) (g : Nat) (a b : Value)
    (hp : tmps.getD p undef = .pointer (some ⟨g, 0, none⟩)) (hg : Blk w g 24 #[a, b]) : (results fn tmps).run Try.prog w = .ok (.agg #[a, b]) w :=
  results_cell_row h tmps w g 24 #[a, b] (0, 0) _ hp hg Try.underlying24 rfl Try.i24

/-- The number of an Index's spot, or -1. -/
def numZ (l : Lg) (i : Int) : Int := match l.num i with | some k => (k : Int) | none => -1

section
variable (l : Lg) (A : Option Addr) (n c B : Nat) (w : World) (h : Lr w B A n c l) (hB : B ≤ w.heap.size)
include h hB

set_option maxHeartbeats 1000000 in
theorem refnumber_any (i : Int) (hi0 : 0 ≤ i) (hi1 : i < 18446744073709551616) : Calls Try.prog 61 #[.agg #[.int .u64 l.bi, .int .u64 l.bt, .slice A n c], .int .u64 i] w fun e w' => e = .returned (.int .i64 (numZ l i)) ∧ Below w.heap.size w w' := by
  obtain ⟨bi, bt, es⟩ := l
  obtain ⟨hes, hnc, hnil, hn, hbi0, hbi1, hbt0, hbt1⟩ := h
  simp only at hes hbi0 hbi1 hbt0 hbt1
  have SP := Lib.hid (fun W (hW : Below B w W) => refspots_any bi bt A n c B es W (hes.below hW) (by omega) (Nat.le_trans hB hW.size) hbi0 hbi1)
  have HB := Lib.hid (show Below w.heap.size w (w.alloc (.cells #[.int .u64 bi, .int .u64 bt, .slice A n c] 27)) from (Below.refl _ _).alloc (Nat.le_refl _) _)
  have HIT : Hid (∀ k, k ≤ n → spI bi k = i → numZ ⟨bi, bt, es⟩ i = k) := fun k hk e => by
    unfold numZ Lg.num
    simp only [hes.len]
    rw [numB_hit hk (by omega) e]
  have MISS : Hid ((∀ k, k ≤ n → spI bi k ≠ i) → numZ ⟨bi, bt, es⟩ i = -1) := fun e => by
    unfold numZ Lg.num
    simp only [hes.len]
    rw [numB_miss hi0 hi1 e]
  clear hes
  generalize numZ ⟨bi, bt, es⟩ i = R at *
  go_enter Try.func61, Try.ntmps61
  go_wp2_with (go_at_call 49; refine (SP.out _ (HB.out.mono hB)).mono ?_; rintro e w1 ⟨A1, c1, rfl, ho, hb⟩)
  have HO := Lib.hid ho
  have HB1 := Lib.hid (HB.out.trans (hb.mono HB.out.size))
  clear ho hb
  go_loopw [13] (fun v wr => ∃ k : Nat, k ≤ n + 1 ∧ v = .int .i64 k ∧ Hid (∀ j, j < k → spI bi j ≠ i) ∧ Below w1.heap.size w1 wr) (fun v _ => n + 1 - (intOf v).toNat)
  case atStart => exact ⟨0, Nat.zero_le _, rfl, Lib.hid (fun j hj => absurd hj (by omega)), Below.refl _ _⟩
  case round =>
    obtain ⟨k, hk, rfl, hz, hb⟩ := hrel
    by_cases hlt : k < n + 1
    · obtain ⟨g, rfl, hgb, hgl, d0, d1⟩ := (HO.out.below hb).at_ hlt
      have k0 : (0 : Int) ≤ (k : Int) := by omega
      have k1 : (k : Int) < (n : Int) + 1 := by omega
      have hit := HIT.out k (by omega)
      have HH := Lib.hid hit
      have HBr := Lib.hid (HB1.out.trans (hb.mono HB1.out.size))
      have HBb := Lib.hid hb
      generalize hI : spI bi k = I at *
      have HI := Lib.hid hI
      clear hI hgb hgl hit hb
      by_cases he : I = i
      · subst he
        have HR := Lib.hid (HH.out rfl)
        clear HH MISS HIT hz
        go_wp2
        go_ret
        exact ⟨ret_int HR.out.symm, HBr.out.alloc HBr.out.size _⟩
      · have he' : (I == i) = false := by simp [he]
        have HE := Lib.hid he
        clear he HH
        go_wp2
        go_roundw
        case rel => exact ⟨k + 1, by omega, by go_num, Lib.hid (fun j hj => by
          by_cases e : j = k
          · subst e; rw [HI.out]; exact HE.out
          · exact hz.out j (by omega)), HBb.out.alloc HBb.out.size _⟩
        case measure => simp [intOf]; omega
    · obtain rfl : k = n + 1 := by omega
      have HR := Lib.hid (MISS.out fun k hk => hz.out k (by omega))
      have k1 : ¬ ((n : Int) + 1 < (n : Int) + 1) := by omega
      go_wp2
      go_ret
      exact ⟨ret_int HR.out.symm, HB1.out.trans (hb.mono HB1.out.size)⟩

set_option maxHeartbeats 1000000 in
theorem reflast_any : Calls Try.prog 29 #[.agg #[.int .u64 l.bi, .int .u64 l.bt, .slice A n c]] w fun e w' => e = .returned (.agg #[.int .u64 l.lastI, .int .u64 l.lastT]) ∧ Below w.heap.size w w' := by
  obtain ⟨bi, bt, es⟩ := l
  obtain ⟨hes, hnc, hnil, hn, hbi0, hbi1, hbt0, hbt1⟩ := h
  simp only at hes hbi0 hbi1 hbt0 hbt1
  have SP := Lib.hid (fun W (hW : Below B w W) => refspots_any bi bt A n c B es W (hes.below hW) (by omega) (Nat.le_trans hB hW.size) hbi0 hbi1)
  have HB := Lib.hid (show Below w.heap.size w ((w.alloc (.cells #[.int .u64 bi, .int .u64 bt, .slice A n c] 27)).alloc (.cells #[.int .u64 0, .int .u64 0] 24)) from ((Below.refl _ _).alloc (Nat.le_refl _) _).alloc (by simp) _)
  have b1 := Lib.hid (show Blk ((w.alloc (.cells #[.int .u64 bi, .int .u64 bt, .slice A n c] 27)).alloc (.cells #[.int .u64 0, .int .u64 0] 24)) (w.heap.size + 1) 24 #[.int .u64 0, .int .u64 0] from Blk.fresh (by simp))
  have h1 : (⟨bi, bt, es⟩ : Lg).lastI = spI bi n := by unfold Lg.lastI Lg.I; rw [hes.len]
  have h2 : (⟨bi, bt, es⟩ : Lg).lastT = spT bt es n := by unfold Lg.lastT Lg.T; rw [hes.len]
  rw [h1, h2]
  clear hes h1 h2
  have k0 : (0 : Int) ≤ (n : Int) := by omega
  have k1 : (n : Int) < (n : Int) + 1 := by omega
  go_enter Try.func29, Try.ntmps29
  go_wp2_with (go_at_call 49; refine (SP.out _ (HB.out.mono hB)).mono ?_; rintro e w1 ⟨A1, c1, rfl, ho, hb⟩; obtain ⟨g, rfl, hgb, hgl, d0, d1⟩ := ho.at_ (show n < n + 1 by omega); have B1 := Lib.hid (b1.out.below hb b1.out.lt); have HB1 := Lib.hid (HB.out.trans (hb.mono HB.out.size)); clear hb ho hgb hgl; have x0 : w1.cell? ⟨w.heap.size + 1, 0, none⟩ = some (.int .u64 0) := B1.out.cell 0; have x1 : w1.cell? ⟨w.heap.size + 1, 1, none⟩ = some (.int .u64 0) := B1.out.cell 1; have f0 : w1.frozen? ⟨w.heap.size + 1, 0, none⟩ = false := B1.out.frozen 0; have f1 : w1.frozen? ⟨w.heap.size + 1, 1, none⟩ = false := B1.out.frozen 1)
  exact bodyPost_ret (ret24 rfl _ _ (w.heap.size + 1) _ _ rfl ((B1.out.set_ 0 _).set_ 1 _)) rfl ⟨rfl, (HB1.out.setCell (Nat.le_succ _) _).setCell (Nat.le_succ _) _⟩

set_option maxHeartbeats 1000000 in
theorem refterm_any (i : Int) (hi0 : 0 ≤ i) (hi1 : i < 18446744073709551616) : Calls Try.prog 31 #[.agg #[.int .u64 l.bi, .int .u64 l.bt, .slice A n c], .int .u64 i] w fun e w' => e = .returned (.tuple #[.int .u64 (rTerm l i).1, .bool (rTerm l i).2]) ∧ Below w.heap.size w w' := by
  have NU := Lib.hid (fun W (hW : Below B w W) => refnumber_any l A n c B W (h.below hW) (Nat.le_trans hB hW.size) i hi0 hi1)
  have HL := Lib.hid h.len
  have HNB : Hid (∀ k, l.num i = some k → k ≤ n) := fun k hk => by rw [← h.len]; exact (numB_some hi0 hi1 hk).1
  obtain ⟨bi, bt, es⟩ := l
  obtain ⟨hes, hnc, hnil, hn, hbi0, hbi1, hbt0, hbt1⟩ := h
  simp only at hes hbi0 hbi1 hbt0 hbt1
  have SP := Lib.hid (fun W (hW : Below B w W) => refspots_any bi bt A n c B es W (hes.below hW) (by omega) (Nat.le_trans hB hW.size) hbi0 hbi1)
  have HB := Lib.hid (show Below w.heap.size w (w.alloc (.cells #[.int .u64 bi, .int .u64 bt, .slice A n c] 27)) from (Below.refl _ _).alloc (Nat.le_refl _) _)
  have b0 := Lib.hid (Blk.new w 27 #[.int .u64 bi, .int .u64 bt, .slice A n c])
  clear hes
  unfold rTerm
  unfold numZ at NU
  cases hq : (⟨bi, bt, es⟩ : Lg).num i with
  | none =>
    rw [hq] at NU
    clear hq HNB
    go_enter Try.func31, Try.ntmps31
    go_wp2_with (go_at_call 61; refine (NU.out _ (HB.out.mono hB)).mono ?_; rintro e w1 ⟨rfl, hb⟩)
    go_ret2
    exact ⟨rfl, HB.out.trans (hb.mono HB.out.size)⟩
  | some k =>
    have hkn := HNB.out k hq
    rw [hq] at NU
    clear hq HNB
    have k0 : (0 : Int) ≤ (k : Int) := by omega
    have k1 : (k : Int) < (n : Int) + 1 := by omega
    have k2 : ¬ (k : Int) < 0 := by omega
    simp only
    go_enter Try.func31, Try.ntmps31
    go_wp2_with (first | (go_at_call 61; refine (NU.out _ (HB.out.mono hB)).mono ?_; rintro e w1 ⟨rfl, hb⟩; have bx := b0.out.below hb b0.out.lt; have d0 : w1.cell? ⟨w.heap.size, 0, none⟩ = some (.int .u64 bi) := bx.cell 0; have d1 : w1.cell? ⟨w.heap.size, 1, none⟩ = some (.int .u64 bt) := bx.cell 1; have d2 : w1.cell? ⟨w.heap.size, 2, none⟩ = some (.slice A n c) := bx.cell 2; have HB1 := Lib.hid (HB.out.trans (hb.mono HB.out.size)); clear hb bx) | (go_at_call 49; refine (SP.out _ (HB1.out.mono hB)).mono ?_; rintro e w2 ⟨A2, c2, rfl, ho2, hb2⟩; obtain ⟨g, rfl, hgb, hgl, e0, e1⟩ := ho2.at_ (show k < n + 1 by omega); have HB2 := Lib.hid (HB1.out.trans (hb2.mono HB1.out.size)); clear hb2 ho2 hgb hgl))
    go_ret2
    exact ⟨rfl, HB2.out⟩
end

end Go.Proofs.Ytmgaihdepglahaa
