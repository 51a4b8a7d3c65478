/-
  Whether a log has a spot; logs cut: the program's has, offer, cut, behind.
-/
import Derived.Test.YtmgaihdepglahaaN2
namespace Go.Proofs.Ytmgaihdepglahaa
open Go.RowKit
attribute [local go_sem ↓] eqA neA eqGA

theorem spot_anyT (l : Lg) (A : Option Addr) (n c B : Nat) (w : World) (h : Lr w B A n c l) (hB : B ≤ w.heap.size) (i : Int) (hi : 0 ≤ i) (hi' : i < 18446744073709551616) :
    Calls Try.prog 50 #[.agg #[.int .u64 l.bi, .int .u64 l.bt, .slice A n c], .int .u64 i] w fun e w' => e = .returned (.tuple #[.int .i64 (spotN l i : Int), .agg #[.int .u64 (spotI l i), .int .u64 (spotT l i)], .int .i64 (spotE l i)]) ∧ Below w.heap.size w w' := spot_any l A n c B w h hB i hi hi'

/-- Has a log that may be this spot? -/
def hasB (l : Lg) (i t : Int) : Bool := right l && rHas l i t
theorem hasB_of (l : Lg) (i t : Int) : hasB l i t = (decide (spotE l i = 0) && Eqa (spotI l i) (spotT l i) i t) := by
  unfold hasB rHas spotI spotT spotE Eqa
  cases right l with
  | false => simp
  | true =>
    cases l.num i with
    | none => simp
    | some k => simp

set_option maxHeartbeats 1000000 in
theorem has_any (l : Lg) (A : Option Addr) (n c B : Nat) (w : World) (h : Lr w B A n c l) (hB : B ≤ w.heap.size) (i t : Int) (hi : 0 ≤ i) (hi' : i < 18446744073709551616) :
    Calls Try.prog 64 #[.agg #[.int .u64 l.bi, .int .u64 l.bt, .slice A n c], .agg #[.int .u64 i, .int .u64 t]] w fun e w' => e = .returned (.bool (hasB l i t)) ∧ Below w.heap.size w w' := by
  rw [hasB_of]
  have SP := Lib.hid (fun W (hW : Below B w W) => spot_anyT l A n c B W (h.below hW) (Nat.le_trans hB hW.size) i hi hi')
  generalize spotE l i = E at *
  generalize spotI l i = I at *
  generalize spotT l i = T at *
  generalize (spotN l i : Int) = N at *
  obtain ⟨bi, bt, es⟩ := l
  simp only at SP ⊢
  clear h
  have HB := Lib.hid (show Below w.heap.size w ((w.alloc (.cells #[.int .u64 bi, .int .u64 bt, .slice A n c] 81)).alloc (.cells #[.int .u64 i, .int .u64 t] 24)) from ((Below.refl _ _).alloc (Nat.le_refl _) _).alloc (by simp) _)
  have b1 := Lib.hid (show Blk ((w.alloc (.cells #[.int .u64 bi, .int .u64 bt, .slice A n c] 81)).alloc (.cells #[.int .u64 i, .int .u64 t] 24)) (w.heap.size + 1) 24 #[.int .u64 i, .int .u64 t] from Blk.fresh (by simp))
  by_cases hE : E = 0
  · subst hE
    rw [decide_eq_true rfl, Bool.true_and]
    go_enter Try.func64, Try.ntmps64
    go_wp2_with (go_at_call 50; refine (SP.out _ (HB.out.mono hB)).mono ?_; rintro e w1 ⟨rfl, hb1⟩; have B1 := Lib.hid (b1.out.below hb1 b1.out.lt); have HB1 := Lib.hid (HB.out.trans (hb1.mono HB.out.size)); have d0 : w1.cell? ⟨w.heap.size + 1, 0, none⟩ = some (.int .u64 i) := B1.out.cell 0; have d1 : w1.cell? ⟨w.heap.size + 1, 1, none⟩ = some (.int .u64 t) := B1.out.cell 1; have dl : w.heap.size + 1 < w1.heap.size := B1.out.lt; clear hb1)
    go_ret
    exact ⟨rfl, HB1.out.alloc HB1.out.size _⟩
  · have hE' : (E == 0) = false := by simp [hE]
    rw [decide_eq_false hE, Bool.false_and]
    clear hE
    go_enter Try.func64, Try.ntmps64
    go_wp2_with (go_at_call 50; refine (SP.out _ (HB.out.mono hB)).mono ?_; rintro e w1 ⟨rfl, hb1⟩; have B1 := Lib.hid (b1.out.below hb1 b1.out.lt); have HB1 := Lib.hid (HB.out.trans (hb1.mono HB.out.size)); have d0 : w1.cell? ⟨w.heap.size + 1, 0, none⟩ = some (.int .u64 i) := B1.out.cell 0; have d1 : w1.cell? ⟨w.heap.size + 1, 1, none⟩ = some (.int .u64 t) := B1.out.cell 1; have dl : w.heap.size + 1 < w1.heap.size := B1.out.lt; clear hb1)
    go_ret
    exact ⟨rfl, HB1.out.alloc HB1.out.size _⟩

theorem ret81 {fn : Func} {p : Tmp} (h : fn.results = #[.cell p 81]) (tmps : Array Value) (w : World) (g : Nat) (a b c : Value)
    (hp : tmps.getD p undef = .pointer (some ⟨g, 0, none⟩)) (hg : Blk w g 81 #[a, b, c]) : (results fn tmps).run Try.prog w = .ok (.agg #[a, b, c]) w := by
  have d0 : w.cell? ⟨g, 0, none⟩ = some a := hg.cell 0
  have d1 : w.cell? ⟨g, 1, none⟩ = some b := hg.cell 1
  have d2 : w.cell? ⟨g, 2, none⟩ = some c := hg.cell 2
  have hp' : tmps[p]?.getD undef = .pointer (some ⟨g, 0, none⟩) := by simpa using hp
  simp [results, h, hp', go_sem, d0, d1, d2]

theorem offer_any (a b : Int) (A : Option Addr) (n c : Nat) (w : World) : Calls Try.prog 48 #[.agg #[.int .u64 a, .int .u64 b], .slice A n c] w fun e w' => e = .returned (.agg #[.int .u64 a, .int .u64 b, .slice A n c]) ∧ Below w.heap.size w w' := by
  go_enter Try.func48, Try.ntmps48
  go_wp2
  have r1 : Blk ((w.alloc (.cells #[.int .u64 a, .int .u64 b] 24)).alloc (.cells #[.int .u64 a, .int .u64 b, .slice A n c] 81)) (w.heap.size + 1) 81 #[.int .u64 a, .int .u64 b, .slice A n c] := Blk.fresh (by simp)
  exact bodyPost_ret (ret81 rfl _ _ (w.heap.size + 1) _ _ _ rfl r1) rfl ⟨rfl, ((Below.refl _ w).alloc (Nat.le_refl _) _).alloc (by simp) _⟩

theorem cut_any (bi bt : Int) (A : Option Addr) (n c k : Nat) (w : World) (hk : k ≤ n) (hn : n ≤ c) : Calls Try.prog 51 #[.agg #[.int .u64 bi, .int .u64 bt, .slice A n c], .int .i64 (k : Int)] w fun e w' => e = .returned (.agg #[.int .u64 bi, .int .u64 bt, .slice A k k]) ∧ Below w.heap.size w w' := by
  have k0 : (0 : Int) ≤ (k : Int) := by omega
  have k1 : (k : Int) ≤ (c : Int) := by omega
  have k2 : k ≤ c := by omega
  go_enter Try.func51, Try.ntmps51
  go_wp2
  go_region
  go_wp2
  have r1 : Blk ((w.alloc (.cells #[.int .u64 bi, .int .u64 bt, .slice A n c] 81)).alloc (.cells #[.int .u64 bi, .int .u64 bt, .slice A k k] 81)).drew (w.heap.size + 1) 81 #[.int .u64 bi, .int .u64 bt, .slice A k k] := (Blk.fresh (by simp)).drewN 1
  exact bodyPost_ret (ret81 rfl _ _ (w.heap.size + 1) _ _ _ rfl r1) rfl ⟨rfl, (((Below.refl _ w).alloc (Nat.le_refl _) _).alloc (by simp) _).drew⟩

theorem behind_any (bi bt : Int) (A : Option Addr) (n c a m : Nat) (m' : Int) (w : World) (ha : a ≤ n) (hn : n ≤ c) (hm : min m' ((n : Int) - (a : Int)) = (m : Int)) (hnl : n ≤ 1000000) :
    Calls Try.prog 59 #[.agg #[.int .u64 bi, .int .u64 bt, .slice A n c], .int .i64 (a : Int), .int .i64 m'] w fun e w' => e = .returned (.slice (if m = 0 then A else A.map (·.add (a * 3))) m m) ∧ Below w.heap.size w w' := by
  have a0 : (0 : Int) ≤ (a : Int) := by omega
  have m0 : (0 : Int) ≤ (m : Int) := by omega
  have ham : a + m ≤ n := by omega
  have h2 : ((a : Int) + (m : Int)).toNat = a + m := by omega
  have h3 : (a : Int) ≤ (a : Int) + (m : Int) := by omega
  have h4 : (a : Int) + (m : Int) ≤ (c : Int) := by omega
  have h5 : a + m - a = m := by omega
  have h6 : (a : Int) + (m : Int) < 9223372036854775808 := by omega
  have h7 : (n : Int) - (a : Int) < 9223372036854775808 := by omega
  have h8 : -9223372036854775808 ≤ (n : Int) - (a : Int) := by omega
  have HB := Lib.hid (show Below w.heap.size w (w.alloc (.cells #[.int .u64 bi, .int .u64 bt, .slice A n c] 81)) from (Below.refl _ _).alloc (Nat.le_refl _) _)
  by_cases hz : m = 0
  · subst hz
    rw [if_pos rfl]
    go_enter Try.func59, Try.ntmps59
    go_wp2
    go_ret
    exact ⟨rfl, HB.out⟩
  · rw [if_neg hz]
    have hz' : ¬ a + m = a := by omega
    go_enter Try.func59, Try.ntmps59
    go_wp2
    go_ret
    exact ⟨rfl, HB.out⟩

end Go.Proofs.Ytmgaihdepglahaa
