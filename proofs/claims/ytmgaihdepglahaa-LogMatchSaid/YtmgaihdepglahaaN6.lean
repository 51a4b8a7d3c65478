/-
  What a log tells: the program's Last, Term, Has, Check, Cut.
-/
import Derived.Test.YtmgaihdepglahaaN4
namespace Go.Proofs.Ytmgaihdepglahaa
open Go.RowKit
attribute [local go_sem ↓] field1

theorem resTT {fn : Func} {p q : Tmp} (h : fn.results = #[.tmp p, .tmp q]) (tmps : Array Value) (w : World) (x y : Value) (hp : tmps.getD p undef = x) (hq : tmps.getD q undef = y) : (results fn tmps).run Try.prog w = .ok (.tuple #[x, y]) w := by
  subst hp hq
  simp [results, h, go_sem]
/-- The end of a log that may be; else nothing. -/
def pLastI (l : Lg) : Int := if right l = true then l.lastI else 0
def pLastT (l : Lg) : Int := if right l = true then l.lastT else 0

set_option maxHeartbeats 1000000 in
theorem Last_any (l : Lg) (A : Option Addr) (n c B : Nat) (w : World) (h : Lr w B A n c l) (hB : B ≤ w.heap.size) :
    Calls Try.prog 28 #[.agg #[.int .u64 l.bi, .int .u64 l.bt, .slice A n c]] w fun e w' => e = .returned (.agg #[.int .u64 (pLastI l), .int .u64 (pLastT l)]) ∧ Below w.heap.size w w' := by
  have MB := Lib.hid (fun W (hW : Below B w W) => maybe_any l A n c B W (h.below hW) (Nat.le_trans hB hW.size))
  have LA := Lib.hid (fun W (hW : Below B w W) => last_any l A n c B W (h.below hW) (Nat.le_trans hB hW.size))
  have hP : pLastI l = (if right l = true then l.lastI else 0) ∧ pLastT l = (if right l = true then l.lastT else 0) := ⟨rfl, rfl⟩
  generalize pLastI l = PI at *
  generalize pLastT l = PT at *
  generalize right l = R at *
  generalize l.lastI = LI at *
  generalize l.lastT = LT at *
  obtain ⟨bi, bt, es⟩ := l
  simp only at MB LA hP ⊢
  have B0 := Lib.hid (show Blk (((w.alloc (.cells #[.int .u64 bi, .int .u64 bt, .slice A n c] 27)).alloc (.cells #[.int .u64 0, .int .u64 0] 24)).alloc (.cells #[.int .u64 bi, .int .u64 bt, .slice A n c] 81)) (w.heap.size + 1) 24 #[.int .u64 0, .int .u64 0] from (Blk.fresh (by simp)).alloc _)
  have B1 := Lib.hid (show Blk (((w.alloc (.cells #[.int .u64 bi, .int .u64 bt, .slice A n c] 27)).alloc (.cells #[.int .u64 0, .int .u64 0] 24)).alloc (.cells #[.int .u64 bi, .int .u64 bt, .slice A n c] 81)) (w.heap.size + 2) 81 #[.int .u64 bi, .int .u64 bt, .slice A n c] from Blk.fresh (by simp))
  have HB := Lib.hid (show Below w.heap.size w (((w.alloc (.cells #[.int .u64 bi, .int .u64 bt, .slice A n c] 27)).alloc (.cells #[.int .u64 0, .int .u64 0] 24)).alloc (.cells #[.int .u64 bi, .int .u64 bt, .slice A n c] 81)) from (((Below.refl _ _).alloc (Nat.le_refl _) _).alloc (by simp) _).alloc (by simp; omega) _)
  have arm : ∀ (w1 : World), Below (((w.alloc (.cells #[.int .u64 bi, .int .u64 bt, .slice A n c] 27)).alloc (.cells #[.int .u64 0, .int .u64 0] 24)).alloc (.cells #[.int .u64 bi, .int .u64 bt, .slice A n c] 81)).heap.size (((w.alloc (.cells #[.int .u64 bi, .int .u64 bt, .slice A n c] 27)).alloc (.cells #[.int .u64 0, .int .u64 0] 24)).alloc (.cells #[.int .u64 bi, .int .u64 bt, .slice A n c] 81)) w1 →
      Blk w1 (w.heap.size + 1) 24 #[.int .u64 0, .int .u64 0] ∧ Blk w1 (w.heap.size + 2) 81 #[.int .u64 bi, .int .u64 bt, .slice A n c] ∧ Below w.heap.size w w1 := fun w1 hb => ⟨B0.out.below hb B0.out.lt, B1.out.below hb B1.out.lt, HB.out.trans (hb.mono HB.out.size)⟩
  have ARM := Lib.hid arm
  clear arm h
  cases R with
  | false =>
    obtain ⟨rfl, rfl⟩ := hP
    go_enter Try.func28, Try.ntmps28
    go_wp2_with (go_at_call 56; refine (MB.out _ (HB.out.mono hB)).mono ?_; rintro e w1 ⟨rfl, hb1⟩; obtain ⟨q0', q1', hq'⟩ := ARM.out _ hb1; have Q0 := Lib.hid q0'; have HQ := Lib.hid hq'; have d0 : w1.cell? ⟨w.heap.size + 1, 0, none⟩ = some (.int .u64 0) := Q0.out.cell 0; have d1 : w1.cell? ⟨w.heap.size + 1, 1, none⟩ = some (.int .u64 0) := Q0.out.cell 1; have f0 : w1.frozen? ⟨w.heap.size + 1, 0, none⟩ = false := Q0.out.frozen 0; have f1 : w1.frozen? ⟨w.heap.size + 1, 1, none⟩ = false := Q0.out.frozen 1; clear q0' q1' hq' hb1)
    exact bodyPost_ret (ret24 rfl _ _ (w.heap.size + 1) _ _ rfl ((Q0.out.set_ 0 _).set_ 1 _)) rfl ⟨rfl, (HQ.out.setCell (p := ⟨w.heap.size + 1, 0, none⟩) (by simp) _).setCell (p := ⟨w.heap.size + 1, 1, none⟩) (by simp) _⟩
  | true =>
    obtain ⟨rfl, rfl⟩ := hP
    go_enter Try.func28, Try.ntmps28
    go_wp2_with (first | (go_at_call 56; refine (MB.out _ (HB.out.mono hB)).mono ?_; rintro e w1 ⟨rfl, hb1⟩; obtain ⟨q0', q1', hq'⟩ := ARM.out _ hb1; have Q0 := Lib.hid q0'; have HQ := Lib.hid hq'; have d0 : w1.cell? ⟨w.heap.size + 2, 0, none⟩ = some (.int .u64 bi) := q1'.cell 0; have d1 : w1.cell? ⟨w.heap.size + 2, 1, none⟩ = some (.int .u64 bt) := q1'.cell 1; have d2 : w1.cell? ⟨w.heap.size + 2, 2, none⟩ = some (.slice A n c) := q1'.cell 2; clear q0' q1' hq' hb1) |
      (go_at_call 57; refine (LA.out _ (HQ.out.mono hB)).mono ?_; rintro e w2 ⟨rfl, hb2⟩; clear d0 d1 d2; have Q2 := Lib.hid (Q0.out.below hb2 Q0.out.lt); have HQ2 := Lib.hid (HQ.out.trans (hb2.mono HQ.out.size)); have d0 : w2.cell? ⟨w.heap.size + 1, 0, none⟩ = some (.int .u64 0) := Q2.out.cell 0; have d1 : w2.cell? ⟨w.heap.size + 1, 1, none⟩ = some (.int .u64 0) := Q2.out.cell 1; have f0 : w2.frozen? ⟨w.heap.size + 1, 0, none⟩ = false := Q2.out.frozen 0; have f1 : w2.frozen? ⟨w.heap.size + 1, 1, none⟩ = false := Q2.out.frozen 1; clear hb2))
    exact bodyPost_ret (ret24 rfl _ _ (w.heap.size + 1) _ _ rfl ((Q2.out.set_ 0 _).set_ 1 _)) rfl ⟨rfl, (HQ2.out.setCell (p := ⟨w.heap.size + 1, 0, none⟩) (by simp) _).setCell (p := ⟨w.heap.size + 1, 1, none⟩) (by simp) _⟩

/-- What Check answers. -/
def checkE (l : Lg) (top : Int) : Int := if right l = false then 160 else if top < l.lastT then 2 else 0
set_option maxHeartbeats 1000000 in
theorem Check_any (l : Lg) (A : Option Addr) (n c B : Nat) (w : World) (h : Lr w B A n c l) (hB : B ≤ w.heap.size) (top : Int) :
    Calls Try.prog 40 #[.agg #[.int .u64 l.bi, .int .u64 l.bt, .slice A n c], .int .u64 top] w fun e w' => e = .returned (.int .i64 (checkE l top)) ∧ Below w.heap.size w w' := by
  have MB := Lib.hid (fun W (hW : Below B w W) => maybe_any l A n c B W (h.below hW) (Nat.le_trans hB hW.size))
  have LA := Lib.hid (fun W (hW : Below B w W) => last_any l A n c B W (h.below hW) (Nat.le_trans hB hW.size))
  unfold checkE
  generalize right l = R at *
  generalize l.lastI = LI at *
  generalize l.lastT = LT at *
  obtain ⟨bi, bt, es⟩ := l
  simp only at MB LA ⊢
  have B1 := Lib.hid (show Blk ((w.alloc (.cells #[.int .u64 bi, .int .u64 bt, .slice A n c] 27)).alloc (.cells #[.int .u64 bi, .int .u64 bt, .slice A n c] 81)) (w.heap.size + 1) 81 #[.int .u64 bi, .int .u64 bt, .slice A n c] from Blk.fresh (by simp))
  have HB := Lib.hid (show Below w.heap.size w ((w.alloc (.cells #[.int .u64 bi, .int .u64 bt, .slice A n c] 27)).alloc (.cells #[.int .u64 bi, .int .u64 bt, .slice A n c] 81)) from ((Below.refl _ _).alloc (Nat.le_refl _) _).alloc (by simp) _)
  clear h
  cases R with
  | false =>
    rw [if_pos rfl]
    go_enter Try.func40, Try.ntmps40
    go_wp2_with (go_at_call 56; refine (MB.out _ (HB.out.mono hB)).mono ?_; rintro e w1 ⟨rfl, hb1⟩; have HQ := Lib.hid (HB.out.trans (hb1.mono HB.out.size)); clear hb1)
    go_ret
    exact ⟨rfl, HQ.out⟩
  | true =>
    rw [if_neg (by simp)]
    by_cases ht : top < LT
    · have ht' : decide (top < LT) = true := decide_eq_true ht
      rw [if_pos ht]
      clear ht
      go_enter Try.func40, Try.ntmps40
      go_wp2_with (first | (go_at_call 56; refine (MB.out _ (HB.out.mono hB)).mono ?_; rintro e w1 ⟨rfl, hb1⟩; have Q1 := B1.out.below hb1 B1.out.lt; have HQ := Lib.hid (HB.out.trans (hb1.mono HB.out.size)); have d0 : w1.cell? ⟨w.heap.size + 1, 0, none⟩ = some (.int .u64 bi) := Q1.cell 0; have d1 : w1.cell? ⟨w.heap.size + 1, 1, none⟩ = some (.int .u64 bt) := Q1.cell 1; have d2 : w1.cell? ⟨w.heap.size + 1, 2, none⟩ = some (.slice A n c) := Q1.cell 2; clear hb1 Q1) | (go_at_call 57; refine (LA.out _ (HQ.out.mono hB)).mono ?_; rintro e w2 ⟨rfl, hb2⟩; have HQ2 := Lib.hid (HQ.out.trans (hb2.mono HQ.out.size)); clear hb2))
      go_ret
      exact ⟨rfl, HQ2.out⟩
    · have ht' : decide (top < LT) = false := decide_eq_false ht
      rw [if_neg ht]
      clear ht
      go_enter Try.func40, Try.ntmps40
      go_wp2_with (first | (go_at_call 56; refine (MB.out _ (HB.out.mono hB)).mono ?_; rintro e w1 ⟨rfl, hb1⟩; have Q1 := B1.out.below hb1 B1.out.lt; have HQ := Lib.hid (HB.out.trans (hb1.mono HB.out.size)); have d0 : w1.cell? ⟨w.heap.size + 1, 0, none⟩ = some (.int .u64 bi) := Q1.cell 0; have d1 : w1.cell? ⟨w.heap.size + 1, 1, none⟩ = some (.int .u64 bt) := Q1.cell 1; have d2 : w1.cell? ⟨w.heap.size + 1, 2, none⟩ = some (.slice A n c) := Q1.cell 2; clear hb1 Q1) | (go_at_call 57; refine (LA.out _ (HQ.out.mono hB)).mono ?_; rintro e w2 ⟨rfl, hb2⟩; have HQ2 := Lib.hid (HQ.out.trans (hb2.mono HQ.out.size)); clear hb2))
      go_ret
      exact ⟨rfl, HQ2.out⟩

set_option maxHeartbeats 1000000 in
theorem Term_any (l : Lg) (A : Option Addr) (n c B : Nat) (w : World) (h : Lr w B A n c l) (hB : B ≤ w.heap.size) (i : Int) (hi : 0 ≤ i) (hi' : i < 18446744073709551616) :
    Calls Try.prog 30 #[.agg #[.int .u64 l.bi, .int .u64 l.bt, .slice A n c], .int .u64 i] w fun e w' => e = .returned (.tuple #[.int .u64 (spotT l i), .bool (spotE l i == 0)]) ∧ Below w.heap.size w w' := by
  have SP := Lib.hid (fun W (hW : Below B w W) => spot_anyT l A n c B W (h.below hW) (Nat.le_trans hB hW.size) i hi hi')
  generalize spotE l i = E at *
  generalize spotI l i = I at *
  generalize spotT l i = T at *
  generalize (spotN l i : Int) = N at *
  obtain ⟨bi, bt, es⟩ := l
  simp only at SP ⊢
  have HB := Lib.hid (show Below w.heap.size w (w.alloc (.cells #[.int .u64 bi, .int .u64 bt, .slice A n c] 27)) from (Below.refl _ _).alloc (Nat.le_refl _) _)
  clear h
  go_enter Try.func30, Try.ntmps30
  go_wp2_with (go_at_call 50; refine (SP.out _ (HB.out.mono hB)).mono ?_; rintro e w1 ⟨rfl, hb1⟩; have HQ := Lib.hid (HB.out.trans (hb1.mono HB.out.size)); clear hb1)
  exact bodyPost_ret (resTT rfl _ _ _ _ rfl rfl) rfl ⟨rfl, HQ.out.alloc HQ.out.size _⟩

theorem Has_any (l : Lg) (A : Option Addr) (n c B : Nat) (w : World) (h : Lr w B A n c l) (hB : B ≤ w.heap.size) (i t : Int) (hi : 0 ≤ i) (hi' : i < 18446744073709551616) :
    Calls Try.prog 37 #[.agg #[.int .u64 l.bi, .int .u64 l.bt, .slice A n c], .agg #[.int .u64 i, .int .u64 t]] w fun e w' => e = .returned (.bool (hasB l i t)) ∧ Below w.heap.size w w' := by
  have SP := Lib.hid (fun W (hW : Below B w W) => has_any l A n c B W (h.below hW) (Nat.le_trans hB hW.size) i t hi hi')
  generalize hasB l i t = E at *
  obtain ⟨bi, bt, es⟩ := l
  simp only at SP ⊢
  have HB := Lib.hid (show Below w.heap.size w ((w.alloc (.cells #[.int .u64 bi, .int .u64 bt, .slice A n c] 27)).alloc (.cells #[.int .u64 i, .int .u64 t] 24)) from ((Below.refl _ _).alloc (Nat.le_refl _) _).alloc (by simp) _)
  clear h
  go_enter Try.func37, Try.ntmps37
  go_wp2_with (go_at_call 64; refine (SP.out _ (HB.out.mono hB)).mono ?_; rintro e w1 ⟨rfl, hb1⟩; have HQ := Lib.hid (HB.out.trans (hb1.mono HB.out.size)); clear hb1)
  go_ret
  exact ⟨rfl, HQ.out⟩

end Go.Proofs.Ytmgaihdepglahaa
