/-
  The law's own first look: does the layer do anything?
-/
import Derived.Test.YtdhompiapklnaaaWw
namespace Go.Proofs.Ytdhompiapklnaaa
open Go.RowKit
attribute [local go_sem ↓] Try.z39 Try.z86

/-- The block that begins with 5. -/
def X5 : List Value := .int .u8 5 :: List.replicate 63 (.int .u8 0)
theorem X5.ok : B64 X5 := ⟨by simp [X5], fun v hv => by
  rcases List.mem_cons.1 hv with rfl | hv
  · exact ⟨5, rfl⟩
  · exact ⟨0, (List.mem_replicate.1 hv).2⟩⟩
theorem build5 (w : World) : (Instr.build 39 #[(0, .int .u8 5)]).run Try.prog w = .ok (.agg X5.toArray) w := run_build w 39 _ _ (by kernel_rfl)

/-- A disk of ten of which j were written. -/
def wk (j : Nat) (o : Int) : DSt := { has := List.replicate 10 Z0, q := (List.range j).map (fun k : Nat => ((k : Int), X5)), armed := -1, doomed := -1, dead := false, ops := o }
theorem wk_q (j : Nat) (o : Int) : (wk j o).q.length = j := by simp [wk]
theorem wk_err (j : Nat) (o : Int) (ch : Bool) (i : Int) (h0 : 0 ≤ i) (h1 : i < 10) : askErr (wk j o) ch i = 0 := by
  simp [askErr, wk, h0, h1]
theorem wk_ask (j : Nat) (o : Int) (ch : Bool) (i : Int) (h0 : 0 ≤ i) (h1 : i < 10) : askSt (wk j o) ch i = wk j (wrap64 (o + 1)) := by
  cases ch <;> simp [askSt, wk, h0, h1, less]
theorem wk_write (j : Nat) (o : Int) (h : j < 10) : writeSt (wk j o) j X5 = wk (j + 1) (wrap64 (o + 1)) := by
  have h0 : (0 : Int) ≤ (j : Int) := by omega
  have h1 : (j : Int) < 10 := by omega
  simp only [writeSt]
  rw [if_pos (wk_err j o true j h0 h1), wk_ask j o true j h0 h1]
  simp [wrote, wk, List.range_succ]
theorem made_wk : made 10 = wk 0 0 := by simp [made, wk]

/-- The row of answers: the fifth is kept. -/
def k5 : List Bool := [false, false, false, false, true]
def wc (o : Int) : DSt := { has := [X5, Z0, Z0, Z0, X5, Z0, Z0, Z0, Z0, Z0], q := [], armed := -1, doomed := -1, dead := false, ops := o }
theorem wk_crash (o : Int) : crashed (wk 6 o) k5 = wc o := by
  have hd : ∀ k, k < 6 → dn 6 k5 k = (k == 0 || k == 4) := by decide
  have hq : (wk 6 o).q.length = 6 := wk_q 6 o
  have e : doN (dn 6 k5) (wk 6 o).q (wk 6 o).has 6 = doN (fun k => k == 0 || k == 4) (wk 6 o).q (wk 6 o).has 6 := doN_congr _ _ 6 hd
  unfold crashed
  rw [hq, e]
  rfl
theorem wc_err (o : Int) (ch : Bool) (i : Int) (h0 : 0 ≤ i) (h1 : i < 10) : askErr (wc o) ch i = 0 := by
  simp [askErr, wc, h0, h1]
theorem wc_ask (o : Int) (ch : Bool) (i : Int) (h0 : 0 ≤ i) (h1 : i < 10) : askSt (wc o) ch i = wc (wrap64 (o + 1)) := by
  cases ch <;> simp [askSt, wc, h0, h1, less]
theorem wc_read0 (o : Int) : readB (wc o) 0 = X5 := by simp only [readB]; rw [if_pos (wc_err o false 0 (by omega) (by omega))]; rfl
theorem wc_read1 (o : Int) : readB (wc o) 1 = Z0 := by simp only [readB]; rw [if_pos (wc_err o false 1 (by omega) (by omega))]; rfl

theorem buildK5 (w : World) : (Instr.buildSlice 35 5 #[(4, .bool true)]).run Try.prog w = .ok (.slice (some ⟨w.heap.size, 0, none⟩) 5 5) (w.alloc (.cells #[.bool false, .bool false, .bool false, .bool false, .bool true] 4)) := by
  obtain ⟨i0, hi, hz0, hz1, hz2⟩ := info_parts (show (Try.prog.info? 4).map (fun i => (i.zero, i.size, i.bytes)) = some (some (.bool false), 1, 1) by kernel_rfl)
  exact run_buildSlice w 35 4 5 _ _ i0 _ Try.underlying35 hi hz0 (by rw [hz1]; decide) (by rw [hz1]; decide) (by rw [hz1]; kernel_rfl)

theorem kb5 (w : World) (base : Nat) : Kb (w.alloc (.cells #[.bool false, .bool false, .bool false, .bool false, .bool true] 4)) base (some ⟨w.heap.size, 0, none⟩) k5 := fun _ => by
  have hb := Blk.new w 4 #[.bool false, .bool false, .bool false, .bool false, .bool true]
  refine ⟨w.heap.size, 0, rfl, hb.lt, .inr ⟨_, hb⟩, fun j hj => ?_⟩
  rw [hb.cell]
  match j, hj with
  | 0, _ => rfl
  | 1, _ => rfl
  | 2, _ => rfl
  | 3, _ => rfl
  | 4, _ => rfl

theorem Dk.gs_lt {w : World} {base p gs : Nat} {S : DSt} (h : Dk w base p gs S) : gs < w.heap.size := by
  obtain ⟨_, _, _, ho, _⟩ := h.own
  obtain ⟨_, _, hg⟩ := ho.gs
  exact hg.lt

set_option maxRecDepth 100000 in
set_option maxHeartbeats 4000000 in
theorem wakes_any (w : World) : Calls Try.prog 9 #[] w fun e w' => e = .returned (.bool true) ∧ Below w.heap.size w w' := by
  have hnew := new_any 10 w (by omega) (by omega)
  rw [show ((10 : Nat) : Int) = 10 from rfl] at hnew
  have HN := Lib.hid hnew
  clear hnew
  go_enter Try.func9, Try.ntmps9
  go_wp2_with fail
  refine HN.out.mono ?_
  rintro e w1 ⟨p, gs, rfl, d1, hB1⟩
  clear HN
  rw [made_wk] at d1
  have st : ∃ o, Dk w1 w.heap.size p gs (wk 0 o) ∧ Below w.heap.size w w1 := ⟨0, d1, hB1⟩
  clear d1 hB1
  have hb5 := build5
  go_wp2_with fail
  go_loopw [17] (fun i wr => ∃ j : Nat, j ≤ 6 ∧ i = .int .i64 j ∧ ∃ o, Dk wr w.heap.size p gs (wk j o) ∧ Below w.heap.size w wr) (fun i _ => 6 - (intOf i).toNat)
  case atStart => exact ⟨0, Nat.zero_le _, rfl, st⟩
  case round =>
    clear st
    obtain ⟨j, hj, rfl, o, d1, hB1⟩ := hrel
    by_cases hlt : j < 6
    · have hlt' : (j : Int) < 6 := by omega
      have hw := write_any (j : Int) X5 X5.ok wr _ p gs _ d1 (by rw [wk_q]; omega)
      rw [wk_write j o (by omega), wk_err j o true j (by omega) (by omega)] at hw
      have HW := Lib.hid hw
      clear hw
      go_wp2_with fail
      refine HW.out.mono ?_
      rintro e w2 ⟨rfl, d2, f2⟩
      clear HW
      have hB2 := hB1.trans (f2.below hB1.size)
      clear d1 f2 hB1
      go_wp2_with fail
      go_roundw
      case rel => exact ⟨j + 1, by omega, by go_num, _, d2, hB2⟩
      case measure => simp [intOf]; omega
    · obtain rfl : j = 6 := by omega
      have hpd := pending_any d1 (by rw [wk_q]; omega)
      rw [wk_q] at hpd
      have HP := Lib.hid hpd
      clear hpd
      go_wp2_with fail
      refine HP.out.mono ?_
      rintro e w2 ⟨rfl, _, hb2⟩
      clear HP
      have d2 := d1.below hb2
      have hB2 := hB1.trans (hb2.mono hB1.size)
      clear d1 hB1 hb2
      have hk5 := buildK5
      have d3 := d2.alloc (.cells #[.bool false, .bool false, .bool false, .bool false, .bool true] 4)
      have hB3 := hB2.alloc hB2.size (.cells #[.bool false, .bool false, .bool false, .bool false, .bool true] 4)
      have hcr := crash_any _ w.heap.size p gs _ (some ⟨w2.heap.size, 0, none⟩) 5 k5 d3 (by rw [wk_q]; omega) (kb5 w2 _) (by decide)
      rw [wk_crash] at hcr
      have HC := Lib.hid hcr
      clear hcr d2 hB2
      go_wp2_with fail
      refine HC.out.mono ?_
      rintro e w4 ⟨rfl, d4, f4⟩
      have hB4 := hB3.trans (f4.below hB3.size)
      clear HC d3 hB3 f4 hk5
      have hr0 := read_any 0 w4 _ p gs _ d4 (by simp [wc])
      unfold Readd at hr0
      rw [wc_read0, wc_err o false 0 (by omega) (by omega), wc_ask o false 0 (by omega) (by omega)] at hr0
      have H0 := Lib.hid hr0
      clear hr0
      go_wp2_with fail
      refine H0.out.mono ?_
      rintro e w5 ⟨rfl, d5, f5⟩
      have hB5 := hB4.trans (f5.below hB4.size)
      clear H0 d4 hB4 f5
      have s5 := Lib.hid (show Z0.toArray.size = X5.length by rw [X5.ok.1]; rfl)
      have i5 := Lib.hid (show (Try.prog.info? 39).map (·.size) = some X5.length by rw [X5.ok.1]; exact Try.i39)
      have o5 := Lib.hid X5.ok.one
      have sz := Lib.hid (show Z0.toArray.size = Z0.length from rfl)
      have iz := Lib.hid (show (Try.prog.info? 39).map (·.size) = some Z0.length from Try.i39)
      have oz := Lib.hid Z0.ok.one
      have k4 := Blk.new w5 39 X5.toArray
      have hp5 := d5.lt
      have hg5 := d5.gs_lt
      have d6 := d5.alloc (.cells X5.toArray 39)
      have hB6 := hB5.alloc hB5.size (.cells X5.toArray 39)
      have hr1 := read_any 1 _ _ p gs _ d6 (by simp [wc])
      unfold Readd at hr1
      rw [wc_read1, wc_err _ false 1 (by omega) (by omega), wc_ask _ false 1 (by omega) (by omega)] at hr1
      have H1 := Lib.hid hr1
      have D6 := Lib.hid d6
      have hsz6 := hB6.size
      clear hr1 d5 hB5 d6
      go_wp2_with ((with_reducible refine at_store (t := 39) ?_); refine wpList_store_new w5 rfl 39 _ _ rfl _ _ _ X5 rfl rfl rfl s5.out i5.out o5.out ?_)
      refine H1.out.mono ?_
      rintro e w7 ⟨rfl, d7, f7⟩
      have k7 := k4.fr f7 (by omega) (by omega) (by decide)
      have hB7 := hB6.trans (f7.below hsz6)
      have d8 := d7.alloc (.cells Z0.toArray 39)
      have k8 := k7.alloc (.cells Z0.toArray 39)
      have hB8 := hB7.alloc hB7.size (.cells Z0.toArray 39)
      have hs := sync_any _ _ p gs _ d8 (by simp [wc])
      rw [wc_err _ true 0 (by omega) (by omega)] at hs
      have HS := Lib.hid hs
      have x0 : (w7.alloc (.cells Z0.toArray 39)).cell? ⟨w5.heap.size, 0, none⟩ = some (.int .u8 5) := k8.cell 0
      have y0 : (w7.alloc (.cells Z0.toArray 39)).cell? ⟨w7.heap.size, 0, none⟩ = some (.int .u8 0) := (Blk.new w7 39 Z0.toArray).cell 0
      have hlt7 := k7.lt
      clear H1 D6 hB6 hsz6 hs d7 f7 k4 k7 k8 hB7 d8 hb5
      go_wp2_with ((with_reducible refine at_store (t := 39) ?_); refine wpList_store_new w7 rfl 39 _ _ rfl _ _ _ Z0 rfl rfl rfl sz.out iz.out oz.out ?_)
      refine HS.out.mono ?_
      rintro e w9 ⟨rfl, d9, f9⟩
      have hB9 := hB8.trans (f9.below hB8.size)
      clear HS d9 f9 hB8 x0 y0
      go_wp2
      go_ret
      exact ⟨rfl, hB9⟩

end Go.Proofs.Ytdhompiapklnaaa
