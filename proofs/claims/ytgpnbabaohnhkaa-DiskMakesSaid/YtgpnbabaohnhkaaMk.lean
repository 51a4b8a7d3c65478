/-
  The law DiskMakes, walked.
-/
import Derived.Test.YtgpnbabaohnhkaaO4
import Derived.Test.YtgpnbabaohnhkaaEq
namespace Go.Proofs.Ytgpnbabaohnhkaa
open Go.RowKit
attribute [local go_sem ↓] Try.z39

set_option maxRecDepth 100000 in
set_option maxHeartbeats 8000000 in
theorem makes_walk (n kd at_ nn : Int) (A : Option Addr) (c : Nat) (ks : List Bool) (w : World) (hn : -9223372036854775808 ≤ n ∧ n ≤ 9223372036854775807) (_hnn : nn ≤ 9223372036854775807) (hk : Bs w w.heap.size A ks) (hl : ks.length ≤ 9223372036854775807) :
    Calls Try.prog 5 #[.int .i64 n, .agg (askv kd at_ nn A ks.length c)] w fun e w' => e = .returned (.bool true) ∧ Below w.heap.size w w' := by
  unfold askv
  have hB0 : Below w.heap.size w (w.alloc (.cells #[.int .i64 kd, .int .i64 at_, .int .i64 nn, .slice A ks.length c] 37)) := (Below.refl _ w).alloc (Nat.le_refl _) _
  have b0 : Blk (w.alloc (.cells #[.int .i64 kd, .int .i64 at_, .int .i64 nn, .slice A ks.length c] 37)) w.heap.size 37 #[.int .i64 kd, .int .i64 at_, .int .i64 nn, .slice A ks.length c] := Blk.new w 37 _
  have HBS := Lib.hid hk
  have HB0 := Lib.hid hB0
  have B0 := Lib.hid b0
  clear hk hB0 b0
  go_enter Try.func5, Try.ntmps5
  go_wp2_with fail
  generalize w.alloc (.cells #[.int .i64 kd, .int .i64 at_, .int .i64 nn, .slice A ks.length c] 37) = W0 at *
  refine (wakes_any W0).mono ?_
  rintro e w1 ⟨rfl, hb1⟩
  have hB1 := HB0.out.trans (hb1.mono HB0.out.size)
  have b1 := B0.out.below hb1 B0.out.lt
  clear HB0 B0 hb1
  by_cases hmay : 1 ≤ n ∧ n ≤ 2048
  · obtain ⟨m1, m2⟩ := hmay
    obtain ⟨m, rfl⟩ := Int.eq_ofNat_of_zero_le (show 0 ≤ n by omega)
    have hm1 : 1 ≤ m := by omega
    have hm2 : m ≤ 2048 := by omega
    go_wp2_with fail
    refine (new_any m w1 hm1 hm2).mono ?_
    rintro e w2 ⟨p, gs, rfl, d2, hb2⟩
    have hB2 := hB1.trans (hb2.mono hB1.size)
    have b2 := b1.below hb2 b1.lt
    have hg2 := d2.gs_lt
    clear hB1 b1 hb2
    go_wp2_with fail
    refine (made_any m gs w2 hm2 hg2).mono ?_
    rintro e w3 ⟨mm, rfl, _, r3, hb3⟩
    have hB3 := hB2.trans (hb3.mono hB2.size)
    have b3 := b2.below hb3 b2.lt
    have d3 := d2.below hb3
    clear hB2 b2 hb3 d2 hg2
    go_wp2_with fail
    refine (tells_any d3 r3 (by simp [made])).mono ?_
    rintro e w5 ⟨rfl, hb5⟩
    have hB5 := hB3.trans (hb5.mono hB3.size)
    have b5 := b3.below hb5 b3.lt
    clear hB3 b3 hb5 d3 r3
    have x0 := b5.cell 0
    have x1 := b5.cell 1
    have x2 := b5.cell 2
    have x3 := b5.cell 3
    simp only [List.getElem?_toArray, List.getElem?_cons_zero, List.getElem?_cons_succ] at x0 x1 x2 x3
    have hof := of_nil kd at_ nn A c ks w5 ((HBS.out.below hB5).more hB5.size) hl
    unfold askv at hof
    have HOF := Lib.hid hof
    have HBZ := buildZ
    have HEQ := fun w : World => eq39 w Z0 Z0.ok
    have s39 := Lib.hid (show Z0.toArray.size = Z0.length from rfl)
    have i39 := Lib.hid (show (Try.prog.info? 39).map (·.size) = some Z0.length from Try.i39)
    have o39 := Lib.hid Z0.ok.one
    clear hof
    go_wp2_with fail
    refine HOF.out.mono ?_
    rintro e w6 ⟨rfl, hb6⟩
    have hB6 := hB5.trans (hb6.mono hB5.size)
    have K7 := Lib.hid (Blk.new w6 39 Z0.toArray)
    have hB7 := Lib.hid (hB6.alloc hB6.size (.cells Z0.toArray 39))
    clear HOF x0 x1 x2 x3 b5 hB5 hb6 hB6
    go_wp2_with (first
      | ((with_reducible refine at_store (t := 39) ?_); refine wpList_store_new w6 rfl 39 _ _ rfl _ _ _ Z0 rfl rfl rfl s39.out i39.out o39.out ?_)
      | ((with_reducible refine at_load (t := 39) ?_); refine wpList_load_row rfl 39 _ rfl w6.heap.size rfl 39 Z0.toArray (0, 0) _ K7.out Try.underlying39 rfl Try.i39 ?_)
      | (go_at_call 18; refine (len_nil _).mono ?_; rintro e w' ⟨rfl, rfl⟩)
      | (go_at_call 19; refine (pending_nil _).mono ?_; rintro e w' ⟨rfl, rfl⟩)
      | (go_at_call 20; refine (ops_nil _).mono ?_; rintro e w' ⟨rfl, rfl⟩)
      | (go_at_call 21; refine (dead_nil _).mono ?_; rintro e w' ⟨rfl, rfl⟩)
      | (go_at_call 17; refine (copy_nil _).mono ?_; rintro e w' ⟨rfl, rfl⟩))
    go_ret
    exact ⟨rfl, hB7.out⟩
  · have hno : n < 1 ∨ 2048 < n := by omega
    have HNO := Lib.hid hno
    have b5 := b1
    have hB5 := hB1
    clear hno b1 hB1
    rcases (show n < 1 ∨ (¬ n < 1 ∧ 2048 < n) by omega) with hn1 | ⟨hn1, hn2⟩
    all_goals
      go_wp2_with fail
      refine (new_no n w1 HNO.out).mono ?_
      rintro e w5 ⟨rfl, rfl⟩
      have x0 := b5.cell 0
      have x1 := b5.cell 1
      have x2 := b5.cell 2
      have x3 := b5.cell 3
      simp only [List.getElem?_toArray, List.getElem?_cons_zero, List.getElem?_cons_succ] at x0 x1 x2 x3
      have hof := of_nil kd at_ nn A c ks w1 ((HBS.out.below hB5).more hB5.size) hl
      unfold askv at hof
      have HOF := Lib.hid hof
      have HBZ := buildZ
      have HEQ := fun w : World => eq39 w Z0 Z0.ok
      have s39 := Lib.hid (show Z0.toArray.size = Z0.length from rfl)
      have i39 := Lib.hid (show (Try.prog.info? 39).map (·.size) = some Z0.length from Try.i39)
      have o39 := Lib.hid Z0.ok.one
      clear hof
      go_wp2_with fail
      refine HOF.out.mono ?_
      rintro e w6 ⟨rfl, hb6⟩
      have hB6 := hB5.trans (hb6.mono hB5.size)
      have K7 := Lib.hid (Blk.new w6 39 Z0.toArray)
      have hB7 := Lib.hid (hB6.alloc hB6.size (.cells Z0.toArray 39))
      clear HOF x0 x1 x2 x3 b5 hB5 hb6 hB6
      go_wp2_with (first
        | ((with_reducible refine at_store (t := 39) ?_); refine wpList_store_new w6 rfl 39 _ _ rfl _ _ _ Z0 rfl rfl rfl s39.out i39.out o39.out ?_)
        | ((with_reducible refine at_load (t := 39) ?_); refine wpList_load_row rfl 39 _ rfl w6.heap.size rfl 39 Z0.toArray (0, 0) _ K7.out Try.underlying39 rfl Try.i39 ?_)
        | (go_at_call 18; refine (len_nil _).mono ?_; rintro e w' ⟨rfl, rfl⟩)
        | (go_at_call 19; refine (pending_nil _).mono ?_; rintro e w' ⟨rfl, rfl⟩)
        | (go_at_call 20; refine (ops_nil _).mono ?_; rintro e w' ⟨rfl, rfl⟩)
        | (go_at_call 21; refine (dead_nil _).mono ?_; rintro e w' ⟨rfl, rfl⟩)
        | (go_at_call 17; refine (copy_nil _).mono ?_; rintro e w' ⟨rfl, rfl⟩))
      go_ret
      exact ⟨rfl, hB7.out⟩

end Go.Proofs.Ytgpnbabaohnhkaa
