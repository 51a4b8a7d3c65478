/-
  The law FrameNumbers' walk: Long of Short, with whatever behind it, is the number; a greater number has no fewer bytes; less of it, and more, is none.
-/
import Derived.Test.YtemfnckaehjhcaaDoorFW
namespace Go.Proofs.YtemfnckaehjhcaaDoor
open Go.RowKit

theorem short_own (x : Nat) (w : World) (hx : x < 2 ^ 64) : Calls Tryd.prog 17 #[.int .u64 (x : Int)] w (Cloned w (shB x).length (shB x)) := by
  refine (short_any x w hx).mono ?_
  rintro e w' ⟨A, c, rfl, ho, hb⟩
  rw [Nat.zero_add] at ho ⊢
  exact ⟨A, c, rfl, ho, hb.below⟩

set_option maxRecDepth 100000 in
set_option maxHeartbeats 8000000 in
theorem numbers_walk (x y : Nat) (A : Option Addr) (n c : Nat) (zs : List Int) (w : World) (hx : x < 2 ^ 64) (hy : y < 2 ^ 64) (hz : By w w.heap.size A n zs) (hnc : n ≤ c) (hd : A = none → c = 0) (hc : c ≤ 9223372036854775807) (hG : Bk.Gl w) :
    Calls Tryd.prog 7 #[.int .u64 (x : Int), .int .u64 (y : Int), .slice A n c] w fun e w' => e = .returned (.bool true) ∧ Below w.heap.size w w' := by
  have WK := Lib.hid (wakes_any w hG)
  obtain ⟨k, hk⟩ : ∃ k : Nat, min (n : Int) 20 = (k : Int) := ⟨min n 20, by omega⟩
  have hkn : k ≤ n := by omega
  have hk20 : k ≤ 20 := by omega
  have HR : Hid (By w w.heap.size A k (zs.take k)) := Lib.hid (by
    refine ⟨by rw [List.length_take, hz.1]; omega, Bs.take hz.bs k, fun hp => ?_⟩
    obtain ⟨b, o, hA, hb, hcl⟩ := hz.2.2 (by omega)
    refine ⟨b, o, hA, hb, fun j hj => ?_⟩
    rw [hcl j (by omega)]
    simp [List.getD, List.getElem?_take, hj])
  generalize zs.take k = ys at *
  have SX := Lib.hid (fun W => short_own x W hx)
  have SY := Lib.hid (fun W => short_own y W hy)
  have LX := shB_len10 hx
  have LY := shB_len10 hy
  have LO := Lib.hid (loB_there hx ys)
  have LP := Lib.hid (fun j hj => loB_part (x := x) (k := j) hj)
  have LM := Lib.hid (loB_more (shB x))
  have BX := Lib.hid (bs_of_mem (shB_bs x))
  have mono1 : x ≤ y → (shB x).length ≤ (shB y).length := fun h => by rw [shB_len, shB_len]; have := kS_mono h; omega
  have mono2 : y ≤ x → (shB y).length ≤ (shB x).length := fun h => by rw [shB_len, shB_len]; have := kS_mono h; omega
  generalize shB x = X at *
  generalize shB y = Y at *
  have hcs : (decide (x ≤ y) = true ∧ decide (Y.length < X.length) = false ∧ decide (y ≤ x) = false) ∨
      (decide (x ≤ y) = true ∧ decide (Y.length < X.length) = false ∧ decide (y ≤ x) = true ∧ decide (X.length < Y.length) = false) ∨
      (decide (x ≤ y) = false ∧ decide (y ≤ x) = true ∧ decide (X.length < Y.length) = false) := by
    simp only [decide_eq_true_eq, decide_eq_false_iff_not]
    by_cases h1 : x ≤ y
    · have := mono1 h1
      by_cases h2 : y ≤ x
      · have := mono2 h2
        omega
      · omega
    · have := mono2 (by omega)
      omega
  clear mono1 mono2 hz
  go_enter Tryd.func7, Tryd.ntmps7
  go_upto_region 4 with (go_at_call 8; refine WK.out.mono ?_; rintro e w1 ⟨rfl, hb⟩; have B1 := Lib.hid hb; have R1 := Lib.hid (HR.out.below hb); clear WK hb HR)
  go_upto_region 5 with (go_at_call 17; first
    | (refine (SX.out _).mono ?_; rintro e w2 ⟨A2, c2, rfl, o2, hb⟩; have O2 := Lib.hid o2; have B2 := Lib.hid (B1.out.trans (hb.mono B1.out.size)); have C2 := Lib.hid (hb.mono B1.out.size); clear o2 hb)
    | (refine (SY.out _).mono ?_; rintro e w3 ⟨A3, c3, rfl, o3, hb⟩; have O3 := Lib.hid (O2.out.below hb); have B3 := Lib.hid (B2.out.trans (hb.mono B2.out.size)); have W13 := Lib.hid (C2.out.trans (hb.mono B2.out.size)); clear o3 hb C2))
  have LR : Hid (loR (loB (X ++ ys)) = .tuple #[.int .u64 (x : Int), .int .i64 (X.length : Int), .bool true]) := Lib.hid (by rw [LO.out]; rfl)
  have NR : loR none = .tuple #[.int .u64 0, .int .i64 0, .bool false] := rfl
  have RR := Lib.hid (R1.out.below W13.out)
  clear R1 SX SY LO
  go_upto_region 6 with (first
    | (go_at_call 23; refine (bclone_any A2 X.length c2 X w3 w3.heap.size O3.out.by (by omega)).mono ?_; rintro e w4 ⟨A4, c4, rfl, o4, hb⟩; have O4 := Lib.hid o4; have B4 := Lib.hid (B3.out.trans (hb.mono B3.out.size)); have H4 := Lib.hid hb; have R4 := Lib.hid (RR.out.below (hb.mono B3.out.size)); clear o4 hb RR)
    | (at_builtin; refine append_by rfl (.tmp 29) (.tmp 30) rfl w3.heap.size A4 X.length c4 X rfl O4.out w.heap.size A k c ys rfl R4.out hd (by omega) H4.out.size ?_; intro A5 c5 w5 o5 g5; have O5 := Lib.hid o5; have H5 := Lib.hid (H4.out.grown g5 H4.out.size (fun kk hk2 => (O4.out.1.lt kk hk2).1)); have B5 := Lib.hid (B3.out.trans (H5.out.mono B3.out.size)); have O5a := Lib.hid (O3.out.below H5.out); clear o5 g5 O4 H4 B4 R4 O3)
    | (go_at_call 19; refine (long_any A5 (X.length + k) c5 _ (X ++ ys) w5 O5.out.by (by omega)).mono ?_; rw [LR.out]; rintro e w6 ⟨rfl, rfl⟩))
  have hb1 : ((X.length : Int) != (X.length : Int)) = false := by simp
  have hb2 : ((x : Int) != (x : Int)) = false := by simp
  clear O5 B1 B2 B3 W13 LR
  rcases hcs with ⟨q1, q2, q3⟩ | ⟨q1, q2, q3, q4⟩ | ⟨q1, q2, q3⟩
  all_goals
    go_upto_region 8 with (fail)
    clear q1 q2 q3 hb1 hb2
    have XY := Lib.hid O5a.out.by
    have XN := O5a.out.nil
    have XC := O5a.out.cap
    have B6 := B5
    go_wp2_with (fail)
    go_loopw [75] (fun i wr => ∃ j : Nat, j ≤ X.length ∧ i = .int .i64 j ∧ wr = w5) (fun i _ => X.length - (intOf i).toNat)
    case atStart => exact ⟨0, Nat.zero_le _, rfl, rfl⟩
    case round =>
      obtain ⟨j, hj, rfl, rfl⟩ := hrel
      by_cases hlt : j < X.length
      · have hpt : Hid (By wr wr.heap.size A2 j (X.take j)) := Lib.hid (by
          refine ⟨by rw [List.length_take]; omega, Bs.take BX.out j, fun hp => ?_⟩
          obtain ⟨b, o, hA, hb, hcl⟩ := XY.out.2.2 (by omega)
          refine ⟨b, o, hA, hb, fun i hi => ?_⟩
          rw [hcl i (by omega)]
          simp [List.getD, List.getElem?_take, hi])
        have LL := Lib.hid (long_any A2 j c2 _ (X.take j) wr hpt.out (by omega))
        rw [LP.out j hlt, NR] at LL
        have j0 : (0 : Int) ≤ (j : Int) := by omega
        have jc : j ≤ c2 := by omega
        clear hpt
        go_wp2_with (go_at_call 19; refine LL.out.mono ?_; rintro e w7 ⟨rfl, rfl⟩)
        go_roundw
        case rel => exact ⟨j + 1, by omega, by go_num, by first | rfl | trivial⟩
        case measure => simp [intOf]; omega
      · obtain rfl : j = X.length := by omega
        have ob := Lib.hid (show Own (wr.alloc (.cells #[.int .u8 128] 5)) wr.heap.size (some ⟨wr.heap.size, 0, none⟩) 1 1 [128] from ⟨⟨rfl, .inr ⟨wr.heap.size, 1, _, rfl, Nat.le_refl _, heap_alloc_new wr _, Nat.le_refl _, by unfold maxLen; omega, rfl, by rw [Nat.mul_one]; rfl⟩⟩, bs1 (by decide) (by decide)⟩)
        have XY2 := Lib.hid (XY.out.alloc (Nat.le_refl _) (.cells #[.int .u8 128] 5))
        have LZ : Hid (loR (loB ([128] ++ X)) = .tuple #[.int .u64 0, .int .i64 0, .bool false]) := Lib.hid (by rw [show [128] ++ X = 128 :: X from rfl, LM.out]; rfl)
        have B7 := Lib.hid (B6.out.alloc B6.out.size (.cells #[.int .u8 128] 5))
        have h1len : 1 + X.length ≤ 140737488355328 := by omega
        go_wp2_with (first
          | (at_builtin; refine append_by rfl (.tmp 89) (.tmp 90) rfl wr.heap.size (some ⟨wr.heap.size, 0, none⟩) 1 1 [128] rfl ob.out wr.heap.size A2 X.length c2 X rfl XY2.out XN h1len (by simp) ?_; intro A8 c8 w8 o8 g8; have O8 := Lib.hid o8; have B8 := Lib.hid (B7.out.grown g8 B7.out.size (fun kk hk2 => Nat.le_trans B6.out.size (ob.out.1.lt kk hk2).1)); clear o8 g8)
          | (go_at_call 19; refine (long_any A8 (1 + X.length) c8 _ ([128] ++ X) w8 O8.out.by h1len).mono ?_; rw [LZ.out]; rintro e w9 ⟨rfl, rfl⟩))
        go_ret
        exact ⟨rfl, B8.out⟩

end Go.Proofs.YtemfnckaehjhcaaDoor
