/-
  Blanks repeated; blanks and a remark ahead shift all tokens: LexShifts.
-/
import Derived.Test.YtblcfjliabeaiaaDoorL45
import Derived.Test.YtblcfjliabeaiaaDoorShelfC
namespace Go.Proofs.YtblcfjliabeaiaaDoor
open Go.RowKit Go.Shelf
attribute [local go_sem] Oper.semAt_some

set_option maxRecDepth 100000 in
set_option maxHeartbeats 4000000 in
theorem rep_any (k : Nat) (hk : k ≤ 8) (w : World) : Calls Tryd.prog 27 #[.string ⟨#[32]⟩, .int .i64 (k : Int)] w fun e w' => e = .returned (tx (List.replicate k 32)) ∧ w' = w := by
  have hc : k = 0 ∨ k = 1 ∨ k = 2 ∨ k = 3 ∨ k = 4 ∨ k = 5 ∨ k = 6 ∨ k = 7 ∨ k = 8 := by omega
  rcases hc with rfl | rfl | rfl | rfl | rfl | rfl | rfl | rfl | rfl
  · go_enter Tryd.func27, Tryd.ntmps27
    go_wp2_with fail
    go_ret
    exact ⟨rfl, rfl⟩
  · go_enter Tryd.func27, Tryd.ntmps27
    go_wp2_with fail
    go_ret
    exact ⟨rfl, rfl⟩
  · have MU := Lib.hid (Tryd.bits_Mul 1 2 (by decide) (by decide) w)
    go_enter Tryd.func27, Tryd.ntmps27
    go_wp2_with (first
      | (go_at_call 42; refine MU.out.mono ?_; rintro e w2 ⟨rfl, rfl⟩)
      | (go_at_call 43; refine (Tryd.strings_HasPrefix _ _ _).mono ?_; rintro e w3 ⟨rfl, rfl⟩; generalize hq : Lib.hasPrefix _ _ = q; obtain rfl : q = true := hq.symm.trans (by kernel_rfl)))
    go_ret
    exact ⟨by kernel_rfl, rfl⟩
  · have MU := Lib.hid (Tryd.bits_Mul 1 3 (by decide) (by decide) w)
    go_enter Tryd.func27, Tryd.ntmps27
    go_wp2_with (first
      | (go_at_call 42; refine MU.out.mono ?_; rintro e w2 ⟨rfl, rfl⟩)
      | (go_at_call 43; refine (Tryd.strings_HasPrefix _ _ _).mono ?_; rintro e w3 ⟨rfl, rfl⟩; generalize hq : Lib.hasPrefix _ _ = q; obtain rfl : q = true := hq.symm.trans (by kernel_rfl)))
    go_ret
    exact ⟨by kernel_rfl, rfl⟩
  · have MU := Lib.hid (Tryd.bits_Mul 1 4 (by decide) (by decide) w)
    go_enter Tryd.func27, Tryd.ntmps27
    go_wp2_with (first
      | (go_at_call 42; refine MU.out.mono ?_; rintro e w2 ⟨rfl, rfl⟩)
      | (go_at_call 43; refine (Tryd.strings_HasPrefix _ _ _).mono ?_; rintro e w3 ⟨rfl, rfl⟩; generalize hq : Lib.hasPrefix _ _ = q; obtain rfl : q = true := hq.symm.trans (by kernel_rfl)))
    go_ret
    exact ⟨by kernel_rfl, rfl⟩
  · have MU := Lib.hid (Tryd.bits_Mul 1 5 (by decide) (by decide) w)
    go_enter Tryd.func27, Tryd.ntmps27
    go_wp2_with (first
      | (go_at_call 42; refine MU.out.mono ?_; rintro e w2 ⟨rfl, rfl⟩)
      | (go_at_call 43; refine (Tryd.strings_HasPrefix _ _ _).mono ?_; rintro e w3 ⟨rfl, rfl⟩; generalize hq : Lib.hasPrefix _ _ = q; obtain rfl : q = true := hq.symm.trans (by kernel_rfl)))
    go_ret
    exact ⟨by kernel_rfl, rfl⟩
  · have MU := Lib.hid (Tryd.bits_Mul 1 6 (by decide) (by decide) w)
    go_enter Tryd.func27, Tryd.ntmps27
    go_wp2_with (first
      | (go_at_call 42; refine MU.out.mono ?_; rintro e w2 ⟨rfl, rfl⟩)
      | (go_at_call 43; refine (Tryd.strings_HasPrefix _ _ _).mono ?_; rintro e w3 ⟨rfl, rfl⟩; generalize hq : Lib.hasPrefix _ _ = q; obtain rfl : q = true := hq.symm.trans (by kernel_rfl)))
    go_ret
    exact ⟨by kernel_rfl, rfl⟩
  · have MU := Lib.hid (Tryd.bits_Mul 1 7 (by decide) (by decide) w)
    go_enter Tryd.func27, Tryd.ntmps27
    go_wp2_with (first
      | (go_at_call 42; refine MU.out.mono ?_; rintro e w2 ⟨rfl, rfl⟩)
      | (go_at_call 43; refine (Tryd.strings_HasPrefix _ _ _).mono ?_; rintro e w3 ⟨rfl, rfl⟩; generalize hq : Lib.hasPrefix _ _ = q; obtain rfl : q = true := hq.symm.trans (by kernel_rfl)))
    go_ret
    exact ⟨by kernel_rfl, rfl⟩
  · have MU := Lib.hid (Tryd.bits_Mul 1 8 (by decide) (by decide) w)
    go_enter Tryd.func27, Tryd.ntmps27
    go_wp2_with (first
      | (go_at_call 42; refine MU.out.mono ?_; rintro e w2 ⟨rfl, rfl⟩)
      | (go_at_call 43; refine (Tryd.strings_HasPrefix _ _ _).mono ?_; rintro e w3 ⟨rfl, rfl⟩; generalize hq : Lib.hasPrefix _ _ = q; obtain rfl : q = true := hq.symm.trans (by kernel_rfl)))
    go_ret
    exact ⟨by kernel_rfl, rfl⟩
theorem ba_cat (a b : List UInt8) : (⟨a.toArray⟩ : ByteArray) ++ (⟨b.toArray⟩ : ByteArray) = ⟨(a ++ b).toArray⟩ := by
  apply ByteArray.ext
  rw [ByteArray.data_append]
  simp
theorem idx_no {c : UInt8} : ∀ {r : List UInt8}, ¬ 0 ≤ Lib.indexByte r c → c ∉ r
  | [], _ => by simp
  | b :: r, h => by
    unfold Lib.indexByte at h
    by_cases hb : (b == c) = true
    · rw [if_pos hb] at h; exact absurd (Int.le_refl 0) h
    · rw [if_neg hb] at h
      have hr : ¬ 0 ≤ Lib.indexByte r c := by
        intro x
        apply h
        have : ¬ (Lib.indexByte r c == -1) = true := by rw [beq_iff_eq]; omega
        rw [if_neg this]
        omega
      intro hm
      rcases List.mem_cons.1 hm with rfl | hm
      · exact hb (beq_self_eq_true _)
      · exact idx_no hr hm
theorem sh_getD {ts : List Tk} (d : Nat) {i : Nat} (hi : i < ts.length) : (ts.map (Tk.sh d)).getD i (errT 0) = (ts.getD i (errT 0)).sh d := by simp [List.getD, hi]
theorem map_getD2 {ts : List Tk} {i : Nat} (hi : i < ts.length) : (ts.map Tk.q).getD i errQ = (ts.getD i (errT 0)).q := by simp [List.getD, hi]
theorem u9 (n : Int) : ∃ k : Nat, k ≤ 8 ∧ wrap64 ((IntKind.u64.wrap n).tmod 9) = (k : Int) := by
  have h0 : 0 ≤ IntKind.u64.wrap n := by
    show 0 ≤ n % 18446744073709551616
    omega
  generalize IntKind.u64.wrap n = x at *
  refine ⟨(x % 9).toNat, by omega, ?_⟩
  rw [Int.tmod_eq_emod_of_nonneg h0]
  have : wrap64 (x % 9) = x % 9 := by
    unfold wrap64
    omega
  rw [this]
  omega

set_option maxRecDepth 100000 in
set_option maxHeartbeats 8000000 in
theorem shifts_walk (s : List UInt8) (n : Int) (r : List UInt8) (w : World) (hG : Gl w) :
    Calls Tryd.prog 7 #[tx s, .int .i64 n, tx r] w fun e w' => e = .returned (.bool true) ∧ Below w.heap.size w w' := by
  have WK := Lib.hid (wakes_any w hG)
  have GH := Lib.hid hG
  have TE := Lib.hid (fun W => text_any s W)
  have SL : (s.take 1025).length ≤ 1025 := by rw [List.length_take]; omega
  generalize s.take 1025 = l at *
  clear hG
  obtain ⟨k, hk, hw⟩ := u9 n
  have RP := Lib.hid (fun W => rep_any k hk W)
  have C1 := ba_cat (List.replicate k 32) [9]
  have C2 := ba_cat [45, 45] r
  have C3 := ba_cat ([45, 45] ++ r) [10]
  have C4 := ba_cat (List.replicate k 32 ++ [9]) ([45, 45] ++ r ++ [10])
  have L0 : (List.replicate k (32 : UInt8) ++ [9]).length ≤ 9 := by rw [List.length_append, List.length_replicate]; simp; omega
  have L2 : r.length < 50 → (List.replicate k (32 : UInt8) ++ [9] ++ ([45, 45] ++ r ++ [10])).length ≤ 70 := fun h => by rw [List.length_append]; simp only [List.length_append, List.length_replicate, List.length_cons, List.length_nil]; omega
  have CO := Lib.hid (fun W => Tryd.strings_Contains_one ⟨r.toArray⟩ 10 W)
  simp only at CO
  have HA0 : ∀ m, blkN false ((List.replicate k (32 : UInt8) ++ [9]) ++ m) = (List.replicate k (32 : UInt8) ++ [9]).length + blkN false m := fun m => blk_ahead k m
  have HA1 : (10 : UInt8) ∉ r → ∀ m, blkN false ((List.replicate k (32 : UInt8) ++ [9] ++ ([45, 45] ++ r ++ [10])) ++ m) = (List.replicate k (32 : UInt8) ++ [9] ++ ([45, 45] ++ r ++ [10])).length + blkN false m := fun h m => blk_ahead2 k r m h
  have m0 : (List.replicate k (32 : UInt8)).length ≤ 8 := by rw [List.length_replicate]; omega
  have m1 : ([45, 45] ++ r).length = r.length + 2 := by simp
  have m2 : ([45, 45] ++ r ++ [10]).length = r.length + 3 := by simp
  generalize List.replicate k (32 : UInt8) ++ [9] = A0 at *
  generalize A0 ++ ([45, 45] ++ r ++ [10]) = A1 at *
  generalize [45, 45] ++ r ++ [10] = r2 at *
  generalize [45, 45] ++ r = r1 at *
  generalize List.replicate k (32 : UInt8) = r0 at *
  have b0 : ¬ 9223372036854775807 < r0.length + 1 := by omega
  go_enter Tryd.func7, Tryd.ntmps7
  go_upto_region 5 with (first
      | (go_at_call 8; refine WK.out.mono ?_; rintro e w1 ⟨rfl, hb⟩; have H1 := Lib.hid hb; clear hb WK)
      | (go_at_call 26; refine (TE.out _).mono ?_; rintro e w2 ⟨rfl, rfl⟩; clear TE))
  rw [hw]
  by_cases hi : 0 ≤ Lib.indexByte r 10
  · have di : decide (0 ≤ Lib.indexByte r 10) = true := decide_eq_true hi
    have HA := HA0
    go_upto_region 8 with (first
      | (go_at_call 27; refine (RP.out _).mono ?_; rintro e y1 ⟨rfl, rfl⟩)
      | (go_at_call 28; refine (CO.out _).mono ?_; rintro e y2 ⟨rfl, rfl⟩))
    by_cases hl : 1024 < l.length + A0.length
    · have dl : decide ((1024 : Int) < (l.length : Int) + (A0.length : Int)) = true := decide_eq_true (by omega)
      have dk : decide (1024 < l.length + A0.length) = true := decide_eq_true (by omega)
      go_wp2_with fail
      go_ret
      exact ⟨rfl, H1.out⟩
    · have dl : decide ((1024 : Int) < (l.length : Int) + (A0.length : Int)) = false := decide_eq_false (by omega)
      have dk : decide (1024 < l.length + A0.length) = false := decide_eq_false (by omega)
      have b1 : ¬ 9223372036854775807 < A0.length + l.length := by omega
      have LS := Lib.hid (fun W h => lex_any l (by omega) W h)
      have LA := Lib.hid (fun W h => lex_any (A0 ++ l) (by rw [List.length_append]; omega) W h)
      have CA := ba_cat A0 l
      unfold Lexd at LS LA
      have hF := lexF_ahead (a := A0) (s := l) (HA l) (by omega)
      rw [hF] at LA
      clear hF HA
      obtain ⟨d, hd⟩ : ∃ d, A0.length = d := ⟨_, rfl⟩
      generalize A0 ++ l = al at *
      rcases lexF_cases l with ⟨ts, hx⟩ | ⟨er, a, hx, he, ha⟩
      · rw [hx] at LS LA
        unfold lexSh at LA
        rw [if_pos rfl] at LA
        obtain ⟨PL, UL, -, -⟩ := lexF_plc hx
        have SM : samR (ts.map Tk.q) ((ts.map (Tk.sh A0.length)).map Tk.q) = true := decide_eq_true (by simp only [List.map_map]; rfl)
        have SMH := Lib.hid SM
        have SG := Lib.hid (fun i (hi : i < ts.length) => sh_getD A0.length hi)
        have PB := Lib.hid (fun i (hi : i < ts.length) => plc_one (show l.length ≤ 1024 by omega) PL hi)
        have UL2 : (ts.map (Tk.sh A0.length)).length = ts.length := List.length_map ..
        clear hx PL SM
        rw [hd] at SMH SG LA UL2
        generalize ts.map (Tk.sh d) = us at *
        go_upto_region 12 with (first
          | (go_at_call 25; refine (LS.out _ (GH.out.on H1.out)).mono ?_; rintro e w3 ⟨A3, n3, c3, rfl, ht, hb⟩; have T3 := Lib.hid ht; have H3 := Lib.hid (H1.out.trans (hb.mono H1.out.size)); clear ht hb LS; have H4 := Lib.hid (H3.out.alloc H3.out.size (.cells #[.int .i64 0, .int .i64 0] 42)); have T4 := Lib.hid (T3.out.below ((Below.refl _ _).alloc (Nat.le_refl _) (.cells #[.int .i64 0, .int .i64 0] 42))); have B4 : Hid (Blk (w3.alloc (.cells #[.int .i64 0, .int .i64 0] 42)) w3.heap.size 42 #[.int .i64 0, .int .i64 0]) := Lib.hid (Blk.new _ _ _))
          | (go_at_call 25; refine (LA.out _ (GH.out.on H4.out)).mono ?_; rintro e w5 ⟨A5, n5, c5, rfl, ht, hb⟩; have T5 := Lib.hid ht; have H5 := Lib.hid (H4.out.trans (hb.mono H4.out.size)); have X5 := Lib.hid (T4.out.trd.on hb); have B5 : Hid (Blk w5 w3.heap.size 42 #[.int .i64 0, .int .i64 0]) := Lib.hid (B4.out.below hb B4.out.lt); clear ht hb LA))
        have nl3 : ts.length = n3 := T3.out.len
        have nl5 : us.length = n5 := T5.out.len
        obtain rfl : n5 = n3 := by omega
        have AL6 : Below w5.heap.size w5 (w5.alloc (.cells #[.int .i64 0, .int .i64 0] 42)) := (Below.refl _ _).alloc (Nat.le_refl _) _
        have T6 := Lib.hid (T5.out.below AL6).trd
        have X6 := Lib.hid (X5.out.on AL6)
        have H6 := Lib.hid (H5.out.trans (AL6.mono H5.out.size))
        have B6 : Hid (Blk (w5.alloc (.cells #[.int .i64 0, .int .i64 0] 42)) w3.heap.size 42 #[.int .i64 0, .int .i64 0]) := Lib.hid (Blk.alloc B5.out _)
        have C6 : Hid (Blk (w5.alloc (.cells #[.int .i64 0, .int .i64 0] 42)) w5.heap.size 42 #[.int .i64 0, .int .i64 0]) := Lib.hid (Blk.new _ _ _)
        clear AL6 T5 X5 H5 B5 T4 H4 B4 T3 H3
        generalize w3.heap.size = r3 at *
        generalize w5.heap.size = r5 at *
        generalize w5.alloc (.cells #[.int .i64 0, .int .i64 0] 42) = w6 at *
        have s0 : w6.cell? ⟨r3, 0, none⟩ = some (.int .i64 0) := B6.out.cell 0
        have s1 : w6.cell? ⟨r3, 1, none⟩ = some (.int .i64 0) := B6.out.cell 1
        have t0 : w6.cell? ⟨r5, 0, none⟩ = some (.int .i64 0) := C6.out.cell 0
        have t1 : w6.cell? ⟨r5, 1, none⟩ = some (.int .i64 0) := C6.out.cell 1
        have SA := Lib.hid (same_any A3 A5 n5 n5 c3 c5 _ _ _ w6 X6.out T6.out (by omega) (by omega) (Nat.le_refl _))
        rw [SMH.out] at SA
        go_upto_region 14 with (go_at_call 12; refine SA.out.mono ?_; rintro e w7 ⟨rfl, hb⟩; have H7 := Lib.hid (H6.out.trans (hb.mono H6.out.size)); have X7 := Lib.hid (X6.out.on hb); have T7 := Lib.hid (T6.out.on hb); clear hb)
        clear s0 s1 t0 t1 SA B6 C6 T6 X6
        go_wp2_with fail
        go_loopw [83] (fun iv wr => ∃ i : Nat, i ≤ n5 ∧ iv = .int .i64 (i : Int) ∧ Hid (Below w7.heap.size w7 wr)) (fun iv _ => n5 - (intOf iv).toNat)
        case atStart => exact ⟨0, Nat.zero_le _, rfl, Lib.hid (Below.refl _ _)⟩
        case round =>
          obtain ⟨i, hi2, rfl, HB⟩ := hrel
          by_cases hlt : i < n5
          · have i0 : (0 : Int) ≤ (i : Int) := by omega
            have i1 : (i : Int) < (n5 : Int) := by omega
            obtain ⟨b, o, rfl, hbB, -, -, -, x3, x4⟩ := (X7.out.below HB.out).at_ hlt
            obtain ⟨b', o', rfl, hbB', -, -, -, y3, y4⟩ := (T7.out.below HB.out).at_ hlt
            have P1 := PB.out i (by omega)
            rw [map_getD2 (by omega)] at x3 x4 y3 y4
            rw [SG.out i (by omega)] at y3 y4
            obtain ⟨t, ht⟩ : ∃ t, ts.getD i (errT 0) = t := ⟨_, rfl⟩
            rw [ht] at x3 x4 y3 y4 P1
            obtain ⟨kind, text, num, aa, to_⟩ := t
            have q1 : aa < to_ := P1.b
            have q2 : to_ ≤ l.length := P1.c
            simp only [Tk.q, Tk.sh, Int.natCast_add] at x3 x4 y3 y4
            have p0 : (0 : Int) ≤ (aa : Int) := by omega
            have p1 : (aa : Int) ≤ 1025 := by omega
            have p2 : (0 : Int) ≤ (to_ : Int) := by omega
            have p3 : (to_ : Int) ≤ 1025 := by omega
            have p4 : (d : Int) ≤ 1025 := by omega
            have p5 : (0 : Int) ≤ (d : Int) := by omega
            clear ht P1 q1 q2
            go_upto_region 17 with fail
            go_quiet (fail)
            go_wp2_with fail
            go_roundw
            case rel => exact ⟨i + 1, by omega, by go_num, Lib.hid (below_dr HB.out _)⟩
            case measure => simp [intOf]; omega
          · obtain rfl : i = n5 := by omega
            go_wp2_with fail
            go_ret
            exact ⟨rfl, H7.out.trans (HB.out.mono H7.out.size)⟩
      · rw [hx] at LS LA
        unfold lexSh at LA
        rw [if_neg he] at LA
        rw [hd] at LA
        simp only [List.map_nil] at LA
        have e1 : (er != 0) = true := by simpa using he
        have e2 : (er == 0) = false := by simpa using he
        have p0 : (0 : Int) ≤ (a : Int) := by omega
        have p1 : (a : Int) ≤ 1025 := by omega
        have p4 : (d : Int) ≤ 1025 := by omega
        have p5 : (0 : Int) ≤ (d : Int) := by omega
        clear hx
        go_upto_region 12 with (first
          | (go_at_call 25; refine (LS.out _ (GH.out.on H1.out)).mono ?_; rintro e w3 ⟨A3, n3, c3, rfl, ht, hb⟩; obtain rfl : 0 = n3 := ht.len; have T3 := Lib.hid ht; have H3 := Lib.hid (H1.out.trans (hb.mono H1.out.size)); clear ht hb LS; have H4 := Lib.hid (H3.out.alloc H3.out.size (.cells #[.int .i64 er, .int .i64 (a : Int)] 42)); have B4 : Hid (Blk (w3.alloc (.cells #[.int .i64 er, .int .i64 (a : Int)] 42)) w3.heap.size 42 #[.int .i64 er, .int .i64 (a : Int)]) := Lib.hid (Blk.new _ _ _))
          | (go_at_call 25; refine (LA.out _ (GH.out.on H4.out)).mono ?_; rintro e w5 ⟨A5, n5, c5, rfl, ht, hb⟩; obtain rfl : 0 = n5 := ht.len; have H5 := Lib.hid (H4.out.trans (hb.mono H4.out.size)); have B5 : Hid (Blk w5 w3.heap.size 42 #[.int .i64 er, .int .i64 (a : Int)]) := Lib.hid (B4.out.below hb B4.out.lt); clear ht hb LA))
        have H6 := Lib.hid (H5.out.alloc H5.out.size (.cells #[.int .i64 er, .int .i64 ((a + d : Nat) : Int)] 42))
        have B6 : Hid (Blk (w5.alloc (.cells #[.int .i64 er, .int .i64 ((a + d : Nat) : Int)] 42)) w3.heap.size 42 #[.int .i64 er, .int .i64 (a : Int)]) := Lib.hid (Blk.alloc B5.out _)
        have C6 : Hid (Blk (w5.alloc (.cells #[.int .i64 er, .int .i64 ((a + d : Nat) : Int)] 42)) w5.heap.size 42 #[.int .i64 er, .int .i64 ((a + d : Nat) : Int)]) := Lib.hid (Blk.new _ _ _)
        rw [Int.natCast_add] at C6 B6 H6
        clear B5 H5 H4 B4 H3 T3
        generalize w3.heap.size = r3 at *
        generalize w5.heap.size = r5 at *
        generalize w5.alloc (.cells #[.int .i64 er, .int .i64 ((a : Int) + (d : Int))] 42) = w6 at *
        have s0 : w6.cell? ⟨r3, 0, none⟩ = some (.int .i64 er) := B6.out.cell 0
        have s1 : w6.cell? ⟨r3, 1, none⟩ = some (.int .i64 (a : Int)) := B6.out.cell 1
        have t0 : w6.cell? ⟨r5, 0, none⟩ = some (.int .i64 er) := C6.out.cell 0
        have t1 : w6.cell? ⟨r5, 1, none⟩ = some (.int .i64 ((a : Int) + (d : Int))) := C6.out.cell 1
        have SA := Lib.hid (same_any A3 A5 0 0 c3 c5 w6.heap.size [] [] w6 ⟨rfl, fun h => absurd h (by omega)⟩ ⟨rfl, fun h => absurd h (by omega)⟩ (by omega) (by omega) (Nat.le_refl _))
        rw [show samR [] [] = true from decide_eq_true rfl] at SA
        clear B6 C6
        go_upto_region 14 with (go_at_call 12; refine SA.out.mono ?_; rintro e w7 ⟨rfl, hb⟩; have H7 := Lib.hid (H6.out.trans (hb.mono H6.out.size)); clear hb)
        clear s0 s1 t0 t1 SA
        go_wp2_with fail
        go_loopw [83] (fun iv wr => iv = .int .i64 0 ∧ Hid (Below w.heap.size w wr)) (fun _ _ => 0)
        case atStart => exact ⟨rfl, H7⟩
        case round =>
          obtain ⟨rfl, HB⟩ := hrel
          go_wp2_with fail
          go_ret
          exact ⟨rfl, HB.out⟩
  · have di : decide (0 ≤ Lib.indexByte r 10) = false := decide_eq_false hi
    by_cases h50 : r.length < 50
    · have d1 : decide ((r.length : Int) < 50) = true := decide_eq_true (by omega)
      have d2 : decide (r.length < 50) = true := decide_eq_true h50
      have HA := HA1 (idx_no hi)
      have L1 := L2 h50
      have c0 : ¬ 9223372036854775807 < 2 + r.length := by omega
      have c1 : ¬ 9223372036854775807 < r.length + 2 := by omega
      have c2 : ¬ 9223372036854775807 < r1.length + 1 := by omega
      have c3 : ¬ 9223372036854775807 < A0.length + r2.length := by omega
      go_upto_region 8 with (first
        | (go_at_call 27; refine (RP.out _).mono ?_; rintro e y1 ⟨rfl, rfl⟩)
        | (go_at_call 28; refine (CO.out _).mono ?_; rintro e y2 ⟨rfl, rfl⟩))
      by_cases hl : 1024 < l.length + A1.length
      · have dl : decide ((1024 : Int) < (l.length : Int) + (A1.length : Int)) = true := decide_eq_true (by omega)
        have dk : decide (1024 < l.length + A1.length) = true := decide_eq_true (by omega)
        go_wp2_with fail
        go_ret
        exact ⟨rfl, H1.out⟩
      · have dl : decide ((1024 : Int) < (l.length : Int) + (A1.length : Int)) = false := decide_eq_false (by omega)
        have dk : decide (1024 < l.length + A1.length) = false := decide_eq_false (by omega)
        have b1 : ¬ 9223372036854775807 < A1.length + l.length := by omega
        have LS := Lib.hid (fun W h => lex_any l (by omega) W h)
        have LA := Lib.hid (fun W h => lex_any (A1 ++ l) (by rw [List.length_append]; omega) W h)
        have CA := ba_cat A1 l
        unfold Lexd at LS LA
        have hF := lexF_ahead (a := A1) (s := l) (HA l) (by omega)
        rw [hF] at LA
        clear hF HA
        obtain ⟨d, hd⟩ : ∃ d, A1.length = d := ⟨_, rfl⟩
        generalize A1 ++ l = al at *
        rcases lexF_cases l with ⟨ts, hx⟩ | ⟨er, a, hx, he, ha⟩
        · rw [hx] at LS LA
          unfold lexSh at LA
          rw [if_pos rfl] at LA
          obtain ⟨PL, UL, -, -⟩ := lexF_plc hx
          have SM : samR (ts.map Tk.q) ((ts.map (Tk.sh A1.length)).map Tk.q) = true := decide_eq_true (by simp only [List.map_map]; rfl)
          have SMH := Lib.hid SM
          have SG := Lib.hid (fun i (hi : i < ts.length) => sh_getD A1.length hi)
          have PB := Lib.hid (fun i (hi : i < ts.length) => plc_one (show l.length ≤ 1024 by omega) PL hi)
          have UL2 : (ts.map (Tk.sh A1.length)).length = ts.length := List.length_map ..
          clear hx PL SM
          rw [hd] at SMH SG LA UL2
          generalize ts.map (Tk.sh d) = us at *
          go_upto_region 12 with (first
            | (go_at_call 25; refine (LS.out _ (GH.out.on H1.out)).mono ?_; rintro e w3 ⟨A3, n3, c3, rfl, ht, hb⟩; have T3 := Lib.hid ht; have H3 := Lib.hid (H1.out.trans (hb.mono H1.out.size)); clear ht hb LS; have H4 := Lib.hid (H3.out.alloc H3.out.size (.cells #[.int .i64 0, .int .i64 0] 42)); have T4 := Lib.hid (T3.out.below ((Below.refl _ _).alloc (Nat.le_refl _) (.cells #[.int .i64 0, .int .i64 0] 42))); have B4 : Hid (Blk (w3.alloc (.cells #[.int .i64 0, .int .i64 0] 42)) w3.heap.size 42 #[.int .i64 0, .int .i64 0]) := Lib.hid (Blk.new _ _ _))
            | (go_at_call 25; refine (LA.out _ (GH.out.on H4.out)).mono ?_; rintro e w5 ⟨A5, n5, c5, rfl, ht, hb⟩; have T5 := Lib.hid ht; have H5 := Lib.hid (H4.out.trans (hb.mono H4.out.size)); have X5 := Lib.hid (T4.out.trd.on hb); have B5 : Hid (Blk w5 w3.heap.size 42 #[.int .i64 0, .int .i64 0]) := Lib.hid (B4.out.below hb B4.out.lt); clear ht hb LA))
          have nl3 : ts.length = n3 := T3.out.len
          have nl5 : us.length = n5 := T5.out.len
          obtain rfl : n5 = n3 := by omega
          have AL6 : Below w5.heap.size w5 (w5.alloc (.cells #[.int .i64 0, .int .i64 0] 42)) := (Below.refl _ _).alloc (Nat.le_refl _) _
          have T6 := Lib.hid (T5.out.below AL6).trd
          have X6 := Lib.hid (X5.out.on AL6)
          have H6 := Lib.hid (H5.out.trans (AL6.mono H5.out.size))
          have B6 : Hid (Blk (w5.alloc (.cells #[.int .i64 0, .int .i64 0] 42)) w3.heap.size 42 #[.int .i64 0, .int .i64 0]) := Lib.hid (Blk.alloc B5.out _)
          have C6 : Hid (Blk (w5.alloc (.cells #[.int .i64 0, .int .i64 0] 42)) w5.heap.size 42 #[.int .i64 0, .int .i64 0]) := Lib.hid (Blk.new _ _ _)
          clear AL6 T5 X5 H5 B5 T4 H4 B4 T3 H3
          generalize w3.heap.size = r3 at *
          generalize w5.heap.size = r5 at *
          generalize w5.alloc (.cells #[.int .i64 0, .int .i64 0] 42) = w6 at *
          have s0 : w6.cell? ⟨r3, 0, none⟩ = some (.int .i64 0) := B6.out.cell 0
          have s1 : w6.cell? ⟨r3, 1, none⟩ = some (.int .i64 0) := B6.out.cell 1
          have t0 : w6.cell? ⟨r5, 0, none⟩ = some (.int .i64 0) := C6.out.cell 0
          have t1 : w6.cell? ⟨r5, 1, none⟩ = some (.int .i64 0) := C6.out.cell 1
          have SA := Lib.hid (same_any A3 A5 n5 n5 c3 c5 _ _ _ w6 X6.out T6.out (by omega) (by omega) (Nat.le_refl _))
          rw [SMH.out] at SA
          go_upto_region 14 with (go_at_call 12; refine SA.out.mono ?_; rintro e w7 ⟨rfl, hb⟩; have H7 := Lib.hid (H6.out.trans (hb.mono H6.out.size)); have X7 := Lib.hid (X6.out.on hb); have T7 := Lib.hid (T6.out.on hb); clear hb)
          clear s0 s1 t0 t1 SA B6 C6 T6 X6
          go_wp2_with fail
          go_loopw [83] (fun iv wr => ∃ i : Nat, i ≤ n5 ∧ iv = .int .i64 (i : Int) ∧ Hid (Below w7.heap.size w7 wr)) (fun iv _ => n5 - (intOf iv).toNat)
          case atStart => exact ⟨0, Nat.zero_le _, rfl, Lib.hid (Below.refl _ _)⟩
          case round =>
            obtain ⟨i, hi2, rfl, HB⟩ := hrel
            by_cases hlt : i < n5
            · have i0 : (0 : Int) ≤ (i : Int) := by omega
              have i1 : (i : Int) < (n5 : Int) := by omega
              obtain ⟨b, o, rfl, hbB, -, -, -, x3, x4⟩ := (X7.out.below HB.out).at_ hlt
              obtain ⟨b', o', rfl, hbB', -, -, -, y3, y4⟩ := (T7.out.below HB.out).at_ hlt
              have P1 := PB.out i (by omega)
              rw [map_getD2 (by omega)] at x3 x4 y3 y4
              rw [SG.out i (by omega)] at y3 y4
              obtain ⟨t, ht⟩ : ∃ t, ts.getD i (errT 0) = t := ⟨_, rfl⟩
              rw [ht] at x3 x4 y3 y4 P1
              obtain ⟨kind, text, num, aa, to_⟩ := t
              have q1 : aa < to_ := P1.b
              have q2 : to_ ≤ l.length := P1.c
              simp only [Tk.q, Tk.sh, Int.natCast_add] at x3 x4 y3 y4
              have p0 : (0 : Int) ≤ (aa : Int) := by omega
              have p1 : (aa : Int) ≤ 1025 := by omega
              have p2 : (0 : Int) ≤ (to_ : Int) := by omega
              have p3 : (to_ : Int) ≤ 1025 := by omega
              have p4 : (d : Int) ≤ 1025 := by omega
              have p5 : (0 : Int) ≤ (d : Int) := by omega
              clear ht P1 q1 q2
              go_upto_region 17 with fail
              go_quiet (fail)
              go_wp2_with fail
              go_roundw
              case rel => exact ⟨i + 1, by omega, by go_num, Lib.hid (below_dr HB.out _)⟩
              case measure => simp [intOf]; omega
            · obtain rfl : i = n5 := by omega
              go_wp2_with fail
              go_ret
              exact ⟨rfl, H7.out.trans (HB.out.mono H7.out.size)⟩
        · rw [hx] at LS LA
          unfold lexSh at LA
          rw [if_neg he] at LA
          rw [hd] at LA
          simp only [List.map_nil] at LA
          have e1 : (er != 0) = true := by simpa using he
          have e2 : (er == 0) = false := by simpa using he
          have p0 : (0 : Int) ≤ (a : Int) := by omega
          have p1 : (a : Int) ≤ 1025 := by omega
          have p4 : (d : Int) ≤ 1025 := by omega
          have p5 : (0 : Int) ≤ (d : Int) := by omega
          clear hx
          go_upto_region 12 with (first
            | (go_at_call 25; refine (LS.out _ (GH.out.on H1.out)).mono ?_; rintro e w3 ⟨A3, n3, c3, rfl, ht, hb⟩; obtain rfl : 0 = n3 := ht.len; have T3 := Lib.hid ht; have H3 := Lib.hid (H1.out.trans (hb.mono H1.out.size)); clear ht hb LS; have H4 := Lib.hid (H3.out.alloc H3.out.size (.cells #[.int .i64 er, .int .i64 (a : Int)] 42)); have B4 : Hid (Blk (w3.alloc (.cells #[.int .i64 er, .int .i64 (a : Int)] 42)) w3.heap.size 42 #[.int .i64 er, .int .i64 (a : Int)]) := Lib.hid (Blk.new _ _ _))
            | (go_at_call 25; refine (LA.out _ (GH.out.on H4.out)).mono ?_; rintro e w5 ⟨A5, n5, c5, rfl, ht, hb⟩; obtain rfl : 0 = n5 := ht.len; have H5 := Lib.hid (H4.out.trans (hb.mono H4.out.size)); have B5 : Hid (Blk w5 w3.heap.size 42 #[.int .i64 er, .int .i64 (a : Int)]) := Lib.hid (B4.out.below hb B4.out.lt); clear ht hb LA))
          have H6 := Lib.hid (H5.out.alloc H5.out.size (.cells #[.int .i64 er, .int .i64 ((a + d : Nat) : Int)] 42))
          have B6 : Hid (Blk (w5.alloc (.cells #[.int .i64 er, .int .i64 ((a + d : Nat) : Int)] 42)) w3.heap.size 42 #[.int .i64 er, .int .i64 (a : Int)]) := Lib.hid (Blk.alloc B5.out _)
          have C6 : Hid (Blk (w5.alloc (.cells #[.int .i64 er, .int .i64 ((a + d : Nat) : Int)] 42)) w5.heap.size 42 #[.int .i64 er, .int .i64 ((a + d : Nat) : Int)]) := Lib.hid (Blk.new _ _ _)
          rw [Int.natCast_add] at C6 B6 H6
          clear B5 H5 H4 B4 H3 T3
          generalize w3.heap.size = r3 at *
          generalize w5.heap.size = r5 at *
          generalize w5.alloc (.cells #[.int .i64 er, .int .i64 ((a : Int) + (d : Int))] 42) = w6 at *
          have s0 : w6.cell? ⟨r3, 0, none⟩ = some (.int .i64 er) := B6.out.cell 0
          have s1 : w6.cell? ⟨r3, 1, none⟩ = some (.int .i64 (a : Int)) := B6.out.cell 1
          have t0 : w6.cell? ⟨r5, 0, none⟩ = some (.int .i64 er) := C6.out.cell 0
          have t1 : w6.cell? ⟨r5, 1, none⟩ = some (.int .i64 ((a : Int) + (d : Int))) := C6.out.cell 1
          have SA := Lib.hid (same_any A3 A5 0 0 c3 c5 w6.heap.size [] [] w6 ⟨rfl, fun h => absurd h (by omega)⟩ ⟨rfl, fun h => absurd h (by omega)⟩ (by omega) (by omega) (Nat.le_refl _))
          rw [show samR [] [] = true from decide_eq_true rfl] at SA
          clear B6 C6
          go_upto_region 14 with (go_at_call 12; refine SA.out.mono ?_; rintro e w7 ⟨rfl, hb⟩; have H7 := Lib.hid (H6.out.trans (hb.mono H6.out.size)); clear hb)
          clear s0 s1 t0 t1 SA
          go_wp2_with fail
          go_loopw [83] (fun iv wr => iv = .int .i64 0 ∧ Hid (Below w.heap.size w wr)) (fun _ _ => 0)
          case atStart => exact ⟨rfl, H7⟩
          case round =>
            obtain ⟨rfl, HB⟩ := hrel
            go_wp2_with fail
            go_ret
            exact ⟨rfl, HB.out⟩
    · have d1 : decide ((r.length : Int) < 50) = false := decide_eq_false (by omega)
      have d2 : decide (r.length < 50) = false := decide_eq_false h50
      have HA := HA0
      go_upto_region 8 with (first
        | (go_at_call 27; refine (RP.out _).mono ?_; rintro e y1 ⟨rfl, rfl⟩)
        | (go_at_call 28; refine (CO.out _).mono ?_; rintro e y2 ⟨rfl, rfl⟩))
      by_cases hl : 1024 < l.length + A0.length
      · have dl : decide ((1024 : Int) < (l.length : Int) + (A0.length : Int)) = true := decide_eq_true (by omega)
        have dk : decide (1024 < l.length + A0.length) = true := decide_eq_true (by omega)
        go_wp2_with fail
        go_ret
        exact ⟨rfl, H1.out⟩
      · have dl : decide ((1024 : Int) < (l.length : Int) + (A0.length : Int)) = false := decide_eq_false (by omega)
        have dk : decide (1024 < l.length + A0.length) = false := decide_eq_false (by omega)
        have b1 : ¬ 9223372036854775807 < A0.length + l.length := by omega
        have LS := Lib.hid (fun W h => lex_any l (by omega) W h)
        have LA := Lib.hid (fun W h => lex_any (A0 ++ l) (by rw [List.length_append]; omega) W h)
        have CA := ba_cat A0 l
        unfold Lexd at LS LA
        have hF := lexF_ahead (a := A0) (s := l) (HA l) (by omega)
        rw [hF] at LA
        clear hF HA
        obtain ⟨d, hd⟩ : ∃ d, A0.length = d := ⟨_, rfl⟩
        generalize A0 ++ l = al at *
        rcases lexF_cases l with ⟨ts, hx⟩ | ⟨er, a, hx, he, ha⟩
        · rw [hx] at LS LA
          unfold lexSh at LA
          rw [if_pos rfl] at LA
          obtain ⟨PL, UL, -, -⟩ := lexF_plc hx
          have SM : samR (ts.map Tk.q) ((ts.map (Tk.sh A0.length)).map Tk.q) = true := decide_eq_true (by simp only [List.map_map]; rfl)
          have SMH := Lib.hid SM
          have SG := Lib.hid (fun i (hi : i < ts.length) => sh_getD A0.length hi)
          have PB := Lib.hid (fun i (hi : i < ts.length) => plc_one (show l.length ≤ 1024 by omega) PL hi)
          have UL2 : (ts.map (Tk.sh A0.length)).length = ts.length := List.length_map ..
          clear hx PL SM
          rw [hd] at SMH SG LA UL2
          generalize ts.map (Tk.sh d) = us at *
          go_upto_region 12 with (first
            | (go_at_call 25; refine (LS.out _ (GH.out.on H1.out)).mono ?_; rintro e w3 ⟨A3, n3, c3, rfl, ht, hb⟩; have T3 := Lib.hid ht; have H3 := Lib.hid (H1.out.trans (hb.mono H1.out.size)); clear ht hb LS; have H4 := Lib.hid (H3.out.alloc H3.out.size (.cells #[.int .i64 0, .int .i64 0] 42)); have T4 := Lib.hid (T3.out.below ((Below.refl _ _).alloc (Nat.le_refl _) (.cells #[.int .i64 0, .int .i64 0] 42))); have B4 : Hid (Blk (w3.alloc (.cells #[.int .i64 0, .int .i64 0] 42)) w3.heap.size 42 #[.int .i64 0, .int .i64 0]) := Lib.hid (Blk.new _ _ _))
            | (go_at_call 25; refine (LA.out _ (GH.out.on H4.out)).mono ?_; rintro e w5 ⟨A5, n5, c5, rfl, ht, hb⟩; have T5 := Lib.hid ht; have H5 := Lib.hid (H4.out.trans (hb.mono H4.out.size)); have X5 := Lib.hid (T4.out.trd.on hb); have B5 : Hid (Blk w5 w3.heap.size 42 #[.int .i64 0, .int .i64 0]) := Lib.hid (B4.out.below hb B4.out.lt); clear ht hb LA))
          have nl3 : ts.length = n3 := T3.out.len
          have nl5 : us.length = n5 := T5.out.len
          obtain rfl : n5 = n3 := by omega
          have AL6 : Below w5.heap.size w5 (w5.alloc (.cells #[.int .i64 0, .int .i64 0] 42)) := (Below.refl _ _).alloc (Nat.le_refl _) _
          have T6 := Lib.hid (T5.out.below AL6).trd
          have X6 := Lib.hid (X5.out.on AL6)
          have H6 := Lib.hid (H5.out.trans (AL6.mono H5.out.size))
          have B6 : Hid (Blk (w5.alloc (.cells #[.int .i64 0, .int .i64 0] 42)) w3.heap.size 42 #[.int .i64 0, .int .i64 0]) := Lib.hid (Blk.alloc B5.out _)
          have C6 : Hid (Blk (w5.alloc (.cells #[.int .i64 0, .int .i64 0] 42)) w5.heap.size 42 #[.int .i64 0, .int .i64 0]) := Lib.hid (Blk.new _ _ _)
          clear AL6 T5 X5 H5 B5 T4 H4 B4 T3 H3
          generalize w3.heap.size = r3 at *
          generalize w5.heap.size = r5 at *
          generalize w5.alloc (.cells #[.int .i64 0, .int .i64 0] 42) = w6 at *
          have s0 : w6.cell? ⟨r3, 0, none⟩ = some (.int .i64 0) := B6.out.cell 0
          have s1 : w6.cell? ⟨r3, 1, none⟩ = some (.int .i64 0) := B6.out.cell 1
          have t0 : w6.cell? ⟨r5, 0, none⟩ = some (.int .i64 0) := C6.out.cell 0
          have t1 : w6.cell? ⟨r5, 1, none⟩ = some (.int .i64 0) := C6.out.cell 1
          have SA := Lib.hid (same_any A3 A5 n5 n5 c3 c5 _ _ _ w6 X6.out T6.out (by omega) (by omega) (Nat.le_refl _))
          rw [SMH.out] at SA
          go_upto_region 14 with (go_at_call 12; refine SA.out.mono ?_; rintro e w7 ⟨rfl, hb⟩; have H7 := Lib.hid (H6.out.trans (hb.mono H6.out.size)); have X7 := Lib.hid (X6.out.on hb); have T7 := Lib.hid (T6.out.on hb); clear hb)
          clear s0 s1 t0 t1 SA B6 C6 T6 X6
          go_wp2_with fail
          go_loopw [83] (fun iv wr => ∃ i : Nat, i ≤ n5 ∧ iv = .int .i64 (i : Int) ∧ Hid (Below w7.heap.size w7 wr)) (fun iv _ => n5 - (intOf iv).toNat)
          case atStart => exact ⟨0, Nat.zero_le _, rfl, Lib.hid (Below.refl _ _)⟩
          case round =>
            obtain ⟨i, hi2, rfl, HB⟩ := hrel
            by_cases hlt : i < n5
            · have i0 : (0 : Int) ≤ (i : Int) := by omega
              have i1 : (i : Int) < (n5 : Int) := by omega
              obtain ⟨b, o, rfl, hbB, -, -, -, x3, x4⟩ := (X7.out.below HB.out).at_ hlt
              obtain ⟨b', o', rfl, hbB', -, -, -, y3, y4⟩ := (T7.out.below HB.out).at_ hlt
              have P1 := PB.out i (by omega)
              rw [map_getD2 (by omega)] at x3 x4 y3 y4
              rw [SG.out i (by omega)] at y3 y4
              obtain ⟨t, ht⟩ : ∃ t, ts.getD i (errT 0) = t := ⟨_, rfl⟩
              rw [ht] at x3 x4 y3 y4 P1
              obtain ⟨kind, text, num, aa, to_⟩ := t
              have q1 : aa < to_ := P1.b
              have q2 : to_ ≤ l.length := P1.c
              simp only [Tk.q, Tk.sh, Int.natCast_add] at x3 x4 y3 y4
              have p0 : (0 : Int) ≤ (aa : Int) := by omega
              have p1 : (aa : Int) ≤ 1025 := by omega
              have p2 : (0 : Int) ≤ (to_ : Int) := by omega
              have p3 : (to_ : Int) ≤ 1025 := by omega
              have p4 : (d : Int) ≤ 1025 := by omega
              have p5 : (0 : Int) ≤ (d : Int) := by omega
              clear ht P1 q1 q2
              go_upto_region 17 with fail
              go_quiet (fail)
              go_wp2_with fail
              go_roundw
              case rel => exact ⟨i + 1, by omega, by go_num, Lib.hid (below_dr HB.out _)⟩
              case measure => simp [intOf]; omega
            · obtain rfl : i = n5 := by omega
              go_wp2_with fail
              go_ret
              exact ⟨rfl, H7.out.trans (HB.out.mono H7.out.size)⟩
        · rw [hx] at LS LA
          unfold lexSh at LA
          rw [if_neg he] at LA
          rw [hd] at LA
          simp only [List.map_nil] at LA
          have e1 : (er != 0) = true := by simpa using he
          have e2 : (er == 0) = false := by simpa using he
          have p0 : (0 : Int) ≤ (a : Int) := by omega
          have p1 : (a : Int) ≤ 1025 := by omega
          have p4 : (d : Int) ≤ 1025 := by omega
          have p5 : (0 : Int) ≤ (d : Int) := by omega
          clear hx
          go_upto_region 12 with (first
            | (go_at_call 25; refine (LS.out _ (GH.out.on H1.out)).mono ?_; rintro e w3 ⟨A3, n3, c3, rfl, ht, hb⟩; obtain rfl : 0 = n3 := ht.len; have T3 := Lib.hid ht; have H3 := Lib.hid (H1.out.trans (hb.mono H1.out.size)); clear ht hb LS; have H4 := Lib.hid (H3.out.alloc H3.out.size (.cells #[.int .i64 er, .int .i64 (a : Int)] 42)); have B4 : Hid (Blk (w3.alloc (.cells #[.int .i64 er, .int .i64 (a : Int)] 42)) w3.heap.size 42 #[.int .i64 er, .int .i64 (a : Int)]) := Lib.hid (Blk.new _ _ _))
            | (go_at_call 25; refine (LA.out _ (GH.out.on H4.out)).mono ?_; rintro e w5 ⟨A5, n5, c5, rfl, ht, hb⟩; obtain rfl : 0 = n5 := ht.len; have H5 := Lib.hid (H4.out.trans (hb.mono H4.out.size)); have B5 : Hid (Blk w5 w3.heap.size 42 #[.int .i64 er, .int .i64 (a : Int)]) := Lib.hid (B4.out.below hb B4.out.lt); clear ht hb LA))
          have H6 := Lib.hid (H5.out.alloc H5.out.size (.cells #[.int .i64 er, .int .i64 ((a + d : Nat) : Int)] 42))
          have B6 : Hid (Blk (w5.alloc (.cells #[.int .i64 er, .int .i64 ((a + d : Nat) : Int)] 42)) w3.heap.size 42 #[.int .i64 er, .int .i64 (a : Int)]) := Lib.hid (Blk.alloc B5.out _)
          have C6 : Hid (Blk (w5.alloc (.cells #[.int .i64 er, .int .i64 ((a + d : Nat) : Int)] 42)) w5.heap.size 42 #[.int .i64 er, .int .i64 ((a + d : Nat) : Int)]) := Lib.hid (Blk.new _ _ _)
          rw [Int.natCast_add] at C6 B6 H6
          clear B5 H5 H4 B4 H3 T3
          generalize w3.heap.size = r3 at *
          generalize w5.heap.size = r5 at *
          generalize w5.alloc (.cells #[.int .i64 er, .int .i64 ((a : Int) + (d : Int))] 42) = w6 at *
          have s0 : w6.cell? ⟨r3, 0, none⟩ = some (.int .i64 er) := B6.out.cell 0
          have s1 : w6.cell? ⟨r3, 1, none⟩ = some (.int .i64 (a : Int)) := B6.out.cell 1
          have t0 : w6.cell? ⟨r5, 0, none⟩ = some (.int .i64 er) := C6.out.cell 0
          have t1 : w6.cell? ⟨r5, 1, none⟩ = some (.int .i64 ((a : Int) + (d : Int))) := C6.out.cell 1
          have SA := Lib.hid (same_any A3 A5 0 0 c3 c5 w6.heap.size [] [] w6 ⟨rfl, fun h => absurd h (by omega)⟩ ⟨rfl, fun h => absurd h (by omega)⟩ (by omega) (by omega) (Nat.le_refl _))
          rw [show samR [] [] = true from decide_eq_true rfl] at SA
          clear B6 C6
          go_upto_region 14 with (go_at_call 12; refine SA.out.mono ?_; rintro e w7 ⟨rfl, hb⟩; have H7 := Lib.hid (H6.out.trans (hb.mono H6.out.size)); clear hb)
          clear s0 s1 t0 t1 SA
          go_wp2_with fail
          go_loopw [83] (fun iv wr => iv = .int .i64 0 ∧ Hid (Below w.heap.size w wr)) (fun _ _ => 0)
          case atStart => exact ⟨rfl, H7⟩
          case round =>
            obtain ⟨rfl, HB⟩ := hrel
            go_wp2_with fail
            go_ret
            exact ⟨rfl, HB.out⟩
end Go.Proofs.YtblcfjliabeaiaaDoor
