/-
  The law ValueBack, walked.
-/
import Derived.Test.YtndkoefchlclkaaLB
import Derived.Test.YtndkoefchlclkaaP1
import Derived.Test.YtndkoefchlclkaaTells
namespace Go.Proofs.Ytndkoefchlclkaa
open Go.RowKit
attribute [local go_sem ↓] eqV neV eqG

theorem encF_pos' (k n : Int) (s : ByteArray) : 0 < (encF k n s).length := by
  unfold encF
  split
  · simp
  · split
    · simp
    · split <;> simp
theorem By.first {w : World} {B n m c : Nat} {A : Option Addr} {xs : List Int} (h : By w B A n xs) (hm : m ≤ n) (hc : n ≤ c) : By w B A m (xs.take m) := by
  have h1 := By.cut (c := c) h (k := 0) (m := m) (by omega) (Nat.zero_le _) hc
  rw [List.drop_zero] at h1
  by_cases h0 : c = 0
  · rw [if_pos h0] at h1; exact h1
  · rw [if_neg h0] at h1
    cases A with
    | none => exact h1
    | some a => exact h1
theorem max_rem (cut : Int) (L : Nat) (hL : 0 < L) : ∃ m : Nat, (max cut 0).tmod (L : Int) = (m : Int) ∧ m < L := by
  have h0 : 0 ≤ max cut 0 := by omega
  rw [Int.tmod_eq_emod_of_nonneg h0]
  have h1 := Int.emod_nonneg (max cut 0) (show (L : Int) ≠ 0 by omega)
  have h2 := Int.emod_lt_of_pos (max cut 0) (show 0 < (L : Int) by omega)
  generalize max cut 0 % (L : Int) = q at *
  exact ⟨q.toNat, by omega, by omega⟩
theorem VB.grow {w0 w w' : World} {A : Option Addr} {N : Nat} {zs : List Int} {k n : Int} {s : ByteArray} (h : VB w0 A N zs k n s w) {row : Option Nat} (hg : w.grownBy w' row) (hr : ∀ k, row = some k → w0.heap.size + 1 ≤ k) : VB w0 A N zs k n s w' :=
  ⟨h.v.at_ (Below.grown (Below.refl _ _) hg h.v.size hr), h.bytes.below ((Below.grown (Below.refl _ _) hg h.v.size hr).mono (Nat.le_succ _))⟩

set_option maxRecDepth 100000 in
set_option maxHeartbeats 2000000 in
theorem back_walk (k n : Int) (s : ByteArray) (cut : Int) (A : Option Addr) (N c : Nat) (zs : List Int) (w : World) (hn : -9223372036854775808 ≤ n ∧ n ≤ 9223372036854775807) (hcut : -9223372036854775808 ≤ cut ∧ cut ≤ 9223372036854775807) (hb : By w w.heap.size A N zs) (hl : N ≤ c) (hA : A = none → c = 0) :
    Calls Try.prog 8 #[.agg #[.int .i64 k, .int .i64 n, .string s], .int .i64 cut, .slice A N c] w fun e w' => e = .returned (.bool true) ∧ Below w.heap.size w w' := by
  have V0 : VB w A N zs k n s (w.alloc (.cells #[.int .i64 k, .int .i64 n, .string s] 23)) := ⟨BV.box, hb.alloc (Nat.le_refl _) _⟩
  have HLZ := Lib.hid hb.1
  have HBZ := Lib.hid hb.2.1
  have HNN := Lib.hid hn
  have HCU := Lib.hid hcut
  clear hb hn hcut
  go_enter Try.func8, Try.ntmps8
  go_upto_region 1 with (fail)
  generalize w.alloc (.cells #[.int .i64 k, .int .i64 n, .string s] 23) = W0 at *
  go_wp2_with fail
  refine (wakes_any _).mono ?_
  rintro e w1 ⟨rfl, hb⟩
  have V1 := V0.on hb
  clear hb V0
  obtain ⟨c0, c1, c2⟩ := V1.v.cells
  go_wp2_with fail
  refine (long1_any w1.heap.size k n s _ (Blk.new _ _ _)).mono ?_
  rintro e w2 ⟨rfl, hb⟩
  have V2 := V1.on (((Below.refl _ w1).alloc (Nat.le_refl _) _).trans (hb.mono (by simp)))
  clear hb V1 c0 c1 c2
  obtain ⟨lg, hlg⟩ : ∃ lg, lgB s = lg := ⟨_, rfl⟩
  rw [hlg]
  cases lg with
  | true =>
    go_wp2
    go_ret
    exact ⟨rfl, V2.v.bel⟩
  | false =>
    by_cases hN : (1000 : Int) < (N : Int)
    · go_wp2
      go_ret
      exact ⟨rfl, V2.v.bel⟩
    · have HN : Hid (N ≤ 1000) := show N ≤ 1000 by omega
      have HA := Lib.hid hA
      have HL := Lib.hid hl
      clear hA hl
      obtain ⟨⟨K, M, S, p, er⟩, hD⟩ : ∃ D, decF zs = D := ⟨_, rfl⟩
      have HD := Lib.hid hD
      clear hD
      go_wp2_with fail
      refine (decode_any A N c zs w2 V2.up HL.out (by have := HN.out; omega)).mono ?_
      rw [HD.out]
      rintro e w3 ⟨rfl, hb⟩
      have V3 := V2.on hb
      clear hb V2
      go_upto_region 6 with (fail)
      have X4 : Hid (Blk (w3.alloc (.cells #[.int .i64 K, .int .i64 M, .string S] 23)) w3.heap.size 23 #[.int .i64 K, .int .i64 M, .string S]) := Blk.new _ _ _
      have V4 := V3.on ((Below.refl _ w3).alloc (Nat.le_refl _) (.cells #[.int .i64 K, .int .i64 M, .string S] 23))
      clear V3
      generalize w3.alloc (.cells #[.int .i64 K, .int .i64 M, .string S] 23) = w4 at *
      generalize w3.heap.size = g at *
      by_cases her : er = 0
      · subst her
        obtain ⟨hr, hM, q, rfl, hq, hz⟩ := enc_dec zs HBZ.out K M S p HD.out
        have EK := Lib.hid (fun w => encode_any K M S hr w)
        obtain ⟨Y, hY⟩ : ∃ Y, encF K M S = Y := ⟨_, rfl⟩
        rw [hY] at EK hz
        have HQ : Hid (q ≤ N) := show q ≤ N by rw [← HLZ.out]; exact hq
        have hq1 : ¬ (N : Int) < (q : Int) := by have := HQ.out; omega
        have hq2 : (q : Int) ≤ (c : Int) := by have := HQ.out; have := HL.out; omega
        have q0 : (0 : Int) ≤ (q : Int) := Int.natCast_nonneg q
        have HZ := Lib.hid hz
        have ey : (Y == Y) = true := by simp
        clear hr hM hq hz hY
        have x0 := X4.out.cell 0
        have x1 := X4.out.cell 1
        have x2 := X4.out.cell 2
        go_wp2_with fail
        refine (EK.out _).mono ?_
        rintro e w5 ⟨A5, c5, rfl, ho, hb⟩
        have V5 := V4.on hb
        have HO5 := Lib.hid ho
        clear hb V4 ho x0 x1 x2 X4
        have HE := Lib.hid (bequal_any A5 A Y.length c5 q c Y (zs.take q) w5 _ _ HO5.out.by (V5.bytes.first HQ.out HL.out))
        rw [HZ.out] at HE
        go_wp2_with fail
        refine HE.out.mono ?_
        rintro e w6 ⟨rfl, rfl⟩
        go_upto_region 10 with (fail)
        clear HE HZ HQ hq1 hq2 q0 ey HO5
        rcases Bool.eq_false_or_eq_true (Rt k n s) with hr | hr
        · have EN := Lib.hid (fun w => encode_any k n s hr w)
          have DE := Lib.hid (dec_enc k n s hr HNN.out zs)
          have DC := Lib.hid (fun m hm => dec_cut k n s hr m hm)
          have hpos := encF_pos' k n s
          have hlen := encF_len k n s hr
          obtain ⟨Z, hZ⟩ : ∃ Z, encF k n s = Z := ⟨_, rfl⟩
          rw [hZ] at EN DE DC hpos hlen
          have HP := Lib.hid hpos
          have HLE := Lib.hid hlen
          have evv := eqv_self k n s
          clear hr hZ hlen
          obtain ⟨m, hm1, hm2⟩ := max_rem cut Z.length hpos
          have HM2 := Lib.hid hm2
          have hp0 : ¬ Z.length = 0 := by omega
          clear hpos
          obtain ⟨c0, c1, c2⟩ := V5.v.cells
          go_wp2_with fail
          refine (EN.out _).mono ?_
          rintro e w9 ⟨A9, c9, rfl, ho9, hb⟩
          have V9 := V5.on hb
          have HO9 := Lib.hid ho9.by
          have CP9 := Lib.hid ho9.cap
          have HNI := Lib.hid (fun h => ho9.nil h)
          clear hb V5 c0 c1 c2 ho9
          have HO0 : Hid (Own (w9.alloc (.cells #[] 5)) w9.heap.size (some ⟨w9.heap.size, 0, none⟩) 0 0 []) := ⟨World.ownsRow_lit (size := 1) (e := 5) w9 #[] 0 (Nat.le_refl _) (by decide) rfl, fun j => by simp⟩
          have VA := V9.on ((Below.refl _ w9).alloc (Nat.le_refl _) (.cells #[] 5))
          have LA : Below w9.heap.size w9 (w9.alloc (.cells #[] 5)) := (Below.refl _ w9).alloc (Nat.le_refl _) (.cells #[] 5)
          have S9 : Hid (w.heap.size + 1 ≤ w9.heap.size) := V9.v.size
          clear V9
          go_upto_region 13 with (fail)
          go_wp2_with (first
            | (at_builtin; refine append_by rfl (.tmp 70) (.tmp 71) rfl w9.heap.size (some ⟨w9.heap.size, 0, none⟩) 0 0 [] rfl HO0.out w9.heap.size A9 Z.length c9 Z rfl (HO9.out.below LA) HNI.out (by have := HLE.out; omega) LA.size ?_; intro A10 c10 w10 ho10 hg10; rw [Nat.zero_add, List.nil_append] at ho10; have V10 := VA.grow hg10 (fun k hk => Nat.le_trans S9.out (HO0.out.1.lt k hk).1); have HO10 := Lib.hid ho10; have L10 : Below w9.heap.size w9 w10 := LA.grown hg10 LA.size (fun k hk => (HO0.out.1.lt k hk).1); clear hg10 ho10)
            | (at_builtin; refine append_by rfl (.tmp 72) (.tmp 73) rfl w9.heap.size A10 Z.length c10 Z rfl HO10.out w.heap.size A N c zs rfl V10.bytes HA.out (by have := HLE.out; have := HN.out; omega) L10.size ?_; intro A11 c11 w11 ho11 hg11; have V11 := V10.grow hg11 (fun k hk => Nat.le_trans S9.out (HO10.out.1.lt k hk).1); have HO11 := Lib.hid ho11; have L11 : Below w9.heap.size w9 w11 := L10.grown hg11 L10.size (fun k hk => (HO10.out.1.lt k hk).1); clear hg11 ho11))
          refine (decode_any A11 (Z.length + N) c11 (Z ++ zs) w11 HO11.out.by HO11.out.cap (by have := HLE.out; have := HN.out; omega)).mono ?_
          rw [DE.out]
          rintro e w12 ⟨rfl, hb⟩
          have V12 := V11.on hb
          have L12 := L11.trans (hb.mono L11.size)
          clear hb V11 L11 V10 L10 VA LA HO11 HO10 HO0
          go_upto_region 14 with (fail)
          have X13 : Hid (Blk (w12.alloc (.cells #[.int .i64 k, .int .i64 n, .string s] 23)) w12.heap.size 23 #[.int .i64 k, .int .i64 n, .string s]) := Blk.new _ _ _
          have V13 := V12.on ((Below.refl _ w12).alloc (Nat.le_refl _) (.cells #[.int .i64 k, .int .i64 n, .string s] 23))
          have L13 := L12.alloc L12.size (.cells #[.int .i64 k, .int .i64 n, .string s] 23)
          clear V12 L12
          generalize w12.alloc (.cells #[.int .i64 k, .int .i64 n, .string s] 23) = w13 at *
          generalize w12.heap.size = g13 at *
          have hmc : (m : Int) ≤ (c9 : Int) := by have := HM2.out; have := CP9.out; omega
          have hm0 : (0 : Int) ≤ (m : Int) := Int.natCast_nonneg m
          go_wp2_with fail
          refine (decode_any A9 m c9 (Z.take m) w13 (((HO9.out.below L13).first (Nat.le_of_lt HM2.out) CP9.out).more L13.size) (by omega) (by have := HLE.out; have := HM2.out; omega)).mono ?_
          rw [DC.out m HM2.out]
          rintro e w14 ⟨rfl, hb⟩
          have V14 := V13.on hb
          have X14 := Lib.hid (X13.out.below hb X13.out.lt)
          clear hb V13 X13 L13 hmc hm0 hm1
          go_upto_region 15 with (fail)
          have V15 := V14.on ((Below.refl _ w14).alloc (Nat.le_refl _) (.cells #[.int .i64 0, .int .i64 0, .string E0] 23))
          have X15 := Lib.hid (X14.out.alloc (.cells #[.int .i64 0, .int .i64 0, .string E0] 23))
          clear V14 X14
          generalize w14.alloc (.cells #[.int .i64 0, .int .i64 0, .string E0] 23) = w15 at *
          have x0 := X15.out.cell 0
          have x1 := X15.out.cell 1
          have x2 := X15.out.cell 2
          obtain ⟨c0, c1, c2⟩ := V15.v.cells
          go_wp2
          go_ret
          exact ⟨rfl, V15.v.bel⟩
        · have EN := Lib.hid (fun w => enc_wrong k n s w hr)
          clear hr
          obtain ⟨c0, c1, c2⟩ := V5.v.cells
          go_wp2_with fail
          refine (EN.out _).mono ?_
          rintro e w9 ⟨rfl, hb⟩
          have V9 := V5.on hb
          clear hb V5 c0 c1 c2
          go_wp2
          go_ret
          exact ⟨rfl, V9.v.bel⟩
      · have her' : (er == 0) = false := by simp [her]
        clear her X4
        go_upto_region 10 with (fail)
        clear her'
        rcases Bool.eq_false_or_eq_true (Rt k n s) with hr | hr
        · have EN := Lib.hid (fun w => encode_any k n s hr w)
          have DE := Lib.hid (dec_enc k n s hr HNN.out zs)
          have DC := Lib.hid (fun m hm => dec_cut k n s hr m hm)
          have hpos := encF_pos' k n s
          have hlen := encF_len k n s hr
          obtain ⟨Z, hZ⟩ : ∃ Z, encF k n s = Z := ⟨_, rfl⟩
          rw [hZ] at EN DE DC hpos hlen
          have HP := Lib.hid hpos
          have HLE := Lib.hid hlen
          have evv := eqv_self k n s
          clear hr hZ hlen
          obtain ⟨m, hm1, hm2⟩ := max_rem cut Z.length hpos
          have HM2 := Lib.hid hm2
          have hp0 : ¬ Z.length = 0 := by omega
          clear hpos
          obtain ⟨c0, c1, c2⟩ := V4.v.cells
          go_wp2_with fail
          refine (EN.out _).mono ?_
          rintro e w9 ⟨A9, c9, rfl, ho9, hb⟩
          have V9 := V4.on hb
          have HO9 := Lib.hid ho9.by
          have CP9 := Lib.hid ho9.cap
          have HNI := Lib.hid (fun h => ho9.nil h)
          clear hb V4 c0 c1 c2 ho9
          have HO0 : Hid (Own (w9.alloc (.cells #[] 5)) w9.heap.size (some ⟨w9.heap.size, 0, none⟩) 0 0 []) := ⟨World.ownsRow_lit (size := 1) (e := 5) w9 #[] 0 (Nat.le_refl _) (by decide) rfl, fun j => by simp⟩
          have VA := V9.on ((Below.refl _ w9).alloc (Nat.le_refl _) (.cells #[] 5))
          have LA : Below w9.heap.size w9 (w9.alloc (.cells #[] 5)) := (Below.refl _ w9).alloc (Nat.le_refl _) (.cells #[] 5)
          have S9 : Hid (w.heap.size + 1 ≤ w9.heap.size) := V9.v.size
          clear V9
          go_upto_region 13 with (fail)
          go_wp2_with (first
            | (at_builtin; refine append_by rfl (.tmp 70) (.tmp 71) rfl w9.heap.size (some ⟨w9.heap.size, 0, none⟩) 0 0 [] rfl HO0.out w9.heap.size A9 Z.length c9 Z rfl (HO9.out.below LA) HNI.out (by have := HLE.out; omega) LA.size ?_; intro A10 c10 w10 ho10 hg10; rw [Nat.zero_add, List.nil_append] at ho10; have V10 := VA.grow hg10 (fun k hk => Nat.le_trans S9.out (HO0.out.1.lt k hk).1); have HO10 := Lib.hid ho10; have L10 : Below w9.heap.size w9 w10 := LA.grown hg10 LA.size (fun k hk => (HO0.out.1.lt k hk).1); clear hg10 ho10)
            | (at_builtin; refine append_by rfl (.tmp 72) (.tmp 73) rfl w9.heap.size A10 Z.length c10 Z rfl HO10.out w.heap.size A N c zs rfl V10.bytes HA.out (by have := HLE.out; have := HN.out; omega) L10.size ?_; intro A11 c11 w11 ho11 hg11; have V11 := V10.grow hg11 (fun k hk => Nat.le_trans S9.out (HO10.out.1.lt k hk).1); have HO11 := Lib.hid ho11; have L11 : Below w9.heap.size w9 w11 := L10.grown hg11 L10.size (fun k hk => (HO10.out.1.lt k hk).1); clear hg11 ho11))
          refine (decode_any A11 (Z.length + N) c11 (Z ++ zs) w11 HO11.out.by HO11.out.cap (by have := HLE.out; have := HN.out; omega)).mono ?_
          rw [DE.out]
          rintro e w12 ⟨rfl, hb⟩
          have V12 := V11.on hb
          have L12 := L11.trans (hb.mono L11.size)
          clear hb V11 L11 V10 L10 VA LA HO11 HO10 HO0
          go_upto_region 14 with (fail)
          have X13 : Hid (Blk (w12.alloc (.cells #[.int .i64 k, .int .i64 n, .string s] 23)) w12.heap.size 23 #[.int .i64 k, .int .i64 n, .string s]) := Blk.new _ _ _
          have V13 := V12.on ((Below.refl _ w12).alloc (Nat.le_refl _) (.cells #[.int .i64 k, .int .i64 n, .string s] 23))
          have L13 := L12.alloc L12.size (.cells #[.int .i64 k, .int .i64 n, .string s] 23)
          clear V12 L12
          generalize w12.alloc (.cells #[.int .i64 k, .int .i64 n, .string s] 23) = w13 at *
          generalize w12.heap.size = g13 at *
          have hmc : (m : Int) ≤ (c9 : Int) := by have := HM2.out; have := CP9.out; omega
          have hm0 : (0 : Int) ≤ (m : Int) := Int.natCast_nonneg m
          go_wp2_with fail
          refine (decode_any A9 m c9 (Z.take m) w13 (((HO9.out.below L13).first (Nat.le_of_lt HM2.out) CP9.out).more L13.size) (by omega) (by have := HLE.out; have := HM2.out; omega)).mono ?_
          rw [DC.out m HM2.out]
          rintro e w14 ⟨rfl, hb⟩
          have V14 := V13.on hb
          have X14 := Lib.hid (X13.out.below hb X13.out.lt)
          clear hb V13 X13 L13 hmc hm0 hm1
          go_upto_region 15 with (fail)
          have V15 := V14.on ((Below.refl _ w14).alloc (Nat.le_refl _) (.cells #[.int .i64 0, .int .i64 0, .string E0] 23))
          have X15 := Lib.hid (X14.out.alloc (.cells #[.int .i64 0, .int .i64 0, .string E0] 23))
          clear V14 X14
          generalize w14.alloc (.cells #[.int .i64 0, .int .i64 0, .string E0] 23) = w15 at *
          have x0 := X15.out.cell 0
          have x1 := X15.out.cell 1
          have x2 := X15.out.cell 2
          obtain ⟨c0, c1, c2⟩ := V15.v.cells
          go_wp2
          go_ret
          exact ⟨rfl, V15.v.bel⟩
        · have EN := Lib.hid (fun w => enc_wrong k n s w hr)
          clear hr
          obtain ⟨c0, c1, c2⟩ := V4.v.cells
          go_wp2_with fail
          refine (EN.out _).mono ?_
          rintro e w9 ⟨rfl, hb⟩
          have V9 := V4.on hb
          clear hb V4 c0 c1 c2
          go_wp2
          go_ret
          exact ⟨rfl, V9.v.bel⟩

end Go.Proofs.Ytndkoefchlclkaa
