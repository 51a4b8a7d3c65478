/-
  The law ValueBytes, walked.
-/
import Derived.Test.YtndkoefchlclkaaZ2
import Derived.Test.YtndkoefchlclkaaZ0
import Derived.Test.YtndkoefchlclkaaX0
import Derived.Test.YtndkoefchlclkaaW7
import Derived.Test.YtndkoefchlclkaaLC
namespace Go.Proofs.Ytndkoefchlclkaa
open Go.RowKit
attribute [local go_sem ↓] eqV neV eqG

/-- Values of one's own, and bytes that were there. -/
structure VB (w0 : World) (A : Option Addr) (N : Nat) (zs : List Int) (k n : Int) (s : ByteArray) (w : World) : Prop where
  v : BV w0 k n s w
  bytes : By w w0.heap.size A N zs
theorem VB.on {w0 w w' : World} {A : Option Addr} {N : Nat} {zs : List Int} {k n : Int} {s : ByteArray} (h : VB w0 A N zs k n s w) (hb : Below w.heap.size w w') : VB w0 A N zs k n s w' := ⟨h.v.on hb, h.bytes.below (hb.mono (Nat.le_trans (Nat.le_succ _) h.v.size))⟩
theorem VB.up {w0 w : World} {A : Option Addr} {N : Nat} {zs : List Int} {k n : Int} {s : ByteArray} (h : VB w0 A N zs k n s w) : By w w.heap.size A N zs := h.bytes.more (Nat.le_trans (Nat.le_succ _) h.v.size)

theorem encF_len (k n : Int) (s : ByteArray) (h : Rt k n s = true) : (encF k n s).length ≤ 1000 := by
  have h' := of_decide_eq_true h
  rcases h' with ⟨rfl, rfl, rfl⟩ | ⟨rfl, _, rfl⟩ | ⟨rfl, rfl⟩ | ⟨rfl, rfl, hs⟩
  · show ([1] : List Int).length ≤ 1000; decide
  · show ([2, n] : List Int).length ≤ 1000; simp
  · show ([3] ++ be 8 (top64 n)).length ≤ 1000; rw [List.length_append, be_len]; decide
  · show ([4] ++ txt (sb s) ++ [0, 0]).length ≤ 1000
    have := txt_len (sb s)
    rw [sb_len] at this
    simp only [List.length_append, List.length_cons, List.length_nil]
    omega

set_option maxRecDepth 100000 in
set_option maxHeartbeats 1000000 in
theorem bytes_walk (k n : Int) (s : ByteArray) (A : Option Addr) (N c : Nat) (zs : List Int) (w : World) (_hn : -9223372036854775808 ≤ n ∧ n ≤ 9223372036854775807) (hb : By w w.heap.size A N zs) (hl : N ≤ c) (hA : A = none → c = 0) :
    Calls Try.prog 7 #[.agg #[.int .i64 k, .int .i64 n, .string s], .slice A N c] w fun e w' => e = .returned (.bool true) ∧ Below w.heap.size w w' := by
  have V0 : VB w A N zs k n s (w.alloc (.cells #[.int .i64 k, .int .i64 n, .string s] 23)) := ⟨BV.box, hb.alloc (Nat.le_refl _) _⟩
  clear hb
  go_enter Try.func7, Try.ntmps7
  go_upto_region 1 with (fail)
  generalize w.alloc (.cells #[.int .i64 k, .int .i64 n, .string s] 23) = W0 at *
  go_wp2_with fail
  refine (wakes_any _).mono ?_
  rintro e w1 ⟨rfl, hb⟩
  have V1 := V0.on hb
  clear hb V0
  obtain ⟨c0, c1, c2⟩ := V1.v.cells
  go_wp2_with fail
  refine (long1_any w1.heap.size k n s _ (Blk.new _ _ _)).mono ?_
  rintro e w2 ⟨rfl, hb⟩
  have V2 := V1.on (((Below.refl _ w1).alloc (Nat.le_refl _) _).trans (hb.mono (by simp)))
  clear hb V1 c0 c1 c2
  obtain ⟨lg, hlg⟩ : ∃ lg, lgB s = lg := ⟨_, rfl⟩
  rw [hlg]
  cases lg with
  | true =>
    go_wp2
    go_ret
    exact ⟨rfl, V2.v.bel⟩
  | false =>
    by_cases hN : (1000 : Int) < (N : Int)
    · go_wp2
      go_ret
      exact ⟨rfl, V2.v.bel⟩
    · have HN : Hid (N ≤ 1000) := show N ≤ 1000 by omega
      have HA := Lib.hid hA
      have HL := Lib.hid hl
      have HO0 : Hid (Own (w2.alloc (.cells #[] 5)) (w.heap.size + 1) (some ⟨w2.heap.size, 0, none⟩) 0 0 []) := ⟨World.ownsRow_lit (size := 1) (e := 5) w2 #[] 0 V2.v.size (by decide) rfl, fun j => by simp⟩
      have V3 := V2.on ((Below.refl _ w2).alloc (Nat.le_refl _) (.cells #[] 5))
      clear hA hl V2
      go_upto_region 5 with (fail)
      go_wp2_with (at_builtin; refine append_by rfl (.tmp 24) (.tmp 25) rfl (w.heap.size + 1) (some ⟨w2.heap.size, 0, none⟩) 0 0 [] rfl HO0.out w.heap.size A N c zs rfl V3.bytes HA.out (by have := HN.out; omega) (by have := V3.v.size; simp at this ⊢; omega) ?_; intro A4 c4 w4 ho4 hg4; rw [Nat.zero_add, List.nil_append] at ho4; have V4 : VB w A N zs k n s w4 := ⟨V3.v.at_ (Below.grown (Below.refl _ _) hg4 V3.v.size (fun k hk => (HO0.out.1.lt k hk).1)), V3.bytes.below (Below.grown (Below.refl _ _) hg4 (Nat.le_trans (Nat.le_succ _) V3.v.size) (fun k hk => Nat.le_trans (Nat.le_succ _) (HO0.out.1.lt k hk).1))⟩; have HO4 := Lib.hid ho4; clear hg4 ho4)
      have RA := Lib.hid (fun w => right_any k n s w)
      obtain ⟨⟨K, M, S, p, er⟩, hD⟩ : ∃ D, decF zs = D := ⟨_, rfl⟩
      have e1 : Eqv K M S K M S = true := eqv_self K M S
      have e2 : (p != p) = false := by simp
      have e3 : (er != er) = false := by simp
      have HD := Lib.hid hD
      clear hD HO0 V3
      go_wp2_with fail
      refine (decode_any A4 N c4 zs w4 HO4.out.by HO4.out.cap (by have := HN.out; omega)).mono ?_
      rw [HD.out]
      rintro e w5 ⟨rfl, hb⟩
      have V5 := V4.on hb
      clear hb V4 HO4
      go_upto_region 6 with (fail)
      have X6 : Hid (Blk (w5.alloc (.cells #[.int .i64 K, .int .i64 M, .string S] 23)) w5.heap.size 23 #[.int .i64 K, .int .i64 M, .string S]) := Blk.new _ _ _
      have V6 := V5.on ((Below.refl _ w5).alloc (Nat.le_refl _) (.cells #[.int .i64 K, .int .i64 M, .string S] 23))
      clear V5
      generalize w5.alloc (.cells #[.int .i64 K, .int .i64 M, .string S] 23) = w6 at *
      generalize w5.heap.size = g at *
      go_wp2_with fail
      refine (refdecode_any A N c zs w6 V6.up HL.out (by have := HN.out; omega)).mono ?_
      rw [HD.out]
      rintro e w7 ⟨rfl, hb⟩
      have V7 := V6.on hb
      have X7 := Lib.hid (X6.out.below hb X6.out.lt)
      clear hb V6 X6
      go_upto_region 7 with (fail)
      have Y8 : Hid (Blk (w7.alloc (.cells #[.int .i64 K, .int .i64 M, .string S] 23)) w7.heap.size 23 #[.int .i64 K, .int .i64 M, .string S]) := Blk.new _ _ _
      have X8 := Lib.hid (X7.out.alloc (.cells #[.int .i64 K, .int .i64 M, .string S] 23))
      have V8 := V7.on ((Below.refl _ w7).alloc (Nat.le_refl _) (.cells #[.int .i64 K, .int .i64 M, .string S] 23))
      clear V7 X7
      generalize w7.alloc (.cells #[.int .i64 K, .int .i64 M, .string S] 23) = w8 at *
      generalize w7.heap.size = g' at *
      have x0 := X8.out.cell 0
      have x1 := X8.out.cell 1
      have x2 := X8.out.cell 2
      have y0 := Y8.out.cell 0
      have y1 := Y8.out.cell 1
      have y2 := Y8.out.cell 2
      obtain ⟨c0, c1, c2⟩ := V8.v.cells
      go_upto_region 9 with (fail)
      clear x0 x1 x2 y0 y1 y2 X8 Y8
      rcases Bool.eq_false_or_eq_true (Rt k n s) with hr | hr
      · have EN := Lib.hid (fun w => encode_any k n s hr w)
        have RB := Lib.hid (fun w => refbytes_any k n s hr w)
        rw [hr] at RA
        have hlen : (encF k n s).length ≤ 1000 := encF_len k n s hr
        clear hr
        obtain ⟨Z, hZ⟩ : ∃ Z, encF k n s = Z := ⟨_, rfl⟩
        rw [hZ] at EN RB hlen
        have HLZ := Lib.hid hlen
        have ez : (Z == Z) = true := by simp
        clear hlen hZ
        go_wp2_with fail
        refine (EN.out _).mono ?_
        rintro e w9 ⟨A9, c9, rfl, ho9, hb⟩
        have V9 := V8.on hb
        have HO9 := Lib.hid ho9
        clear hb V8 c0 c1 c2 ho9
        obtain ⟨c0, c1, c2⟩ := V9.v.cells
        go_wp2_with fail
        refine (RA.out _).mono ?_
        rintro e wa ⟨rfl, hb⟩
        have VA := V9.on hb
        have HOA := Lib.hid (HO9.out.below hb)
        clear hb V9 c0 c1 c2 HO9
        obtain ⟨c0, c1, c2⟩ := VA.v.cells
        go_wp2_with fail
        refine (RB.out _).mono ?_
        rintro e wb ⟨Ab, cb, rfl, hob, hb⟩
        have VB := VA.on hb
        have HOB := Lib.hid (HOA.out.below hb)
        have HOC := Lib.hid hob
        clear hb VA c0 c1 c2 HOA hob
        go_wp2_with fail
        refine (same_any A9 Ab _ _ _ _ Z Z wb _ _ HOB.out.by HOC.out.by (by have := HLZ.out; omega) (by have := HLZ.out; omega)).mono ?_
        rintro e wc ⟨rfl, q, rfl⟩
        go_wp2
        go_ret
        exact ⟨rfl, VB.v.bel.trans ⟨rfl, rfl, rfl, Nat.le_refl _, fun _ _ => rfl⟩⟩
      · have EN := Lib.hid (fun w => enc_wrong k n s w hr)
        rw [hr] at RA
        clear hr
        go_wp2_with fail
        refine (EN.out _).mono ?_
        rintro e w9 ⟨rfl, hb⟩
        have V9 := V8.on hb
        clear hb V8 c0 c1 c2
        obtain ⟨c0, c1, c2⟩ := V9.v.cells
        go_wp2_with fail
        refine (RA.out _).mono ?_
        rintro e wa ⟨rfl, hb⟩
        have VA := V9.on hb
        clear hb V9 c0 c1 c2
        go_wp2
        go_ret
        exact ⟨rfl, VA.v.bel⟩

end Go.Proofs.Ytndkoefchlclkaa
