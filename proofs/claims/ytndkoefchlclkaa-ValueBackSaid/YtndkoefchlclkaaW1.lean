/-
  The bytes of a value: the program's Encode.
-/
import Derived.Test.YtndkoefchlclkaaW0
namespace Go.Proofs.Ytndkoefchlclkaa
open Go.RowKit
attribute [local go_sem ↓] eqV neV eqG

theorem xor_top (A : Nat) (h : A < 18446744073709551616) : A ^^^ 9223372036854775808 = (A + 9223372036854775808) % 18446744073709551616 := by
  have h1 := Nat.xor_mod_two_pow (a := A) (b := 9223372036854775808) (n := 63)
  have h2 := Nat.xor_div_two_pow (a := A) (b := 9223372036854775808) (n := 63)
  rw [show (9223372036854775808 : Nat) % 2 ^ 63 = 0 by decide, Nat.xor_zero] at h1
  rw [show (9223372036854775808 : Nat) / 2 ^ 63 = 1 by decide] at h2
  rw [show (2 : Nat) ^ 63 = 9223372036854775808 by decide] at h1 h2
  generalize A ^^^ 9223372036854775808 = X at *
  rcases (show A / 9223372036854775808 = 0 ∨ A / 9223372036854775808 = 1 by omega) with e | e
  · rw [e, show (0 : Nat) ^^^ 1 = 1 by decide] at h2
    omega
  · rw [e, show (1 : Nat) ^^^ 1 = 0 by decide] at h2
    omega
/-- A number's bytes, its sign turned. -/
def top64 (n : Int) : Int := (n + 9223372036854775808) % 18446744073709551616
theorem top_xor (n : Int) : bits .xor .u64 (IntKind.u64.wrap n) 9223372036854775808 = top64 n := by
  obtain ⟨A, hA⟩ := Int.eq_ofNat_of_zero_le (show 0 ≤ n % 18446744073709551616 by omega)
  have e : IntKind.u64.wrap n = (A : Int) := by rw [IntKind.wrap_u64, hA]
  have hx := bits_xor_u64_nat A 9223372036854775808 (by omega) (by omega)
  rw [e, show (9223372036854775808 : Int) = ((9223372036854775808 : Nat) : Int) from rfl, hx, xor_top A (by omega)]
  unfold top64
  omega

/-- A value's bytes. -/
def encF (k n : Int) (s : ByteArray) : List Int := if k = 2 then [2, n] else if k = 3 then [3] ++ be 8 (top64 n) else if k = 4 then [4] ++ txt (sb s) ++ [0, 0] else [k]
/-- What Encode answers of a value that may be. -/
def Enc (w0 : World) (zs : List Int) (e : Ending) (w : World) : Prop := ∃ A c, e = .returned (.tuple #[.slice A zs.length c, .int .i64 0]) ∧ Own w w0.heap.size A zs.length c zs ∧ Below w0.heap.size w0 w

theorem Own.one (w : World) {base : Nat} (hb : base ≤ w.heap.size) (z : Int) (hz : 0 ≤ z ∧ z ≤ 255) : Own (w.alloc (.cells #[.int .u8 z] 5)) base (some ⟨w.heap.size, 0, none⟩) 1 1 [z] :=
  ⟨World.ownsRow_lit (size := 1) (e := 5) w #[.int .u8 z] 1 hb (by decide) rfl, fun j => match j with
    | 0 => hz
    | j + 1 => by simp⟩
theorem Own.of_blk {w : World} {base g L : Nat} {zs : List Int} (hg : base ≤ g) (h : Blk w g 5 (zs.map (Value.int .u8)).toArray) (hb : Bs zs) (hl : zs.length = L) (hm : L ≤ 100000) : Own w base (some ⟨g, 0, none⟩) L L zs :=
  ⟨⟨by simp [hl], .inr ⟨g, L, _, rfl, hg, h, Nat.le_refl _, by unfold maxLen; omega, by simp [hl], by rw [Nat.mul_one]; exact List.take_of_length_le (by rw [List.length_map, hl]; exact Nat.le_refl _)⟩⟩, hb⟩

set_option maxRecDepth 100000 in
set_option maxHeartbeats 1000000 in
theorem enc_wrong (k n : Int) (s : ByteArray) (w : World) (h : Rt k n s = false) : Calls Try.prog 33 #[.agg #[.int .i64 k, .int .i64 n, .string s]] w fun e w' => e = .returned (.tuple #[.slice none 0 0, .int .i64 150]) ∧ Below w.heap.size w w' := by
  have HC := Lib.hid (fun w => check_any k n s w)
  rw [show chk k n s = 150 from if_neg (by rw [h]; decide)] at HC
  have A0 := Lib.hid (V3.box (w := w) (k := k) (n := n) (s := s) rfl)
  have B0 : Hid (Below w.heap.size w (w.alloc (.cells #[.int .i64 k, .int .i64 n, .string s] 23))) := (Below.refl _ w).alloc (Nat.le_refl _) _
  clear h
  go_enter Try.func33, Try.ntmps33
  go_upto_region 1 with (fail)
  generalize w.alloc (.cells #[.int .i64 k, .int .i64 n, .string s] 23) = W0 at *
  have c0 := A0.out.1
  have c1 := A0.out.2.1
  have c2 := A0.out.2.2
  go_wp2_with fail
  refine (HC.out _).mono ?_
  rintro e w1 ⟨rfl, hb⟩
  have B1 := Lib.hid (B0.out.trans (hb.mono B0.out.size))
  clear hb c0 c1 c2
  go_wp2
  go_ret2
  exact ⟨rfl, B1.out⟩

theorem enc_head (k n : Int) (s : ByteArray) (h : Rt k n s = true) (w : World) : Calls Try.prog 14 #[.agg #[.int .i64 k, .int .i64 n, .string s]] w fun e w' => e = .returned (.int .i64 0) ∧ Below w.heap.size w w' := by
  have HC := check_any k n s w
  rwa [show chk k n s = 0 from if_pos h] at HC

/-- A value in a block, and what lies below it. -/
theorem V3.on1 {w0 w w' : World} {g : Nat} {k n : Int} {s : ByteArray} (h1 : Hid (V3 w g k n s)) (z1 : Hid (g < w.heap.size)) (hB : Hid (Below w0.heap.size w0 w)) (hb : Below w.heap.size w w') :
    Hid (V3 w' g k n s) ∧ Hid (g < w'.heap.size) ∧ Hid (Below w0.heap.size w0 w') :=
  ⟨h1.out.below hb z1.out, Nat.lt_of_lt_of_le z1.out hb.size, hB.out.trans (hb.mono hB.out.size)⟩

set_option maxRecDepth 100000 in
set_option maxHeartbeats 1000000 in
theorem enc_null (w : World) : Calls Try.prog 33 #[.agg #[.int .i64 1, .int .i64 0, .string E0]] w (Enc w ([1])) := by
  have HC := Lib.hid (fun w => enc_head 1 0 E0 (by decide) w)
  have A0 := Lib.hid (V3.box (w := w) (k := 1) (n := 0) (s := E0) rfl)
  have Z0 : Hid (w.heap.size < (w.alloc (.cells #[.int .i64 1, .int .i64 0, .string E0] 23)).heap.size) := show _ < _ by simp
  have B0 : Hid (Below w.heap.size w (w.alloc (.cells #[.int .i64 1, .int .i64 0, .string E0] 23))) := (Below.refl _ w).alloc (Nat.le_refl _) _
  unfold Enc
  go_enter Try.func33, Try.ntmps33
  go_upto_region 1 with (fail)
  generalize w.alloc (.cells #[.int .i64 1, .int .i64 0, .string E0] 23) = W0 at *
  have c0 := A0.out.1
  have c1 := A0.out.2.1
  have c2 := A0.out.2.2
  go_wp2_with fail
  refine (HC.out _).mono ?_
  rintro e w1 ⟨rfl, hb⟩
  obtain ⟨A0, Z0, B0⟩ := V3.on1 A0 Z0 B0 hb
  have c0 := A0.out.1
  have c1 := A0.out.2.1
  have c2 := A0.out.2.2
  clear hb
  go_upto_region 5 with (fail)
  have HO := Lib.hid (Own.one w1 B0.out.size 1 (by omega))
  obtain ⟨A0, Z0, B0⟩ := V3.on1 A0 Z0 B0 ((Below.refl _ w1).alloc (Nat.le_refl _) (.cells #[.int .u8 1] 5))
  generalize w1.alloc (.cells #[.int .u8 1] 5) = W2 at *
  generalize w1.heap.size = g at *
  have c0 := A0.out.1
  have c1 := A0.out.2.1
  have c2 := A0.out.2.2
  go_wp2
  go_ret2
  exact ⟨_, _, rfl, HO.out, B0.out⟩

set_option maxRecDepth 100000 in
set_option maxHeartbeats 1000000 in
theorem enc_bool (n : Int) (w : World) (hn : n = 0 ∨ n = 1) : Calls Try.prog 33 #[.agg #[.int .i64 2, .int .i64 n, .string E0]] w (Enc w ([2, n])) := by
  have HC := Lib.hid (fun w => enc_head 2 n E0 (by rcases hn with rfl | rfl <;> decide) w)
  have A0 := Lib.hid (V3.box (w := w) (k := 2) (n := n) (s := E0) rfl)
  have Z0 : Hid (w.heap.size < (w.alloc (.cells #[.int .i64 2, .int .i64 n, .string E0] 23)).heap.size) := show _ < _ by simp
  have B0 : Hid (Below w.heap.size w (w.alloc (.cells #[.int .i64 2, .int .i64 n, .string E0] 23))) := (Below.refl _ w).alloc (Nat.le_refl _) _
  have hw : IntKind.u8.wrap n = n := by rw [IntKind.wrap_u8]; omega
  unfold Enc
  go_enter Try.func33, Try.ntmps33
  go_upto_region 1 with (fail)
  generalize w.alloc (.cells #[.int .i64 2, .int .i64 n, .string E0] 23) = W0 at *
  have c0 := A0.out.1
  have c1 := A0.out.2.1
  have c2 := A0.out.2.2
  go_wp2_with fail
  refine (HC.out _).mono ?_
  rintro e w1 ⟨rfl, hb⟩
  obtain ⟨A0, Z0, B0⟩ := V3.on1 A0 Z0 B0 hb
  have c0 := A0.out.1
  have c1 := A0.out.2.1
  have c2 := A0.out.2.2
  clear hb
  go_upto_region 5 with (fail)
  have HO := Lib.hid (Own.one w1 B0.out.size 2 (by omega))
  obtain ⟨A0, Z0, B0⟩ := V3.on1 A0 Z0 B0 ((Below.refl _ w1).alloc (Nat.le_refl _) (.cells #[.int .u8 2] 5))
  generalize w1.alloc (.cells #[.int .u8 2] 5) = W2 at *
  generalize w1.heap.size = g at *
  have c0 := A0.out.1
  have c1 := A0.out.2.1
  have c2 := A0.out.2.2
  go_wp2_with (at_builtin; refine append_by rfl (.tmp 19) (.tmp 23) rfl w.heap.size (some ⟨g, 0, none⟩) 1 1 [2] rfl (HO.out.new1 _) (W2.heap.size + 1) (some ⟨W2.heap.size, 0, none⟩) 1 1 [n] rfl (By.one (by omega)) (fun h => by cases h) (by omega) (by have := B0.out.size; simp; omega) ?_; intro A1 c1 w3 ho1 hg1; have hB1 : Below w.heap.size w w3 := (B0.out.alloc B0.out.size _).grown hg1 (by have := B0.out.size; simp; omega) (fun k hk => (HO.out.1.lt k hk).1); have HB1 := Lib.hid hB1; have HO1 := Lib.hid ho1; clear hg1 hB1 ho1)
  go_ret2
  exact ⟨_, _, rfl, HO1.out, HB1.out⟩

set_option maxRecDepth 100000 in
set_option maxHeartbeats 1000000 in
theorem enc_int (n : Int) (w : World) : Calls Try.prog 33 #[.agg #[.int .i64 3, .int .i64 n, .string E0]] w (Enc w ([3] ++ be 8 (top64 n))) := by
  have HC := Lib.hid (fun w => enc_head 3 n E0 (by simp [Rt]) w)
  have A0 := Lib.hid (V3.box (w := w) (k := 3) (n := n) (s := E0) rfl)
  have Z0 : Hid (w.heap.size < (w.alloc (.cells #[.int .i64 3, .int .i64 n, .string E0] 23)).heap.size) := show _ < _ by simp
  have B0 : Hid (Below w.heap.size w (w.alloc (.cells #[.int .i64 3, .int .i64 n, .string E0] 23))) := (Below.refl _ w).alloc (Nat.le_refl _) _
  have hx := top_xor n
  have ht : 0 ≤ top64 n ∧ top64 n < 18446744073709551616 := by unfold top64; omega
  have HT := Lib.hid ht
  have HX := Lib.hid hx
  clear hx ht
  unfold Enc
  go_enter Try.func33, Try.ntmps33
  go_upto_region 1 with (fail)
  generalize w.alloc (.cells #[.int .i64 3, .int .i64 n, .string E0] 23) = W0 at *
  have c0 := A0.out.1
  have c1 := A0.out.2.1
  have c2 := A0.out.2.2
  go_wp2_with fail
  refine (HC.out _).mono ?_
  rintro e w1 ⟨rfl, hb⟩
  obtain ⟨A0, Z0, B0⟩ := V3.on1 A0 Z0 B0 hb
  have c0 := A0.out.1
  have c1 := A0.out.2.1
  have c2 := A0.out.2.2
  clear hb
  go_upto_region 5 with (fail)
  have HO := Lib.hid (Own.one w1 B0.out.size 3 (by omega))
  obtain ⟨A0, Z0, B0⟩ := V3.on1 A0 Z0 B0 ((Below.refl _ w1).alloc (Nat.le_refl _) (.cells #[.int .u8 3] 5))
  generalize w1.alloc (.cells #[.int .u8 3] 5) = W2 at *
  generalize w1.heap.size = g at *
  have c0 := A0.out.1
  have c1 := A0.out.2.1
  have c2 := A0.out.2.2
  have hx := HX.out
  go_wp2_with fail
  refine (Put64_any (some ⟨g, 0, none⟩) 1 1 [3] (top64 n) _ W2.heap.size HO.out.by (by omega) HT.out).mono ?_
  rintro e w3 ⟨rfl, hb3, hbel⟩
  have HB1 := Lib.hid (B0.out.trans (hbel.mono B0.out.size))
  have HO1 := Lib.hid (Own.of_blk (base := w.heap.size) (L := 9) B0.out.size hb3 (Bs.append HO.out.2 (be_bs _ _)) (by rw [List.length_append, be_len]; rfl) (by omega))
  clear hb3 hbel hx
  go_wp2
  go_ret2
  exact ⟨_, _, rfl, HO1.out, HB1.out⟩

set_option maxRecDepth 100000 in
set_option maxHeartbeats 1000000 in
theorem enc_text (s : ByteArray) (w : World) (hs : s.size ≤ 64) : Calls Try.prog 33 #[.agg #[.int .i64 4, .int .i64 0, .string s]] w (Enc w ([4] ++ txt (sb s) ++ [0, 0])) := by
  have HC := Lib.hid (fun w => enc_head 4 0 s (by simp [Rt, hs]) w)
  have A0 := Lib.hid (V3.box (w := w) (k := 4) (n := 0) (s := s) rfl)
  have Z0 : Hid (w.heap.size < (w.alloc (.cells #[.int .i64 4, .int .i64 0, .string s] 23)).heap.size) := show _ < _ by simp
  have B0 : Hid (Below w.heap.size w (w.alloc (.cells #[.int .i64 4, .int .i64 0, .string s] 23))) := (Below.refl _ w).alloc (Nat.le_refl _) _
  have hp : ∀ (A : Option Addr) (c : Nat) (w' : World) (base : Nat), Own w' base A 1 c [4] → base ≤ w'.heap.size → Calls Try.prog 61 #[.slice A 1 c, .string s] w' (Grown w' base ([4] ++ txt (sb s) ++ [0, 0])) := fun A c w' base h hb => putText_any A 1 c [4] s w' base h hb (by omega) (by omega)
  generalize [4] ++ txt (sb s) ++ [0, 0] = ZS at *
  have HP := Lib.hid hp
  clear hp
  unfold Enc
  go_enter Try.func33, Try.ntmps33
  go_upto_region 1 with (fail)
  generalize w.alloc (.cells #[.int .i64 4, .int .i64 0, .string s] 23) = W0 at *
  have c0 := A0.out.1
  have c1 := A0.out.2.1
  have c2 := A0.out.2.2
  go_wp2_with fail
  refine (HC.out _).mono ?_
  rintro e w1 ⟨rfl, hb⟩
  obtain ⟨A0, Z0, B0⟩ := V3.on1 A0 Z0 B0 hb
  have c0 := A0.out.1
  have c1 := A0.out.2.1
  have c2 := A0.out.2.2
  clear hb
  go_upto_region 5 with (fail)
  have HO := Lib.hid (Own.one w1 B0.out.size 4 (by omega))
  obtain ⟨A0, Z0, B0⟩ := V3.on1 A0 Z0 B0 ((Below.refl _ w1).alloc (Nat.le_refl _) (.cells #[.int .u8 4] 5))
  generalize w1.alloc (.cells #[.int .u8 4] 5) = W2 at *
  generalize w1.heap.size = g at *
  have c0 := A0.out.1
  have c1 := A0.out.2.1
  have c2 := A0.out.2.2
  go_wp2_with fail
  refine (HP.out _ _ _ w.heap.size HO.out B0.out.size).mono ?_
  rintro e w3 ⟨A1, c1, rfl, ho1, hbel⟩
  have HB1 := Lib.hid (B0.out.trans hbel)
  have HO1 := Lib.hid ho1
  clear ho1 hbel
  go_wp2
  go_ret2
  exact ⟨_, _, rfl, HO1.out, HB1.out⟩


theorem encode_any (k n : Int) (s : ByteArray) (h : Rt k n s = true) (w : World) : Calls Try.prog 33 #[.agg #[.int .i64 k, .int .i64 n, .string s]] w (Enc w (encF k n s)) := by
  have h' := of_decide_eq_true h
  rcases h' with ⟨rfl, rfl, rfl⟩ | ⟨rfl, hn, rfl⟩ | ⟨rfl, rfl⟩ | ⟨rfl, rfl, hs⟩
  · exact enc_null w
  · exact enc_bool n w hn
  · exact enc_int n w
  · exact enc_text s w hs

end Go.Proofs.Ytndkoefchlclkaa
