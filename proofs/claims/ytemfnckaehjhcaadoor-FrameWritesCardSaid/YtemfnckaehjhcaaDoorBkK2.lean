/-
  Plain words for the document's Block: numbers as sums of bytes, fours as digits.
-/
import Derived.Test.YtemfnckaehjhcaaDoorBkCb
import Derived.Test.YtemfnckaehjhcaaDoorBkK1
import Derived.Test.YtemfnckaehjhcaaDoorBkM2
namespace Go.Proofs.YtemfnckaehjhcaaDoor.Bk
open Go.RowKit

theorem num4 (a b c d : Int) (ha : 0 ≤ a ∧ a ≤ 255) (hb : 0 ≤ b ∧ b ≤ 255) (hc : 0 ≤ c ∧ c ≤ 255) (hd : 0 ≤ d ∧ d ≤ 255) : num [a, b, c, d] = ((a * 256 + b) * 256 + c) * 256 + d := by
  show ((((0 * 256 + a) % 18446744073709551616 * 256 + b) % 18446744073709551616 * 256 + c) % 18446744073709551616 * 256 + d) % 18446744073709551616 = _
  omega
theorem take4 (b : List Int) (n : Nat) (h : n + 4 ≤ b.length) : (b.drop n).take 4 = [b.getD n 0, b.getD (n + 1) 0, b.getD (n + 2) 0, b.getD (n + 3) 0] := by
  have g (i : Nat) (hi : i < b.length) : b.getD i 0 = b[i] := by simp [List.getD, hi]
  rw [List.drop_eq_getElem_cons (show n < b.length by omega), List.drop_eq_getElem_cons (show n + 1 < b.length by omega), List.drop_eq_getElem_cons (show n + 1 + 1 < b.length by omega), List.drop_eq_getElem_cons (show n + 1 + 1 + 1 < b.length by omega),
    g n (by omega), g (n + 1) (by omega), g (n + 2) (by omega), g (n + 3) (by omega)]
  rfl
theorem byts (a b c d X : Nat) (ha : a ≤ 255) (hb : b ≤ 255) (hc : c ≤ 255) (hd : d ≤ 255) (h : X = ((a * 256 + b) * 256 + c) * 256 + d) : X % 256 = d ∧ X / 256 % 256 = c ∧ X / 65536 % 256 = b ∧ X / 16777216 % 256 = a := by
  have h1 : X / 256 = (a * 256 + b) * 256 + c := by omega
  have h2 : X / 65536 = a * 256 + b := by rw [show (65536 : Nat) = 256 * 256 from rfl, ← Nat.div_div_eq_div_mul, h1]; omega
  have h3 : X / 16777216 = a := by rw [show (16777216 : Nat) = 65536 * 256 from rfl, ← Nat.div_div_eq_div_mul, h2]; omega
  rw [h1, h2, h3]
  refine ⟨by omega, by omega, by omega, by omega⟩
theorem le_word (b : List Int) (hb : b.length = 64) (bs : Bs b) (j : Nat) (hj : j < 16) :
    ((b.getD (4 * j) 0 + b.getD (4 * j + 1) 0 * 256) + b.getD (4 * j + 2) 0 * 65536) + b.getD (4 * j + 3) 0 * 16777216 = (tn (rev (numw b j)) : Int) := by
  have h := take4 b (4 * j) (by omega)
  have r0 := bs (4 * j)
  have r1 := bs (4 * j + 1)
  have r2 := bs (4 * j + 2)
  have r3 := bs (4 * j + 3)
  have hn : numw b j = bv (num [b.getD (4 * j) 0, b.getD (4 * j + 1) 0, b.getD (4 * j + 2) 0, b.getD (4 * j + 3) 0]) := by unfold numw; rw [h]
  rw [num4 _ _ _ _ r0 r1 r2 r3] at hn
  generalize b.getD (4 * j) 0 = c0 at *
  generalize b.getD (4 * j + 1) 0 = c1 at *
  generalize b.getD (4 * j + 2) 0 = c2 at *
  generalize b.getD (4 * j + 3) 0 = c3 at *
  have hm := mod_tn (((c0 * 256 + c1) * 256 + c2) * 256 + c3)
  rw [← hn] at hm
  have hr := tn_rev (numw b j)
  have q0 : byt (numw b j) 0 = tn (numw b j) % 256 := by unfold byt; simp
  have q1 : byt (numw b j) 1 = tn (numw b j) / 256 % 256 := by unfold byt; simp
  have q2 : byt (numw b j) 2 = tn (numw b j) / 65536 % 256 := rfl
  have q3 : byt (numw b j) 3 = tn (numw b j) / 16777216 % 256 := rfl
  have hX : (tn (numw b j) : Int) = ((c0 * 256 + c1) * 256 + c2) * 256 + c3 := by omega
  clear hm hn h
  obtain ⟨n0, rfl⟩ := Int.eq_ofNat_of_zero_le r0.1
  obtain ⟨n1, rfl⟩ := Int.eq_ofNat_of_zero_le r1.1
  obtain ⟨n2, rfl⟩ := Int.eq_ofNat_of_zero_le r2.1
  obtain ⟨n3, rfl⟩ := Int.eq_ofNat_of_zero_le r3.1
  obtain ⟨p0, p1, p2, p3⟩ := byts n0 n1 n2 n3 (tn (numw b j)) (by omega) (by omega) (by omega) (by omega) (by omega)
  rw [hr, q0, q1, q2, q3, p0, p1, p2, p3]
  clear hr q0 q1 q2 q3 p0 p1 p2 p3 hX
  omega

/-- The digits of a four, as the document lays them. -/
def fourS : Nat → ByteArray
  | 0 => { data := #[48, 52, 56, 99] }
  | 1 => { data := #[49, 53, 57, 100] }
  | 2 => { data := #[50, 54, 97, 101] }
  | 3 => { data := #[51, 55, 98, 102] }
  | 4 => { data := #[48, 53, 97, 102] }
  | 5 => { data := #[49, 54, 98, 99] }
  | 6 => { data := #[50, 55, 56, 100] }
  | _ => { data := #[51, 52, 57, 101] }
def fourC (k j : Nat) : Int := (((fourS k).data.toList.getD j 0).toNat : Int)
theorem fourC_dig (k j : Nat) (hk : k < 8) (hj : j < 4) : dgF (fourC k j) = (fo k j : Int) := by
  have all : ∀ k : Fin 8, ∀ j : Fin 4, dgF (fourC k.val j.val) = (fo k.val j.val : Int) := by decide +kernel
  exact all ⟨k, hk⟩ ⟨j, hj⟩
theorem fourC_byte (k j : Nat) : 0 ≤ fourC k j ∧ fourC k j ≤ 255 := by
  unfold fourC
  have := ((fourS k).data.toList.getD j 0).toNat_lt
  omega
theorem four_ix_0_0 (w : World) : (Instr.index 9 (.string (fourS 0)) (.int .i64 ((0 : Nat) : Int))).run Tryd.prog w = .ok (.int .u8 (fourC 0 0)) w := by kernel_rfl
theorem four_ix_0_1 (w : World) : (Instr.index 9 (.string (fourS 0)) (.int .i64 ((1 : Nat) : Int))).run Tryd.prog w = .ok (.int .u8 (fourC 0 1)) w := by kernel_rfl
theorem four_ix_0_2 (w : World) : (Instr.index 9 (.string (fourS 0)) (.int .i64 ((2 : Nat) : Int))).run Tryd.prog w = .ok (.int .u8 (fourC 0 2)) w := by kernel_rfl
theorem four_ix_0_3 (w : World) : (Instr.index 9 (.string (fourS 0)) (.int .i64 ((3 : Nat) : Int))).run Tryd.prog w = .ok (.int .u8 (fourC 0 3)) w := by kernel_rfl
theorem four_ix_1_0 (w : World) : (Instr.index 9 (.string (fourS 1)) (.int .i64 ((0 : Nat) : Int))).run Tryd.prog w = .ok (.int .u8 (fourC 1 0)) w := by kernel_rfl
theorem four_ix_1_1 (w : World) : (Instr.index 9 (.string (fourS 1)) (.int .i64 ((1 : Nat) : Int))).run Tryd.prog w = .ok (.int .u8 (fourC 1 1)) w := by kernel_rfl
theorem four_ix_1_2 (w : World) : (Instr.index 9 (.string (fourS 1)) (.int .i64 ((2 : Nat) : Int))).run Tryd.prog w = .ok (.int .u8 (fourC 1 2)) w := by kernel_rfl
theorem four_ix_1_3 (w : World) : (Instr.index 9 (.string (fourS 1)) (.int .i64 ((3 : Nat) : Int))).run Tryd.prog w = .ok (.int .u8 (fourC 1 3)) w := by kernel_rfl
theorem four_ix_2_0 (w : World) : (Instr.index 9 (.string (fourS 2)) (.int .i64 ((0 : Nat) : Int))).run Tryd.prog w = .ok (.int .u8 (fourC 2 0)) w := by kernel_rfl
theorem four_ix_2_1 (w : World) : (Instr.index 9 (.string (fourS 2)) (.int .i64 ((1 : Nat) : Int))).run Tryd.prog w = .ok (.int .u8 (fourC 2 1)) w := by kernel_rfl
theorem four_ix_2_2 (w : World) : (Instr.index 9 (.string (fourS 2)) (.int .i64 ((2 : Nat) : Int))).run Tryd.prog w = .ok (.int .u8 (fourC 2 2)) w := by kernel_rfl
theorem four_ix_2_3 (w : World) : (Instr.index 9 (.string (fourS 2)) (.int .i64 ((3 : Nat) : Int))).run Tryd.prog w = .ok (.int .u8 (fourC 2 3)) w := by kernel_rfl
theorem four_ix_3_0 (w : World) : (Instr.index 9 (.string (fourS 3)) (.int .i64 ((0 : Nat) : Int))).run Tryd.prog w = .ok (.int .u8 (fourC 3 0)) w := by kernel_rfl
theorem four_ix_3_1 (w : World) : (Instr.index 9 (.string (fourS 3)) (.int .i64 ((1 : Nat) : Int))).run Tryd.prog w = .ok (.int .u8 (fourC 3 1)) w := by kernel_rfl
theorem four_ix_3_2 (w : World) : (Instr.index 9 (.string (fourS 3)) (.int .i64 ((2 : Nat) : Int))).run Tryd.prog w = .ok (.int .u8 (fourC 3 2)) w := by kernel_rfl
theorem four_ix_3_3 (w : World) : (Instr.index 9 (.string (fourS 3)) (.int .i64 ((3 : Nat) : Int))).run Tryd.prog w = .ok (.int .u8 (fourC 3 3)) w := by kernel_rfl
theorem four_ix_4_0 (w : World) : (Instr.index 9 (.string (fourS 4)) (.int .i64 ((0 : Nat) : Int))).run Tryd.prog w = .ok (.int .u8 (fourC 4 0)) w := by kernel_rfl
theorem four_ix_4_1 (w : World) : (Instr.index 9 (.string (fourS 4)) (.int .i64 ((1 : Nat) : Int))).run Tryd.prog w = .ok (.int .u8 (fourC 4 1)) w := by kernel_rfl
theorem four_ix_4_2 (w : World) : (Instr.index 9 (.string (fourS 4)) (.int .i64 ((2 : Nat) : Int))).run Tryd.prog w = .ok (.int .u8 (fourC 4 2)) w := by kernel_rfl
theorem four_ix_4_3 (w : World) : (Instr.index 9 (.string (fourS 4)) (.int .i64 ((3 : Nat) : Int))).run Tryd.prog w = .ok (.int .u8 (fourC 4 3)) w := by kernel_rfl
theorem four_ix_5_0 (w : World) : (Instr.index 9 (.string (fourS 5)) (.int .i64 ((0 : Nat) : Int))).run Tryd.prog w = .ok (.int .u8 (fourC 5 0)) w := by kernel_rfl
theorem four_ix_5_1 (w : World) : (Instr.index 9 (.string (fourS 5)) (.int .i64 ((1 : Nat) : Int))).run Tryd.prog w = .ok (.int .u8 (fourC 5 1)) w := by kernel_rfl
theorem four_ix_5_2 (w : World) : (Instr.index 9 (.string (fourS 5)) (.int .i64 ((2 : Nat) : Int))).run Tryd.prog w = .ok (.int .u8 (fourC 5 2)) w := by kernel_rfl
theorem four_ix_5_3 (w : World) : (Instr.index 9 (.string (fourS 5)) (.int .i64 ((3 : Nat) : Int))).run Tryd.prog w = .ok (.int .u8 (fourC 5 3)) w := by kernel_rfl
theorem four_ix_6_0 (w : World) : (Instr.index 9 (.string (fourS 6)) (.int .i64 ((0 : Nat) : Int))).run Tryd.prog w = .ok (.int .u8 (fourC 6 0)) w := by kernel_rfl
theorem four_ix_6_1 (w : World) : (Instr.index 9 (.string (fourS 6)) (.int .i64 ((1 : Nat) : Int))).run Tryd.prog w = .ok (.int .u8 (fourC 6 1)) w := by kernel_rfl
theorem four_ix_6_2 (w : World) : (Instr.index 9 (.string (fourS 6)) (.int .i64 ((2 : Nat) : Int))).run Tryd.prog w = .ok (.int .u8 (fourC 6 2)) w := by kernel_rfl
theorem four_ix_6_3 (w : World) : (Instr.index 9 (.string (fourS 6)) (.int .i64 ((3 : Nat) : Int))).run Tryd.prog w = .ok (.int .u8 (fourC 6 3)) w := by kernel_rfl
theorem four_ix_7_0 (w : World) : (Instr.index 9 (.string (fourS 7)) (.int .i64 ((0 : Nat) : Int))).run Tryd.prog w = .ok (.int .u8 (fourC 7 0)) w := by kernel_rfl
theorem four_ix_7_1 (w : World) : (Instr.index 9 (.string (fourS 7)) (.int .i64 ((1 : Nat) : Int))).run Tryd.prog w = .ok (.int .u8 (fourC 7 1)) w := by kernel_rfl
theorem four_ix_7_2 (w : World) : (Instr.index 9 (.string (fourS 7)) (.int .i64 ((2 : Nat) : Int))).run Tryd.prog w = .ok (.int .u8 (fourC 7 2)) w := by kernel_rfl
theorem four_ix_7_3 (w : World) : (Instr.index 9 (.string (fourS 7)) (.int .i64 ((3 : Nat) : Int))).run Tryd.prog w = .ok (.int .u8 (fourC 7 3)) w := by kernel_rfl
theorem four_ix (k : Nat) (hk : k < 8) (j : Nat) (hj : j < 4) (w : World) : (Instr.index 9 (.string (fourS k)) (.int .i64 (j : Int))).run Tryd.prog w = .ok (.int .u8 (fourC k j)) w := by
  match k, hk, j, hj with
  | 0, _, 0, _ => exact four_ix_0_0 w
  | 0, _, 1, _ => exact four_ix_0_1 w
  | 0, _, 2, _ => exact four_ix_0_2 w
  | 0, _, 3, _ => exact four_ix_0_3 w
  | 1, _, 0, _ => exact four_ix_1_0 w
  | 1, _, 1, _ => exact four_ix_1_1 w
  | 1, _, 2, _ => exact four_ix_1_2 w
  | 1, _, 3, _ => exact four_ix_1_3 w
  | 2, _, 0, _ => exact four_ix_2_0 w
  | 2, _, 1, _ => exact four_ix_2_1 w
  | 2, _, 2, _ => exact four_ix_2_2 w
  | 2, _, 3, _ => exact four_ix_2_3 w
  | 3, _, 0, _ => exact four_ix_3_0 w
  | 3, _, 1, _ => exact four_ix_3_1 w
  | 3, _, 2, _ => exact four_ix_3_2 w
  | 3, _, 3, _ => exact four_ix_3_3 w
  | 4, _, 0, _ => exact four_ix_4_0 w
  | 4, _, 1, _ => exact four_ix_4_1 w
  | 4, _, 2, _ => exact four_ix_4_2 w
  | 4, _, 3, _ => exact four_ix_4_3 w
  | 5, _, 0, _ => exact four_ix_5_0 w
  | 5, _, 1, _ => exact four_ix_5_1 w
  | 5, _, 2, _ => exact four_ix_5_2 w
  | 5, _, 3, _ => exact four_ix_5_3 w
  | 6, _, 0, _ => exact four_ix_6_0 w
  | 6, _, 1, _ => exact four_ix_6_1 w
  | 6, _, 2, _ => exact four_ix_6_2 w
  | 6, _, 3, _ => exact four_ix_6_3 w
  | 7, _, 0, _ => exact four_ix_7_0 w
  | 7, _, 1, _ => exact four_ix_7_1 w
  | 7, _, 2, _ => exact four_ix_7_2 w
  | 7, _, 3, _ => exact four_ix_7_3 w
theorem ix74_0 (w : World) : (Instr.index 138 (.agg #[.string { data := #[48, 52, 56, 99] }, .string { data := #[49, 53, 57, 100] }, .string { data := #[50, 54, 97, 101] }, .string { data := #[51, 55, 98, 102] }, .string { data := #[48, 53, 97, 102] }, .string { data := #[49, 54, 98, 99] }, .string { data := #[50, 55, 56, 100] }, .string { data := #[51, 52, 57, 101] }]) (.int .i64 ((0 : Nat) : Int))).run Tryd.prog w = .ok (.string (fourS 0)) w := by kernel_rfl
theorem ix74_1 (w : World) : (Instr.index 138 (.agg #[.string { data := #[48, 52, 56, 99] }, .string { data := #[49, 53, 57, 100] }, .string { data := #[50, 54, 97, 101] }, .string { data := #[51, 55, 98, 102] }, .string { data := #[48, 53, 97, 102] }, .string { data := #[49, 54, 98, 99] }, .string { data := #[50, 55, 56, 100] }, .string { data := #[51, 52, 57, 101] }]) (.int .i64 ((1 : Nat) : Int))).run Tryd.prog w = .ok (.string (fourS 1)) w := by kernel_rfl
theorem ix74_2 (w : World) : (Instr.index 138 (.agg #[.string { data := #[48, 52, 56, 99] }, .string { data := #[49, 53, 57, 100] }, .string { data := #[50, 54, 97, 101] }, .string { data := #[51, 55, 98, 102] }, .string { data := #[48, 53, 97, 102] }, .string { data := #[49, 54, 98, 99] }, .string { data := #[50, 55, 56, 100] }, .string { data := #[51, 52, 57, 101] }]) (.int .i64 ((2 : Nat) : Int))).run Tryd.prog w = .ok (.string (fourS 2)) w := by kernel_rfl
theorem ix74_3 (w : World) : (Instr.index 138 (.agg #[.string { data := #[48, 52, 56, 99] }, .string { data := #[49, 53, 57, 100] }, .string { data := #[50, 54, 97, 101] }, .string { data := #[51, 55, 98, 102] }, .string { data := #[48, 53, 97, 102] }, .string { data := #[49, 54, 98, 99] }, .string { data := #[50, 55, 56, 100] }, .string { data := #[51, 52, 57, 101] }]) (.int .i64 ((3 : Nat) : Int))).run Tryd.prog w = .ok (.string (fourS 3)) w := by kernel_rfl
theorem ix74_4 (w : World) : (Instr.index 138 (.agg #[.string { data := #[48, 52, 56, 99] }, .string { data := #[49, 53, 57, 100] }, .string { data := #[50, 54, 97, 101] }, .string { data := #[51, 55, 98, 102] }, .string { data := #[48, 53, 97, 102] }, .string { data := #[49, 54, 98, 99] }, .string { data := #[50, 55, 56, 100] }, .string { data := #[51, 52, 57, 101] }]) (.int .i64 ((4 : Nat) : Int))).run Tryd.prog w = .ok (.string (fourS 4)) w := by kernel_rfl
theorem ix74_5 (w : World) : (Instr.index 138 (.agg #[.string { data := #[48, 52, 56, 99] }, .string { data := #[49, 53, 57, 100] }, .string { data := #[50, 54, 97, 101] }, .string { data := #[51, 55, 98, 102] }, .string { data := #[48, 53, 97, 102] }, .string { data := #[49, 54, 98, 99] }, .string { data := #[50, 55, 56, 100] }, .string { data := #[51, 52, 57, 101] }]) (.int .i64 ((5 : Nat) : Int))).run Tryd.prog w = .ok (.string (fourS 5)) w := by kernel_rfl
theorem ix74_6 (w : World) : (Instr.index 138 (.agg #[.string { data := #[48, 52, 56, 99] }, .string { data := #[49, 53, 57, 100] }, .string { data := #[50, 54, 97, 101] }, .string { data := #[51, 55, 98, 102] }, .string { data := #[48, 53, 97, 102] }, .string { data := #[49, 54, 98, 99] }, .string { data := #[50, 55, 56, 100] }, .string { data := #[51, 52, 57, 101] }]) (.int .i64 ((6 : Nat) : Int))).run Tryd.prog w = .ok (.string (fourS 6)) w := by kernel_rfl
theorem ix74_7 (w : World) : (Instr.index 138 (.agg #[.string { data := #[48, 52, 56, 99] }, .string { data := #[49, 53, 57, 100] }, .string { data := #[50, 54, 97, 101] }, .string { data := #[51, 55, 98, 102] }, .string { data := #[48, 53, 97, 102] }, .string { data := #[49, 54, 98, 99] }, .string { data := #[50, 55, 56, 100] }, .string { data := #[51, 52, 57, 101] }]) (.int .i64 ((7 : Nat) : Int))).run Tryd.prog w = .ok (.string (fourS 7)) w := by kernel_rfl
theorem ix74 (k : Nat) (hk : k < 8) (w : World) : (Instr.index 138 (.agg #[.string { data := #[48, 52, 56, 99] }, .string { data := #[49, 53, 57, 100] }, .string { data := #[50, 54, 97, 101] }, .string { data := #[51, 55, 98, 102] }, .string { data := #[48, 53, 97, 102] }, .string { data := #[49, 54, 98, 99] }, .string { data := #[50, 55, 56, 100] }, .string { data := #[51, 52, 57, 101] }]) (.int .i64 (k : Int))).run Tryd.prog w = .ok (.string (fourS k)) w := by
  match k, hk with
  | 0, _ => exact ix74_0 w
  | 1, _ => exact ix74_1 w
  | 2, _ => exact ix74_2 w
  | 3, _ => exact ix74_3 w
  | 4, _ => exact ix74_4 w
  | 5, _ => exact ix74_5 w
  | 6, _ => exact ix74_6 w
  | 7, _ => exact ix74_7 w

/-- The document's mixed, of a four. -/
theorem refmixed_four (v : List (BitVec 32)) (hv : v.length = 16) (k : Nat) (hk : k < 8) (x y : BitVec 32) (w : World) :
    Calls Tryd.prog 104 #[.agg (UL v).toArray, .string (fourS k), .int .u32 (tn x), .int .u32 (tn y)] w fun e w' => e = .returned (.agg (UL (putQ v k (mixQ ⟨gt v (fo k 0), gt v (fo k 1), gt v (fo k 2), gt v (fo k 3)⟩ x y))).toArray) ∧ Below w.heap.size w w' :=
  refmixed_any v hv (fourS k) (fourC k) (fo k) (fo_lt k) (four_ix k hk) (fun j hj w => by
    have := digit_any (fourC k j) (fourC_byte k j).1 (fourC_byte k j).2 w
    rwa [fourC_dig k j hk hj] at this) x y w

end Go.Proofs.YtemfnckaehjhcaaDoor.Bk
