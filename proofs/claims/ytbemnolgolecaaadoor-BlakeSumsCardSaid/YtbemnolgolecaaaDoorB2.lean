/-
  The bytes of a number turned round.
-/
import Derived.Test.YtbemnolgolecaaaDoorBL
import Derived.Test.YtbemnolgolecaaaDoorPut
namespace Go.Proofs.YtbemnolgolecaaaDoor
open Go.RowKit

/-- The bytes turned round. -/
def rev1 (x : BitVec 32) : BitVec 32 := (x >>> 8 &&& 16711935#32) ||| ((x &&& 16711935#32) <<< 8)
def rev (x : BitVec 32) : BitVec 32 := rev1 x >>> 16 ||| rev1 x <<< 16

theorem shr8 (x : BitVec 32) : (tn x : Int) / (256 : Int) = (tn (x >>> 8) : Int) := tn_shr x 8
theorem shl8 (x : BitVec 32) : ((tn x : Int) * (256 : Int)) % (4294967296 : Int) = (tn (x <<< 8) : Int) := tn_shl x 8
theorem shr16 (x : BitVec 32) : (tn x : Int) / (65536 : Int) = (tn (x >>> 16) : Int) := tn_shr x 16
theorem shl16 (x : BitVec 32) : ((tn x : Int) * (65536 : Int)) % (4294967296 : Int) = (tn (x <<< 16) : Int) := tn_shl x 16
theorem bv_mask : bv 16711935 = 16711935#32 := by decide

theorem rev_any (x : BitVec 32) (w : World) : Calls Tryd.prog 43 #[.int .u32 (tn x : Int)] w fun e w' => e = .returned (.int .u32 (tn (rev x) : Int)) ∧ w = w' := by
  have hx := tn_lt x
  go_enter Tryd.func43, Tryd.ntmps43
  go_wp2
  go_ret
  refine ⟨ret_int ?_, rfl⟩
  simp only [shr8, and_bv, bv_tn, bv_mask, shl8, or_bv, shr16, shl16]
  rfl

theorem rev_parts (x : BitVec 32) : rev x = ((x >>> 0 &&& 255#32) <<< 24 ||| ((x >>> 8 &&& 255#32) <<< 16 ||| ((x >>> 16 &&& 255#32) <<< 8 ||| (x >>> 24 &&& 255#32)))) := by
  apply BitVec.eq_of_getLsbD_eq
  intro i hi
  unfold rev rev1
  have h : i = 0 ∨ i = 1 ∨ i = 2 ∨ i = 3 ∨ i = 4 ∨ i = 5 ∨ i = 6 ∨ i = 7 ∨ i = 8 ∨ i = 9 ∨ i = 10 ∨ i = 11 ∨ i = 12 ∨ i = 13 ∨ i = 14 ∨ i = 15 ∨ i = 16 ∨ i = 17 ∨ i = 18 ∨ i = 19 ∨ i = 20 ∨ i = 21 ∨ i = 22 ∨ i = 23 ∨ i = 24 ∨ i = 25 ∨ i = 26 ∨ i = 27 ∨ i = 28 ∨ i = 29 ∨ i = 30 ∨ i = 31 := by omega
  rcases h with rfl | rfl | rfl | rfl | rfl | rfl | rfl | rfl | rfl | rfl | rfl | rfl | rfl | rfl | rfl | rfl | rfl | rfl | rfl | rfl | rfl | rfl | rfl | rfl | rfl | rfl | rfl | rfl | rfl | rfl | rfl | rfl <;> simp

/-- Byte i of a number, the lowest first. -/
def byt (x : BitVec 32) (i : Nat) : Nat := tn x / 256 ^ i % 256
theorem byt_lt (x : BitVec 32) (i : Nat) : byt x i < 256 := Nat.mod_lt _ (by omega)
theorem byt_sum (x : BitVec 32) : tn x = byt x 0 + 256 * byt x 1 + 65536 * byt x 2 + 16777216 * byt x 3 := by
  have := tn_lt x
  simp only [byt, show (256 : Nat) ^ 0 = 1 from rfl, show (256 : Nat) ^ 1 = 256 from rfl, show (256 : Nat) ^ 2 = 65536 from rfl, show (256 : Nat) ^ 3 = 16777216 from rfl]
  omega
theorem ext_byt (x : BitVec 32) (i : Nat) : (x >>> (8 * i) &&& 255#32).toNat = byt x i := by
  rw [BitVec.toNat_and, BitVec.toNat_ushiftRight, Nat.shiftRight_eq_div_pow, Nat.pow_mul, show (255#32).toNat = 2 ^ 8 - 1 from rfl, Nat.and_two_pow_sub_one_eq_mod]
  rfl
theorem shl_byt (x : BitVec 32) (i k : Nat) (hk : k ≤ 24) : ((x >>> (8 * i) &&& 255#32) <<< k).toNat = byt x i <<< k := by
  rw [BitVec.toNat_shiftLeft, ext_byt]
  have h0 := byt_lt x i
  have h1 : 2 ^ k ≤ 2 ^ 24 := Nat.pow_le_pow_right (by omega) hk
  have h2 : byt x i * 2 ^ k ≤ 255 * 2 ^ 24 := Nat.mul_le_mul (by omega) h1
  rw [Nat.shiftLeft_eq]
  omega
theorem or_add (a b n : Nat) (h : b < 2 ^ n) : a <<< n ||| b = a * 2 ^ n + b := by
  rw [← Nat.shiftLeft_add_eq_or_of_lt h, Nat.shiftLeft_eq]
theorem tn_rev (x : BitVec 32) : tn (rev x) = 16777216 * byt x 0 + 65536 * byt x 1 + 256 * byt x 2 + byt x 3 := by
  have h0 := byt_lt x 0
  have h1 := byt_lt x 1
  have h2 := byt_lt x 2
  have h3 := byt_lt x 3
  have e0 := shl_byt x 0 24 (by omega)
  have e1 := shl_byt x 1 16 (by omega)
  have e2 := shl_byt x 2 8 (by omega)
  have e3 := ext_byt x 3
  unfold tn
  rw [rev_parts, BitVec.toNat_or, BitVec.toNat_or, BitVec.toNat_or, e0, e1, e2, e3]
  rw [or_add _ (byt x 3) 8 (by omega), or_add (byt x 1) _ 16 (by omega), or_add (byt x 0) _ 24 (by omega)]
  omega
theorem tn_rev_div (x : BitVec 32) (i : Nat) (hi : i < 4) : tn (rev x) / 256 ^ (3 - i) % 256 = byt x i := by
  have h0 := byt_lt x 0
  have h1 := byt_lt x 1
  have h2 := byt_lt x 2
  have h3 := byt_lt x 3
  rw [tn_rev]
  have h : i = 0 ∨ i = 1 ∨ i = 2 ∨ i = 3 := by omega
  rcases h with rfl | rfl | rfl | rfl
  · show _ / 16777216 % 256 = _; omega
  · show _ / 65536 % 256 = _; omega
  · show _ / 256 % 256 = _; omega
  · show _ / 1 % 256 = _; omega
/-- The bytes of a number, the lowest first. -/
def le4 (x : BitVec 32) : List Int := [(byt x 0 : Int), (byt x 1 : Int), (byt x 2 : Int), (byt x 3 : Int)]
theorem be_rev (x : BitVec 32) : be 4 (tn (rev x) : Int) = le4 x := by
  have e (i : Nat) (hi : i < 4) : ((tn (rev x) : Int) / ((256 ^ (3 - i) : Nat) : Int)) % 256 = (byt x i : Int) := by
    rw [← tn_rev_div x i hi]
    simp
  have h : be 4 (tn (rev x) : Int) = [((tn (rev x) : Int) / ((256 ^ (3 - 0) : Nat) : Int)) % 256, ((tn (rev x) : Int) / ((256 ^ (3 - 1) : Nat) : Int)) % 256, ((tn (rev x) : Int) / ((256 ^ (3 - 2) : Nat) : Int)) % 256, ((tn (rev x) : Int) / ((256 ^ (3 - 3) : Nat) : Int)) % 256] := rfl
  rw [h, e 0 (by omega), e 1 (by omega), e 2 (by omega), e 3 (by omega)]
  rfl

end Go.Proofs.YtbemnolgolecaaaDoor
