/-
  BLAKE2s as plain functions on numbers of 32 bits. Nothing of the program is looked at here.
-/
import Derived.Laws.BitsAllLaws
namespace Go.Proofs.YtbemnolgolecaaaDoor

/-- A number of 32 bits as a natural one. -/
def tn (x : BitVec 32) : Nat := x.toNat
theorem tn_lt (x : BitVec 32) : tn x < 4294967296 := x.isLt
theorem tn_inj {x y : BitVec 32} (h : tn x = tn y) : x = y := BitVec.eq_of_toNat_eq h
theorem tn_add (x y : BitVec 32) : IntKind.u32.wrap ((tn x : Int) + (tn y : Int)) = (tn (x + y) : Int) := by
  rw [IntKind.wrap_u32']
  unfold tn
  rw [BitVec.toNat_add]
  omega
theorem tn_sub (x y : BitVec 32) : IntKind.u32.wrap ((tn x : Int) - (tn y : Int)) = (tn (x - y) : Int) := by
  have hx := x.isLt
  have hy := y.isLt
  rw [IntKind.wrap_u32']
  unfold tn
  rw [BitVec.toNat_sub]
  omega
theorem ofInt_tn (x : BitVec 32) : BitVec.ofInt 32 (tn x : Int) = x := by
  unfold tn
  apply BitVec.eq_of_toNat_eq
  rw [BitVec.toNat_ofInt]
  have := x.isLt
  omega
theorem wrap_tn (x : BitVec 32) : IntKind.u32.wrap (x.toNat : Int) = (tn x : Int) := by
  rw [IntKind.wrap_u32']
  have := x.isLt
  unfold tn
  omega
theorem tn_xor (x y : BitVec 32) : bits .xor .u32 (tn x : Int) (tn y : Int) = (tn (x ^^^ y) : Int) := by
  show IntKind.u32.wrap ((BitVec.ofInt 32 (tn x : Int) ^^^ BitVec.ofInt 32 (tn y : Int)).toNat : Int) = _
  rw [ofInt_tn, ofInt_tn, wrap_tn]
theorem tn_or (x y : BitVec 32) : bits .or .u32 (tn x : Int) (tn y : Int) = (tn (x ||| y) : Int) := by
  show IntKind.u32.wrap ((BitVec.ofInt 32 (tn x : Int) ||| BitVec.ofInt 32 (tn y : Int)).toNat : Int) = _
  rw [ofInt_tn, ofInt_tn, wrap_tn]
theorem tn_and (x y : BitVec 32) : bits .and .u32 (tn x : Int) (tn y : Int) = (tn (x &&& y) : Int) := by
  show IntKind.u32.wrap ((BitVec.ofInt 32 (tn x : Int) &&& BitVec.ofInt 32 (tn y : Int)).toNat : Int) = _
  rw [ofInt_tn, ofInt_tn, wrap_tn]
theorem tn_shr (x : BitVec 32) (n : Nat) : (tn x : Int) / 2 ^ n = (tn (x >>> n) : Int) := by
  unfold tn
  rw [BitVec.toNat_ushiftRight, Nat.shiftRight_eq_div_pow]
  simp
theorem tn_shl (x : BitVec 32) (n : Nat) : ((tn x : Int) * 2 ^ n) % 4294967296 = (tn (x <<< n) : Int) := by
  unfold tn
  rw [BitVec.toNat_shiftLeft, Nat.shiftLeft_eq]
  simp

/-- The number of 32 bits that any number is. -/
def bv (x : Int) : BitVec 32 := BitVec.ofInt 32 x
theorem mod_tn (x : Int) : x % 4294967296 = (tn (bv x) : Int) := by
  unfold tn bv
  rw [BitVec.toNat_ofInt]
  omega
theorem bv_mod (x : Int) : bv (x % 4294967296) = bv x := by
  apply tn_inj
  have h1 := mod_tn x
  have h2 := mod_tn (x % 4294967296)
  omega
theorem bv_add (x y : Int) : bv (x + y) = bv x + bv y := BitVec.ofInt_add _ _
theorem bv_sub (x y : Int) : bv (x - y) = bv x - bv y := by
  apply tn_inj
  have h1 := mod_tn (x - y)
  have h2 := tn_sub (bv x) (bv y)
  have h3 := mod_tn x
  have h4 := mod_tn y
  rw [IntKind.wrap_u32'] at h2
  omega
theorem bv_tn (x : BitVec 32) : bv (tn x : Int) = x := ofInt_tn x
theorem xor_bv (x y : Int) : bits .xor .u32 x y = (tn (bv x ^^^ bv y) : Int) := by
  show IntKind.u32.wrap ((BitVec.ofInt 32 x ^^^ BitVec.ofInt 32 y).toNat : Int) = _
  rw [wrap_tn]
  rfl
theorem or_bv (x y : Int) : bits .or .u32 x y = (tn (bv x ||| bv y) : Int) := by
  show IntKind.u32.wrap ((BitVec.ofInt 32 x ||| BitVec.ofInt 32 y).toNat : Int) = _
  rw [wrap_tn]
  rfl
theorem and_bv (x y : Int) : bits .and .u32 x y = (tn (bv x &&& bv y) : Int) := by
  show IntKind.u32.wrap ((BitVec.ofInt 32 x &&& BitVec.ofInt 32 y).toNat : Int) = _
  rw [wrap_tn]
  rfl

/-- Turned right. -/
def rr (x : BitVec 32) (n : Nat) : BitVec 32 := x >>> n ||| x <<< (32 - n)
theorem rr_bit (x : BitVec 32) (n : Nat) (h0 : 0 < n) (h1 : n < 32) (i : Nat) (hi : i < 32) : (rr x n).getLsbD i = if i + n < 32 then x.getLsbD (i + n) else x.getLsbD (i + n - 32) := by
  unfold rr
  simp only [BitVec.getLsbD_or, BitVec.getLsbD_ushiftRight, BitVec.getLsbD_shiftLeft]
  split
  · rename_i h
    have e : decide (i < 32 - n) = true := by simp; omega
    rw [e]
    simp [Nat.add_comm]
  · rename_i h
    have e : decide (i < 32 - n) = false := by simp; omega
    rw [e]
    have e2 : x.getLsbD (n + i) = false := BitVec.getLsbD_of_ge _ _ (by omega)
    rw [e2]
    have e3 : i - (32 - n) = i + n - 32 := by omega
    simp [hi, e3]
theorem rr_back (x : BitVec 32) (n : Nat) (h0 : 0 < n) (h1 : n < 32) : rr (rr x n) (32 - n) = x := by
  apply BitVec.eq_of_getLsbD_eq
  intro i hi
  rw [rr_bit _ _ (by omega) (by omega) i hi]
  split
  · rename_i h
    rw [rr_bit _ _ h0 h1 _ (by omega), if_neg (by omega)]
    congr 1
    omega
  · rename_i h
    rw [rr_bit _ _ h0 h1 _ (by omega), if_pos (by omega)]
    congr 1
    omega

/-- Four numbers. -/
structure Q where
  a : BitVec 32
  b : BitVec 32
  c : BitVec 32
  d : BitVec 32

def half (q : Q) (x : BitVec 32) (m n : Nat) : Q :=
  let a := q.a + (q.b + x)
  let d := rr (q.d ^^^ a) m
  let c := q.c + d
  let b := rr (q.b ^^^ c) n
  ⟨a, b, c, d⟩
def unhalf (q : Q) (x : BitVec 32) (m n : Nat) : Q :=
  let b := rr q.b (32 - n) ^^^ q.c
  let c := q.c - q.d
  let d := rr q.d (32 - m) ^^^ q.a
  let a := q.a - (b + x)
  ⟨a, b, c, d⟩
def mixQ (q : Q) (x y : BitVec 32) : Q := half (half q x 16 12) y 8 7
def unmixQ (q : Q) (x y : BitVec 32) : Q := unhalf (unhalf q y 8 7) x 16 12

theorem xor_cancel (x y : BitVec 32) : x ^^^ y ^^^ y = x := by rw [BitVec.xor_assoc, BitVec.xor_self, BitVec.xor_zero]
theorem rr_back' (x : BitVec 32) (n : Nat) (h0 : 0 < n) (h1 : n < 32) : rr (rr x (32 - n)) n = x := by
  have := rr_back x (32 - n) (by omega) (by omega)
  rwa [show 32 - (32 - n) = n by omega] at this
theorem unhalf_half (q : Q) (x : BitVec 32) (m n : Nat) (hm : 0 < m ∧ m < 32) (hn : 0 < n ∧ n < 32) : unhalf (half q x m n) x m n = q := by
  obtain ⟨a, b, c, d⟩ := q
  simp only [half, unhalf]
  rw [rr_back _ n hn.1 hn.2, rr_back _ m hm.1 hm.2, xor_cancel, xor_cancel, BitVec.add_sub_cancel, BitVec.add_sub_cancel]
theorem half_unhalf (q : Q) (x : BitVec 32) (m n : Nat) (hm : 0 < m ∧ m < 32) (hn : 0 < n ∧ n < 32) : half (unhalf q x m n) x m n = q := by
  obtain ⟨a, b, c, d⟩ := q
  simp only [half, unhalf]
  rw [BitVec.sub_add_cancel, xor_cancel, rr_back' _ m hm.1 hm.2, BitVec.sub_add_cancel, xor_cancel, rr_back' _ n hn.1 hn.2]
theorem unmix_mix (q : Q) (x y : BitVec 32) : unmixQ (mixQ q x y) x y = q := by
  unfold unmixQ mixQ
  rw [unhalf_half _ _ _ _ (by omega) (by omega), unhalf_half _ _ _ _ (by omega) (by omega)]
theorem mix_unmix (q : Q) (x y : BitVec 32) : mixQ (unmixQ q x y) x y = q := by
  unfold unmixQ mixQ
  rw [half_unhalf _ _ _ _ (by omega) (by omega), half_unhalf _ _ _ _ (by omega) (by omega)]

end Go.Proofs.YtbemnolgolecaaaDoor
