/-
  Plain lemmas for the law OctetBack: what was put is read as the same.
-/
import Derived.Test.YtbjillkdhjndpaaCounts
import Derived.Test.YtbjillkdhjndpaaOrder
import Derived.Test.YtbjillkdhjndpaaTells
namespace Go.Proofs.Ytbjillkdhjndpaa
open Go.RowKit

theorem mod_step (a b c : Int) : ((a % 18446744073709551616) * b + c) % 18446744073709551616 = (a * b + c) % 18446744073709551616 := by
  rw [Int.add_emod, Int.mul_emod, Int.emod_emod, ← Int.mul_emod, ← Int.add_emod]

theorem num_be_go : ∀ (s x : Nat) (acc : Int), 0 ≤ acc → acc < 18446744073709551616 → List.foldl (fun x z => (x * 256 + z) % 18446744073709551616) acc (be s (x : Int)) = (acc * ((256 ^ s : Nat) : Int) + ((x % 256 ^ s : Nat) : Int)) % 18446744073709551616
  | 0, x, acc, h0, h1 => by
    simp [be]
    omega
  | s + 1, x, acc, h0, h1 => by
    rw [be_succ, List.foldl_cons, num_be_go s x _ (by omega) (by omega), mod_step]
    congr 1
    rw [Nat.pow_succ, Nat.mod_mul]
    generalize x / 256 ^ s % 256 = a
    generalize x % 256 ^ s = r
    generalize 256 ^ s = M
    rw [Int.add_mul, Int.natCast_mul, Int.natCast_add, Int.natCast_mul]
    rw [Int.mul_assoc, Int.mul_comm 256 (M : Int), Int.mul_comm (a : Int) (M : Int), Int.add_assoc, Int.add_comm ((M : Int) * a) (r : Int)]
    rfl

theorem num_be (s : Nat) (x : Int) (hs : s ≤ 8) (hx : 0 ≤ x ∧ x < ((256 ^ s : Nat) : Int)) : num (be s x) = x := by
  obtain ⟨x, rfl⟩ := Int.eq_ofNat_of_zero_le hx.1
  have h := num_be_go s x 0 (by omega) (by omega)
  have h8 : (256 : Nat) ^ s ≤ 256 ^ 8 := Nat.pow_le_pow_right (by omega) hs
  rw [show (256 : Nat) ^ 8 = 18446744073709551616 from rfl] at h8
  unfold num
  rw [h, Nat.mod_eq_of_lt (by omega)]
  omega

/-- A step of a reader over what stands there. -/
theorem take_step {zs a t : List Int} {k m : Nat} (h : zs.drop k = a ++ t) (hm : a.length = m) (hk : k ≤ zs.length) :
    nBytes zs k 0 m = a ∧ nAt zs.length k 0 m = k + m ∧ nErr zs.length k 0 m = 0 ∧ zs.drop (k + m) = t ∧ k + m ≤ zs.length := by
  have hl : zs.length - k = m + t.length := by
    have := congrArg List.length h
    rw [List.length_drop, List.length_append, hm] at this
    exact this
  have h1 : okN zs.length k 0 m = true := by simp [okN]; omega
  refine ⟨?_, by simp [nAt, h1], ?_, ?_, by omega⟩
  · simp only [nBytes, h1, if_true, Int.toNat_natCast]
    rw [h, ← hm, List.take_left']
    rfl
  · simp only [nErr]; rw [if_pos (by decide), if_neg (by omega), if_neg (by omega)]
  · rw [← List.drop_drop, h, ← hm, List.drop_left']
    rfl

/-- What OctetBack puts for a number: 15 bytes. -/
def enc1 (x : Int) : List Int := [x % 256] ++ be 2 (IntKind.u16.wrap x) ++ be 4 (x % 4294967296) ++ be 8 x
def encs (l : List Int) : List Int := l.flatMap enc1
theorem enc1_len (x : Int) : (enc1 x).length = 15 := by simp [enc1, be_len]
theorem encs_len (l : List Int) : (encs l).length = 15 * l.length := by
  induction l with
  | nil => rfl
  | cons x l ih => simp only [encs, List.flatMap_cons, List.length_append, enc1_len, List.length_cons] at ih ⊢; omega
theorem encs_snoc (l : List Int) (k : Nat) (hk : k < l.length) : encs (l.take (k + 1)) = encs (l.take k) ++ enc1 (l.getD k 0) := by
  rw [List.take_succ_eq_append_getElem hk]
  have e : l.getD k 0 = l[k] := by simp [List.getD, hk]
  rw [e]
  unfold encs
  rw [List.flatMap_append]
  simp
theorem encs_drop (l raw : List Int) (k : Nat) (hk : k < l.length) : (encs l ++ raw).drop (15 * k) = enc1 (l.getD k 0) ++ (encs (l.drop (k + 1)) ++ raw) := by
  have h : l = l.take k ++ (l.getD k 0 :: l.drop (k + 1)) := by
    have e : l.getD k 0 = l[k] := by simp [List.getD, hk]
    rw [e, ← List.drop_eq_getElem_cons hk, List.take_append_drop]
  have h2 : encs l = encs (l.take k) ++ (enc1 (l.getD k 0) ++ encs (l.drop (k + 1))) := by
    conv => lhs; rw [h]
    simp [encs]
  rw [h2, List.append_assoc, List.drop_left' (by rw [encs_len, List.length_take]; omega), List.append_assoc]

/-- The slice '.slice A n c' holds numbers of 64 bits, below block B. -/
def Us (w : World) (B : Nat) (A : Option Addr) (n : Nat) (vs : List Int) : Prop :=
  vs.length = n ∧ (∀ j, 0 ≤ vs.getD j 0 ∧ vs.getD j 0 ≤ 18446744073709551615) ∧
    (0 < n → ∃ b o, A = some ⟨b, o, none⟩ ∧ b < B ∧ ∀ j, j < n → w.cell? ⟨b, o + j, none⟩ = some (.int .u64 (vs.getD j 0)))
theorem Us.below {w w' : World} {B n : Nat} {A : Option Addr} {vs : List Int} (h : Us w B A n vs) (hb : Below B w w') : Us w' B A n vs :=
  ⟨h.1, h.2.1, fun hn => by
    obtain ⟨b, o, e, hB, hc⟩ := h.2.2 hn
    exact ⟨b, o, e, hB, fun j hj => (hb.cell (p := ⟨b, o + j, none⟩) hB).trans (hc j hj)⟩⟩
theorem Us.take {w : World} {B n : Nat} {A : Option Addr} {vs : List Int} (h : Us w B A n vs) (m : Nat) (hm : m ≤ n) : Us w B A m (vs.take m) := by
  refine ⟨by rw [List.length_take, h.1]; omega, fun j => ?_, fun hp => ?_⟩
  · have := h.2.1 j
    simp only [List.getD, List.getElem?_take] at this ⊢
    split
    · exact this
    · simp
  · obtain ⟨b, o, e, hB, hc⟩ := h.2.2 (by omega)
    refine ⟨b, o, e, hB, fun j hj => ?_⟩
    rw [hc j (by omega)]
    simp [List.getD, hj]

theorem Own.of_blk {w : World} {base g n : Nat} {zs : List Int} (h : Blk w g 5 (zs.map (Value.int .u8)).toArray) (hb : Bs zs) (hn : zs.length = n) (hg : base ≤ g) (hm : n ≤ 140737488355328) : Own w base (some ⟨g, 0, none⟩) n n zs := by
  subst hn
  exact ⟨⟨by simp, .inr ⟨g, _, _, rfl, hg, h, Nat.le_refl _, by unfold maxLen; omega, by simp, List.take_of_length_le (by simp)⟩⟩, hb⟩

theorem one_byte (w : World) (x : Int) : By (w.alloc (.cells #[.int .u8 (x % 256)] 5)) (w.heap.size + 1) (some ⟨w.heap.size, 0, none⟩) 1 [x % 256] :=
  By.of_blk (Blk.new w 5 #[.int .u8 (x % 256)]) (fun j => by
    match j with
    | 0 => simp; omega
    | j + 1 => simp) rfl

end Go.Proofs.Ytbjillkdhjndpaa
