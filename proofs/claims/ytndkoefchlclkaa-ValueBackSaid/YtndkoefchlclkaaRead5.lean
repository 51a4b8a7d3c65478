/-
  What a Reader answers, whatever its state: U8, U16, U32, U64, Raw, Go.
-/
import Derived.Test.YtndkoefchlclkaaRead4
namespace Go.Proofs.Ytndkoefchlclkaa
open Go.RowKit

theorem Bs.take {zs : List Int} (h : Bs zs) (k : Nat) : Bs (zs.take k) := fun j => by
  have := h j
  simp only [List.getD, List.getElem?_take] at this ⊢
  split
  · exact this
  · simp
theorem Bs.drop {zs : List Int} (h : Bs zs) (k : Nat) : Bs (zs.drop k) := fun j => by
  have := h (k + j)
  simpa only [List.getD, List.getElem?_drop] using this

theorem num_lt : ∀ (k : Nat) (zs : List Int), zs.length = k → k ≤ 8 → Bs zs → num zs < ((256 ^ k : Nat) : Int)
  | 0, zs, h, _, _ => by
    obtain rfl : zs = [] := List.eq_nil_of_length_eq_zero h
    simp [num]
  | k + 1, zs, h, h8, hb => by
    have e := num_snoc zs k (by omega)
    rw [List.take_of_length_le (by omega)] at e
    have hz := hb k
    have ih := num_lt k (zs.take k) (by rw [List.length_take]; omega) (by omega) (hb.take k)
    have h0 := (num_range (zs.take k)).1
    have h7 : (256 : Nat) ^ k ≤ 256 ^ 7 := Nat.pow_le_pow_right (by omega) (by omega)
    rw [show (256 : Nat) ^ 7 = 72057594037927936 from rfl] at h7
    rw [e, Nat.pow_succ]
    generalize (256 : Nat) ^ k = X at *
    omega

theorem nBytes_len (zs : List Int) (k : Nat) (er m : Int) : (nBytes zs k er m).length ≤ m.toNat := by
  unfold nBytes
  split
  · rw [List.length_take]; omega
  · simp
theorem nBytes_bs {zs : List Int} (h : Bs zs) (k : Nat) (er m : Int) : Bs (nBytes zs k er m) := by
  unfold nBytes
  split
  · exact (h.drop k).take _
  · intro j; simp
theorem num_nBytes {zs : List Int} (h : Bs zs) (k : Nat) (er : Int) (m : Nat) (hm : m ≤ 8) : 0 ≤ num (nBytes zs k er m) ∧ num (nBytes zs k er m) < ((256 ^ m : Nat) : Int) := by
  refine ⟨(num_range _).1, ?_⟩
  have h1 := nBytes_len zs k er m
  have h2 := num_lt _ _ rfl (by omega) (nBytes_bs h k er m)
  have h3 : (256 : Nat) ^ (nBytes zs k er m).length ≤ 256 ^ m := Nat.pow_le_pow_right (by omega) (by omega)
  generalize (256 : Nat) ^ (nBytes zs k er m).length = X at *
  generalize (256 : Nat) ^ m = Y at *
  omega

section
variable (p k : Nat) (er : Int) (A : Option Addr) (n c : Nat) (zs : List Int) (w : World) (h : Rd w p k er A n c) (hb : By w p A n zs) (hk : k ≤ n) (hnc : n ≤ c) (hn : n ≤ 140737488355328)
include h hb hk hnc hn
theorem u8_any : Calls Try.prog 78 #[.pointer (some ⟨p, 0, none⟩)] w fun e w' => e = .returned (.int .u8 (num (nBytes zs k er 1))) ∧ Moved w p (nAt n k er 1) (nErr n k er 1) A n c w' := by
  have hr := num_nBytes hb.bs k er 1 (by omega)
  go_enter Try.func78, Try.ntmps78
  go_wp2_with (go_at_call 85; refine (number_any p k 1 er A n c zs w h hb hk hnc hn).mono ?_; rintro e w' ⟨rfl, hm⟩)
  go_ret
  exact ⟨ret_int (Int.emod_eq_of_lt hr.1 (by simpa using hr.2)), hm⟩
theorem u64_any : Calls Try.prog 79 #[.pointer (some ⟨p, 0, none⟩)] w fun e w' => e = .returned (.int .u64 (num (nBytes zs k er 8))) ∧ Moved w p (nAt n k er 8) (nErr n k er 8) A n c w' := by
  go_enter Try.func79, Try.ntmps79
  go_wp2_with (go_at_call 85; refine (number_any p k 8 er A n c zs w h hb hk hnc hn).mono ?_; rintro e w' ⟨rfl, hm⟩)
  go_ret
  exact ⟨rfl, hm⟩
end

theorem u8_nil (w : World) : Calls Try.prog 78 #[.pointer none] w fun e w' => e = .returned (.int .u8 0) ∧ w = w' := by
  go_enter Try.func78, Try.ntmps78
  go_wp2_with (go_at_call 85; refine (number_nil _ _).mono ?_; rintro e w' ⟨rfl, rfl⟩)
  go_ret
  exact ⟨rfl, rfl⟩
theorem u64_nil (w : World) : Calls Try.prog 79 #[.pointer none] w fun e w' => e = .returned (.int .u64 0) ∧ w = w' := by
  go_enter Try.func79, Try.ntmps79
  go_wp2_with (go_at_call 85; refine (number_nil _ _).mono ?_; rintro e w' ⟨rfl, rfl⟩)
  go_ret
  exact ⟨rfl, rfl⟩



/-- What Raw leaves: the bytes in memory of their own. -/
def Rawed (w : World) (p k : Nat) (er m : Int) (A : Option Addr) (n c : Nat) (zs : List Int) (e : Ending) (w' : World) : Prop :=
  ∃ A' c', e = .returned (.slice A' (nBytes zs k er m).length c') ∧ Own w' w.heap.size A' (nBytes zs k er m).length c' (nBytes zs k er m) ∧ Moved w p (nAt n k er m) (nErr n k er m) A n c w'

theorem nothing (w : World) (b : Nat) : Own w b none 0 0 [] := ⟨World.ownsRow_nil _ _ _ _, fun j => by simp⟩

theorem Moved.below {w w1 w' : World} {p n c : Nat} {k er : Int} {A : Option Addr} (h : Moved w p k er A n c w1) (hb : Below w1.heap.size w1 w') : Moved w p k er A n c w' :=
  ⟨Blk.below h.1 hb (Blk.lt h.1), ⟨hb.os.trans h.2.os, hb.tape.trans h.2.tape, hb.output.trans h.2.output, Nat.le_trans h.2.size hb.size, fun i hi hne => (hb.block i (Nat.lt_of_lt_of_le hi h.2.size)).trans (h.2.block i hi hne)⟩⟩



end Go.Proofs.Ytndkoefchlclkaa
