/-
  The document's digits.
-/
import Derived.Test.YtblcfjliabeaiaaDoorL31
import Derived.Lib.ItoaMem
import Derived.Lib.ItoaLen
namespace Go.Proofs.YtblcfjliabeaiaaDoor
open Go.RowKit Go.Shelf
attribute [local go_sem] Oper.semAt_some

theorem conv_dig (w : World) : ∀ k : Nat, k < 10 → (convert 21 9 (.int .i32 ((48 : Int) + (k : Int)))).run Tryd.prog w = .ok (tx [UInt8.ofNat (48 + k)]) w
  | 0, _ => by kernel_rfl
  | 1, _ => by kernel_rfl
  | 2, _ => by kernel_rfl
  | 3, _ => by kernel_rfl
  | 4, _ => by kernel_rfl
  | 5, _ => by kernel_rfl
  | 6, _ => by kernel_rfl
  | 7, _ => by kernel_rfl
  | 8, _ => by kernel_rfl
  | 9, _ => by kernel_rfl
  | k + 10, h => by omega
theorem dec_last {m : Nat} (s : List UInt8) (h : ¬ m / 10 = 0) : Lib.decDigits m ++ s = Lib.decDigits (m / 10) ++ (UInt8.ofNat (48 + m % 10) :: s) := by
  rw [Lib.decDigits, dif_neg (by omega), List.append_assoc]
  rfl
theorem dec_end {m : Nat} (s : List UInt8) (h : m / 10 = 0) : Lib.decDigits m ++ s = UInt8.ofNat (48 + m % 10) :: s := by
  rw [Lib.decDigits_one (by omega), show m % 10 = m by omega]
  rfl
theorem ba_app (x : UInt8) (s : List UInt8) : (⟨[x].toArray⟩ : ByteArray) ++ (⟨s.toArray⟩ : ByteArray) = ⟨(x :: s).toArray⟩ := by
  apply ByteArray.ext
  rw [ByteArray.data_append]
  simp

set_option maxRecDepth 100000 in
set_option maxHeartbeats 4000000 in
theorem rdigits_any (N : Nat) (hN : (N : Int) ≤ 9223372036854775807) (w : World) : Calls Tryd.prog 36 #[.int .i64 (N : Int)] w fun e w' => e = .returned (tx (Lib.itoa (N : Int))) ∧ Below w.heap.size w w' := by
  rw [Lib.itoa_nonneg]
  have BA := Lib.hid ba_app
  go_enter Tryd.func36, Tryd.ntmps36
  go_upto_region 2 with fail
  go_loopw [0, 3] (fun nv sv wr => ∃ (m : Nat) (s : List UInt8), m ≤ N ∧ nv = .int .i64 (m : Int) ∧ sv = tx s ∧ Hid (Lib.decDigits N = Lib.decDigits m ++ s) ∧ wr = w) (fun nv _ _ => (intOf nv).toNat)
  case atStart => exact ⟨N, [], Nat.le_refl _, rfl, rfl, Lib.hid (by simp), rfl⟩
  case round =>
    obtain ⟨m, s, hm, rfl, rfl, HD, rfl⟩ := hrel
    obtain ⟨k, hk⟩ : ∃ k, m % 10 = k := ⟨_, rfl⟩
    have k10 : k < 10 := by omega
    have h5 : Int.tmod (m : Int) 10 = (k : Int) := by rw [Int.tmod_eq_emod_of_nonneg (by omega)]; omega
    have h5' : (m : Int) % 10 = (k : Int) := by omega
    have h6 : Int.tdiv (m : Int) 10 = ((m / 10 : Nat) : Int) := by rw [Int.tdiv_eq_ediv_of_nonneg (by omega)]; omega
    have kc := fun W => conv_dig W k k10
    have BA1 := BA.out (UInt8.ofNat (48 + k)) s
    have DE : Hid (m / 10 = 0 → Lib.decDigits m ++ s = UInt8.ofNat (48 + k) :: s) := Lib.hid (fun h => by rw [← hk]; exact dec_end s h)
    have DL : Hid (¬ m / 10 = 0 → Lib.decDigits m ++ s = Lib.decDigits (m / 10) ++ (UInt8.ofNat (48 + k) :: s)) := Lib.hid (fun h => by rw [← hk]; exact dec_last s h)
    have hs : s.length ≤ 21 := by
      have h1 := Lib.itoa_length_le (N : Int) (by omega) hN
      rw [Lib.itoa_nonneg, HD.out, List.length_append] at h1
      omega
    have hov : ¬ 9223372036854775807 < 1 + s.length := by omega
    generalize UInt8.ofNat (48 + k) = u at *
    by_cases hz : m / 10 = 0
    · have hR := Lib.hid (DE.out hz)
      have h7 : (((m / 10 : Nat) : Int) == 0) = true := by rw [hz]; rfl
      clear DE DL
      go_wp2_with fail
      go_ret
      exact ⟨by rw [HD.out, hR.out]; rfl, Below.refl _ _⟩
    · have hR := Lib.hid (DL.out hz)
      have h7 : (((m / 10 : Nat) : Int) == 0) = false := by rw [beq_eq_false_iff_ne]; omega
      clear DE DL
      go_wp2_with fail
      go_roundw
      case rel => exact ⟨m / 10, u :: s, by omega, rfl, rfl, Lib.hid (by rw [HD.out, hR.out]), by trivial⟩
      case measure => simp [intOf]; omega
end Go.Proofs.YtblcfjliabeaiaaDoor
