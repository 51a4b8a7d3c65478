/-
  The document's Fields, Counts, zero.
-/
import Derived.Test.YtemfnckaehjhcaaDoorF8
import Derived.Test.YtemfnckaehjhcaaDoorFV2
import Derived.WalkLawsBesides
import Derived.WalkSpells
namespace Go.Proofs.YtemfnckaehjhcaaDoor
open Go.RowKit
attribute [local go_sem ↓] eqA neA eqGA field1

def fstB (k : Int) : ByteArray := if k = 1 then ⟨#[112]⟩ else if k = 2 then ⟨#[111]⟩ else if k = 3 then ⟨#[112, 99, 101]⟩ else if k = 4 then ⟨#[111, 112]⟩ else if k = 5 then ⟨#[112, 109, 100]⟩ else ⟨#[]⟩
theorem fstB_size (k : Int) : (fstB k).size ≤ 3 := by
  unfold fstB
  repeat' split
  all_goals decide
set_option maxHeartbeats 1000000 in
theorem fields7_any (k : Int) (w : World) : Calls Tryd.prog 33 #[.int .i64 k] w fun e w' => e = .returned (.string (fstB k)) ∧ w = w' := by
  by_cases h1 : k < 1
  · have e : fstB k = ⟨#[]⟩ := by unfold fstB; rw [if_neg (by omega), if_neg (by omega), if_neg (by omega), if_neg (by omega), if_neg (by omega)]
    rw [e]
    go_enter Tryd.func33, Tryd.ntmps33
    go_wp2
    go_ret
    exact ⟨rfl, rfl⟩
  by_cases h5 : 5 < k
  · have e : fstB k = ⟨#[]⟩ := by unfold fstB; rw [if_neg (by omega), if_neg (by omega), if_neg (by omega), if_neg (by omega), if_neg (by omega)]
    rw [e]
    go_enter Tryd.func33, Tryd.ntmps33
    go_wp2
    go_ret
    exact ⟨rfl, rfl⟩
  rcases (show k = 1 ∨ k = 2 ∨ k = 3 ∨ k = 4 ∨ k = 5 by omega) with rfl | rfl | rfl | rfl | rfl
  · have ix : ∀ (w : World), (Instr.index 85 (.agg #[.string ⟨#[112]⟩, .string ⟨#[111]⟩, .string ⟨#[112, 99, 101]⟩, .string ⟨#[111, 112]⟩, .string ⟨#[112, 109, 100]⟩]) (.int .i64 0)).run Tryd.prog w = .ok (.string ⟨#[112]⟩) w := fun w => by kernel_rfl
    rw [show fstB 1 = ⟨#[112]⟩ from rfl]
    clear h1 h5
    go_enter Tryd.func33, Tryd.ntmps33
    go_wp2
    go_ret
    exact ⟨rfl, rfl⟩
  · have ix : ∀ (w : World), (Instr.index 85 (.agg #[.string ⟨#[112]⟩, .string ⟨#[111]⟩, .string ⟨#[112, 99, 101]⟩, .string ⟨#[111, 112]⟩, .string ⟨#[112, 109, 100]⟩]) (.int .i64 1)).run Tryd.prog w = .ok (.string ⟨#[111]⟩) w := fun w => by kernel_rfl
    rw [show fstB 2 = ⟨#[111]⟩ from rfl]
    clear h1 h5
    go_enter Tryd.func33, Tryd.ntmps33
    go_wp2
    go_ret
    exact ⟨rfl, rfl⟩
  · have ix : ∀ (w : World), (Instr.index 85 (.agg #[.string ⟨#[112]⟩, .string ⟨#[111]⟩, .string ⟨#[112, 99, 101]⟩, .string ⟨#[111, 112]⟩, .string ⟨#[112, 109, 100]⟩]) (.int .i64 2)).run Tryd.prog w = .ok (.string ⟨#[112, 99, 101]⟩) w := fun w => by kernel_rfl
    rw [show fstB 3 = ⟨#[112, 99, 101]⟩ from rfl]
    clear h1 h5
    go_enter Tryd.func33, Tryd.ntmps33
    go_wp2
    go_ret
    exact ⟨rfl, rfl⟩
  · have ix : ∀ (w : World), (Instr.index 85 (.agg #[.string ⟨#[112]⟩, .string ⟨#[111]⟩, .string ⟨#[112, 99, 101]⟩, .string ⟨#[111, 112]⟩, .string ⟨#[112, 109, 100]⟩]) (.int .i64 3)).run Tryd.prog w = .ok (.string ⟨#[111, 112]⟩) w := fun w => by kernel_rfl
    rw [show fstB 4 = ⟨#[111, 112]⟩ from rfl]
    clear h1 h5
    go_enter Tryd.func33, Tryd.ntmps33
    go_wp2
    go_ret
    exact ⟨rfl, rfl⟩
  · have ix : ∀ (w : World), (Instr.index 85 (.agg #[.string ⟨#[112]⟩, .string ⟨#[111]⟩, .string ⟨#[112, 99, 101]⟩, .string ⟨#[111, 112]⟩, .string ⟨#[112, 109, 100]⟩]) (.int .i64 4)).run Tryd.prog w = .ok (.string ⟨#[112, 109, 100]⟩) w := fun w => by kernel_rfl
    rw [show fstB 5 = ⟨#[112, 109, 100]⟩ from rfl]
    clear h1 h5
    go_enter Tryd.func33, Tryd.ntmps33
    go_wp2
    go_ret
    exact ⟨rfl, rfl⟩

def hitB (s : ByteArray) (c : Int) : Bool := s.data.toList.any fun b => (b.toNat : Int) == c
theorem hitB_yes {s : ByteArray} {c : Int} {j : Nat} (h : j < s.size) (e : (s[j].toNat : Int) = c) : hitB s c = true := by
  unfold hitB
  rw [List.any_eq_true]
  exact ⟨s[j], by rw [Array.mem_toList_iff]; exact Array.getElem_mem (xs := s.data) h, by simpa using e⟩
theorem hitB_no {s : ByteArray} {c : Int} (h : ∀ j (hj : j < s.size), ¬ (s[j].toNat : Int) = c) : hitB s c = false := by
  unfold hitB
  rw [List.any_eq_false]
  intro x hx
  obtain ⟨j, hj, rfl⟩ := List.getElem_of_mem hx
  have := h j (by simpa using hj)
  rw [Array.getElem_toList, beq_iff_eq]
  exact this
/-- The letters of the fields. -/
def ltr (i : Nat) : Int := if i = 0 then 111 else if i = 1 then 112 else if i = 2 then 99 else if i = 3 then 101 else if i = 4 then 109 else 100
theorem hit_cnt (k : Int) (i : Nat) (hi : i < 6) : hitB (fstB k) (ltr i) = decide (cntg k / 2 ^ i % 2 = 1) := by
  unfold fstB cntg
  rcases (show i = 0 ∨ i = 1 ∨ i = 2 ∨ i = 3 ∨ i = 4 ∨ i = 5 by omega) with rfl | rfl | rfl | rfl | rfl | rfl <;>
  · by_cases h1 : k = 1
    · simp only [if_pos h1]; decide
    · simp only [if_neg h1]
      by_cases h2 : k = 2
      · simp only [if_pos h2]; decide
      · simp only [if_neg h2]
        by_cases h3 : k = 3
        · simp only [if_pos h3]; decide
        · simp only [if_neg h3]
          by_cases h4 : k = 4
          · simp only [if_pos h4]; decide
          · simp only [if_neg h4]
            by_cases h5 : k = 5
            · simp only [if_pos h5]; decide
            · simp only [if_neg h5]; decide

set_option maxHeartbeats 1000000 in
theorem hits_any (k c : Int) (hc0 : 0 ≤ c) (hc1 : c ≤ 255) (w : World) : Calls Tryd.prog 54 #[.int .i64 k, .int .u8 c] w fun e w' => e = .returned (.bool (hitB (fstB k) c)) ∧ w = w' := by
  have F := Lib.hid (fun w => fields7_any k w)
  have hs3 := fstB_size k
  generalize fstB k = s at *
  have hs : (s.size : Int) ≤ 9223372036854775807 := by omega
  obtain ⟨R, hR⟩ : ∃ R, hitB s c = R := ⟨_, rfl⟩
  have Y := Lib.hid (fun j (hj : j < s.size) (e : (s[j].toNat : Int) = c) => hR.symm.trans (hitB_yes hj e))
  have N := Lib.hid (fun h => hR.symm.trans (hitB_no (s := s) (c := c) h))
  rw [hR]
  clear hR
  go_enter Tryd.func54, Tryd.ntmps54
  go_wp2_with (go_at_call 33; refine (F.out _).mono ?_; rintro e w' ⟨rfl, rfl⟩)
  go_loop [11] (fun i => ∃ j : Nat, j ≤ s.size ∧ i = .int .i64 (j : Int) ∧ Hid (∀ i (hi : i < s.size), i < j → ¬ (s[i].toNat : Int) = c)) (fun i => s.size - (intOf i).toNat)
  case atStart => exact ⟨0, Nat.zero_le _, rfl, Lib.hid (fun i _ h => absurd h (by omega))⟩
  case round =>
    obtain ⟨j, hj, rfl, HN⟩ := hrel
    by_cases hlt : j < s.size
    · by_cases he : (s[j].toNat : Int) = c
      · have hr := Y.out j hlt he
        have hq : ((s[j].toNat : Int) == c) = true := by simpa using he
        go_wp2
        go_ret
        exact ⟨rfl, rfl⟩
      · have hq : ((s[j].toNat : Int) == c) = false := by simpa using he
        have HN2 : Hid (∀ i (hi : i < s.size), i < j + 1 → ¬ (s[i].toNat : Int) = c) := Lib.hid (fun i hi hij => by
          rcases Nat.lt_or_ge i j with h | h
          · exact HN.out i hi h
          · obtain rfl : i = j := by omega
            exact he)
        clear he HN
        go_wp2
        go_round
        case rel => exact ⟨j + 1, by omega, by go_num, HN2⟩
        case measure => simp [intOf]; omega
    · obtain rfl : j = s.size := by omega
      have hr := N.out (fun i hi => HN.out i hi hi)
      go_wp2
      go_ret
      exact ⟨rfl, rfl⟩
theorem counts_any (k : Int) (i : Nat) (hi : i < 6) (w : World) : Calls Tryd.prog 54 #[.int .i64 k, .int .u8 (ltr i)] w fun e w' => e = .returned (.bool (decide (cntg k / 2 ^ i % 2 = 1))) ∧ w = w' := by
  have h := hits_any k (ltr i) (by unfold ltr; repeat' split; all_goals omega) (by unfold ltr; repeat' split; all_goals omega) w
  rw [hit_cnt k i hi] at h
  exact h

/-- Are all fields zero that do not count? -/
def zeroG (c0 c1 c2 c3 c4 c5 ok : Bool) (pi pt co : Int) (n n1 n2 : Nat) : Bool :=
  (c0 || !ok) && ((c1 || !(decide (0 < pi) || decide (0 < pt))) && ((c2 || !decide (0 < co)) && ((c3 || !decide (0 < n)) && ((c4 || !decide (0 < n1)) && (c5 || !decide (0 < n2))))))
set_option maxRecDepth 100000 in
set_option maxHeartbeats 8000000 in
theorem zero7_any (kind fr to t pi pt co : Int) (ok : Bool) (A : Option Addr) (n c : Nat) (A1 : Option Addr) (n1 c1 : Nat) (A2 : Option Addr) (n2 c2 : Nat) (w : World) (hn : n ≤ 100000) (hn1 : n1 ≤ 100000) (hn2 : n2 ≤ 100000) :
    Calls Tryd.prog 34 #[.agg #[.int .i64 kind, .int .i64 fr, .int .i64 to, .int .u64 t, .int .u64 pi, .int .u64 pt, .slice A n c, .int .u64 co, .bool ok, .slice A1 n1 c1, .slice A2 n2 c2]] w fun e w' => e = .returned (.bool (zeroG (decide (cntg kind / 2 ^ 0 % 2 = 1)) (decide (cntg kind / 2 ^ 1 % 2 = 1)) (decide (cntg kind / 2 ^ 2 % 2 = 1)) (decide (cntg kind / 2 ^ 3 % 2 = 1)) (decide (cntg kind / 2 ^ 4 % 2 = 1)) (decide (cntg kind / 2 ^ 5 % 2 = 1)) ok pi pt co n n1 n2)) ∧ Below w.heap.size w w' := by
  have X := Lib.hid (Bx.new_ kind fr to t pi pt co ok A n c A1 n1 c1 A2 n2 c2 w)
  have l0 : (0 : Int) ≤ (n : Int) := by omega
  have l1 : (0 : Int) ≤ (n1 : Int) := by omega
  have l2 : (0 : Int) ≤ (n2 : Int) := by omega
  have m0 : (n : Int) ≤ 100000 := by omega
  have m1 : (n1 : Int) ≤ 100000 := by omega
  have m2 : (n2 : Int) ≤ 100000 := by omega
  have CC := fun i (hi : i < 6) W => counts_any kind i hi W
  clear hn hn1 hn2
  rcases cntg_cases kind with hk | ⟨-, hk⟩ | ⟨-, hk⟩ | ⟨-, hk⟩ | ⟨-, hk⟩ | ⟨-, hk⟩
  · rw [hk] at CC ⊢
    have C0 : Hid (∀ W, Calls Tryd.prog 54 #[.int .i64 kind, .int .u8 111] W fun e w' => e = .returned (.bool false) ∧ W = w') := Lib.hid (fun W => CC 0 (by decide) W)
    have C1 : Hid (∀ W, Calls Tryd.prog 54 #[.int .i64 kind, .int .u8 112] W fun e w' => e = .returned (.bool false) ∧ W = w') := Lib.hid (fun W => CC 1 (by decide) W)
    have C2 : Hid (∀ W, Calls Tryd.prog 54 #[.int .i64 kind, .int .u8 99] W fun e w' => e = .returned (.bool false) ∧ W = w') := Lib.hid (fun W => CC 2 (by decide) W)
    have C3 : Hid (∀ W, Calls Tryd.prog 54 #[.int .i64 kind, .int .u8 101] W fun e w' => e = .returned (.bool false) ∧ W = w') := Lib.hid (fun W => CC 3 (by decide) W)
    have C4 : Hid (∀ W, Calls Tryd.prog 54 #[.int .i64 kind, .int .u8 109] W fun e w' => e = .returned (.bool false) ∧ W = w') := Lib.hid (fun W => CC 4 (by decide) W)
    have C5 : Hid (∀ W, Calls Tryd.prog 54 #[.int .i64 kind, .int .u8 100] W fun e w' => e = .returned (.bool false) ∧ W = w') := Lib.hid (fun W => CC 5 (by decide) W)
    rw [show zeroG (decide (0 / 2 ^ 0 % 2 = 1)) (decide (0 / 2 ^ 1 % 2 = 1)) (decide (0 / 2 ^ 2 % 2 = 1)) (decide (0 / 2 ^ 3 % 2 = 1)) (decide (0 / 2 ^ 4 % 2 = 1)) (decide (0 / 2 ^ 5 % 2 = 1)) ok pi pt co n n1 n2 = zeroG false false false false false false ok pi pt co n n1 n2 from rfl]
    clear hk CC
    go_enter Tryd.func34, Tryd.ntmps34
    go_upto_region 1 with (fail)
    generalize w.alloc (.cells #[.int .i64 kind, .int .i64 fr, .int .i64 to, .int .u64 t, .int .u64 pi, .int .u64 pt, .slice A n c, .int .u64 co, .bool ok, .slice A1 n1 c1, .slice A2 n2 c2] 31) = W at *
    obtain ⟨d0, d1, d2, d3, d4, d5, d6, d7, d8, d9, d10⟩ := X.out.cells
    go_wp2_with (first
      | (go_at_call 54; (with_reducible refine (C0.out _).mono ?_); rintro e w' ⟨rfl, rfl⟩)
      | (go_at_call 54; (with_reducible refine (C1.out _).mono ?_); rintro e w' ⟨rfl, rfl⟩)
      | (go_at_call 54; (with_reducible refine (C2.out _).mono ?_); rintro e w' ⟨rfl, rfl⟩)
      | (go_at_call 54; (with_reducible refine (C3.out _).mono ?_); rintro e w' ⟨rfl, rfl⟩)
      | (go_at_call 54; (with_reducible refine (C4.out _).mono ?_); rintro e w' ⟨rfl, rfl⟩)
      | (go_at_call 54; (with_reducible refine (C5.out _).mono ?_); rintro e w' ⟨rfl, rfl⟩))
    all_goals
      go_ret
      refine ⟨ret_bool ?_, X.out.bel⟩
      unfold zeroG
      first | (simp [*]; done) | (simp_all; done) | (simp_all <;> omega)
  · rw [hk] at CC ⊢
    have C0 : Hid (∀ W, Calls Tryd.prog 54 #[.int .i64 kind, .int .u8 111] W fun e w' => e = .returned (.bool false) ∧ W = w') := Lib.hid (fun W => CC 0 (by decide) W)
    have C1 : Hid (∀ W, Calls Tryd.prog 54 #[.int .i64 kind, .int .u8 112] W fun e w' => e = .returned (.bool true) ∧ W = w') := Lib.hid (fun W => CC 1 (by decide) W)
    have C2 : Hid (∀ W, Calls Tryd.prog 54 #[.int .i64 kind, .int .u8 99] W fun e w' => e = .returned (.bool false) ∧ W = w') := Lib.hid (fun W => CC 2 (by decide) W)
    have C3 : Hid (∀ W, Calls Tryd.prog 54 #[.int .i64 kind, .int .u8 101] W fun e w' => e = .returned (.bool false) ∧ W = w') := Lib.hid (fun W => CC 3 (by decide) W)
    have C4 : Hid (∀ W, Calls Tryd.prog 54 #[.int .i64 kind, .int .u8 109] W fun e w' => e = .returned (.bool false) ∧ W = w') := Lib.hid (fun W => CC 4 (by decide) W)
    have C5 : Hid (∀ W, Calls Tryd.prog 54 #[.int .i64 kind, .int .u8 100] W fun e w' => e = .returned (.bool false) ∧ W = w') := Lib.hid (fun W => CC 5 (by decide) W)
    rw [show zeroG (decide (2 / 2 ^ 0 % 2 = 1)) (decide (2 / 2 ^ 1 % 2 = 1)) (decide (2 / 2 ^ 2 % 2 = 1)) (decide (2 / 2 ^ 3 % 2 = 1)) (decide (2 / 2 ^ 4 % 2 = 1)) (decide (2 / 2 ^ 5 % 2 = 1)) ok pi pt co n n1 n2 = zeroG false true false false false false ok pi pt co n n1 n2 from rfl]
    clear hk CC
    go_enter Tryd.func34, Tryd.ntmps34
    go_upto_region 1 with (fail)
    generalize w.alloc (.cells #[.int .i64 kind, .int .i64 fr, .int .i64 to, .int .u64 t, .int .u64 pi, .int .u64 pt, .slice A n c, .int .u64 co, .bool ok, .slice A1 n1 c1, .slice A2 n2 c2] 31) = W at *
    obtain ⟨d0, d1, d2, d3, d4, d5, d6, d7, d8, d9, d10⟩ := X.out.cells
    go_wp2_with (first
      | (go_at_call 54; (with_reducible refine (C0.out _).mono ?_); rintro e w' ⟨rfl, rfl⟩)
      | (go_at_call 54; (with_reducible refine (C1.out _).mono ?_); rintro e w' ⟨rfl, rfl⟩)
      | (go_at_call 54; (with_reducible refine (C2.out _).mono ?_); rintro e w' ⟨rfl, rfl⟩)
      | (go_at_call 54; (with_reducible refine (C3.out _).mono ?_); rintro e w' ⟨rfl, rfl⟩)
      | (go_at_call 54; (with_reducible refine (C4.out _).mono ?_); rintro e w' ⟨rfl, rfl⟩)
      | (go_at_call 54; (with_reducible refine (C5.out _).mono ?_); rintro e w' ⟨rfl, rfl⟩))
    all_goals
      go_ret
      refine ⟨ret_bool ?_, X.out.bel⟩
      unfold zeroG
      first | (simp [*]; done) | (simp_all; done) | (simp_all <;> omega)
  · rw [hk] at CC ⊢
    have C0 : Hid (∀ W, Calls Tryd.prog 54 #[.int .i64 kind, .int .u8 111] W fun e w' => e = .returned (.bool true) ∧ W = w') := Lib.hid (fun W => CC 0 (by decide) W)
    have C1 : Hid (∀ W, Calls Tryd.prog 54 #[.int .i64 kind, .int .u8 112] W fun e w' => e = .returned (.bool false) ∧ W = w') := Lib.hid (fun W => CC 1 (by decide) W)
    have C2 : Hid (∀ W, Calls Tryd.prog 54 #[.int .i64 kind, .int .u8 99] W fun e w' => e = .returned (.bool false) ∧ W = w') := Lib.hid (fun W => CC 2 (by decide) W)
    have C3 : Hid (∀ W, Calls Tryd.prog 54 #[.int .i64 kind, .int .u8 101] W fun e w' => e = .returned (.bool false) ∧ W = w') := Lib.hid (fun W => CC 3 (by decide) W)
    have C4 : Hid (∀ W, Calls Tryd.prog 54 #[.int .i64 kind, .int .u8 109] W fun e w' => e = .returned (.bool false) ∧ W = w') := Lib.hid (fun W => CC 4 (by decide) W)
    have C5 : Hid (∀ W, Calls Tryd.prog 54 #[.int .i64 kind, .int .u8 100] W fun e w' => e = .returned (.bool false) ∧ W = w') := Lib.hid (fun W => CC 5 (by decide) W)
    rw [show zeroG (decide (1 / 2 ^ 0 % 2 = 1)) (decide (1 / 2 ^ 1 % 2 = 1)) (decide (1 / 2 ^ 2 % 2 = 1)) (decide (1 / 2 ^ 3 % 2 = 1)) (decide (1 / 2 ^ 4 % 2 = 1)) (decide (1 / 2 ^ 5 % 2 = 1)) ok pi pt co n n1 n2 = zeroG true false false false false false ok pi pt co n n1 n2 from rfl]
    clear hk CC
    go_enter Tryd.func34, Tryd.ntmps34
    go_upto_region 1 with (fail)
    generalize w.alloc (.cells #[.int .i64 kind, .int .i64 fr, .int .i64 to, .int .u64 t, .int .u64 pi, .int .u64 pt, .slice A n c, .int .u64 co, .bool ok, .slice A1 n1 c1, .slice A2 n2 c2] 31) = W at *
    obtain ⟨d0, d1, d2, d3, d4, d5, d6, d7, d8, d9, d10⟩ := X.out.cells
    go_wp2_with (first
      | (go_at_call 54; (with_reducible refine (C0.out _).mono ?_); rintro e w' ⟨rfl, rfl⟩)
      | (go_at_call 54; (with_reducible refine (C1.out _).mono ?_); rintro e w' ⟨rfl, rfl⟩)
      | (go_at_call 54; (with_reducible refine (C2.out _).mono ?_); rintro e w' ⟨rfl, rfl⟩)
      | (go_at_call 54; (with_reducible refine (C3.out _).mono ?_); rintro e w' ⟨rfl, rfl⟩)
      | (go_at_call 54; (with_reducible refine (C4.out _).mono ?_); rintro e w' ⟨rfl, rfl⟩)
      | (go_at_call 54; (with_reducible refine (C5.out _).mono ?_); rintro e w' ⟨rfl, rfl⟩))
    all_goals
      go_ret
      refine ⟨ret_bool ?_, X.out.bel⟩
      unfold zeroG
      first | (simp [*]; done) | (simp_all; done) | (simp_all <;> omega)
  · rw [hk] at CC ⊢
    have C0 : Hid (∀ W, Calls Tryd.prog 54 #[.int .i64 kind, .int .u8 111] W fun e w' => e = .returned (.bool false) ∧ W = w') := Lib.hid (fun W => CC 0 (by decide) W)
    have C1 : Hid (∀ W, Calls Tryd.prog 54 #[.int .i64 kind, .int .u8 112] W fun e w' => e = .returned (.bool true) ∧ W = w') := Lib.hid (fun W => CC 1 (by decide) W)
    have C2 : Hid (∀ W, Calls Tryd.prog 54 #[.int .i64 kind, .int .u8 99] W fun e w' => e = .returned (.bool true) ∧ W = w') := Lib.hid (fun W => CC 2 (by decide) W)
    have C3 : Hid (∀ W, Calls Tryd.prog 54 #[.int .i64 kind, .int .u8 101] W fun e w' => e = .returned (.bool true) ∧ W = w') := Lib.hid (fun W => CC 3 (by decide) W)
    have C4 : Hid (∀ W, Calls Tryd.prog 54 #[.int .i64 kind, .int .u8 109] W fun e w' => e = .returned (.bool false) ∧ W = w') := Lib.hid (fun W => CC 4 (by decide) W)
    have C5 : Hid (∀ W, Calls Tryd.prog 54 #[.int .i64 kind, .int .u8 100] W fun e w' => e = .returned (.bool false) ∧ W = w') := Lib.hid (fun W => CC 5 (by decide) W)
    rw [show zeroG (decide (14 / 2 ^ 0 % 2 = 1)) (decide (14 / 2 ^ 1 % 2 = 1)) (decide (14 / 2 ^ 2 % 2 = 1)) (decide (14 / 2 ^ 3 % 2 = 1)) (decide (14 / 2 ^ 4 % 2 = 1)) (decide (14 / 2 ^ 5 % 2 = 1)) ok pi pt co n n1 n2 = zeroG false true true true false false ok pi pt co n n1 n2 from rfl]
    clear hk CC
    go_enter Tryd.func34, Tryd.ntmps34
    go_upto_region 1 with (fail)
    generalize w.alloc (.cells #[.int .i64 kind, .int .i64 fr, .int .i64 to, .int .u64 t, .int .u64 pi, .int .u64 pt, .slice A n c, .int .u64 co, .bool ok, .slice A1 n1 c1, .slice A2 n2 c2] 31) = W at *
    obtain ⟨d0, d1, d2, d3, d4, d5, d6, d7, d8, d9, d10⟩ := X.out.cells
    go_wp2_with (first
      | (go_at_call 54; (with_reducible refine (C0.out _).mono ?_); rintro e w' ⟨rfl, rfl⟩)
      | (go_at_call 54; (with_reducible refine (C1.out _).mono ?_); rintro e w' ⟨rfl, rfl⟩)
      | (go_at_call 54; (with_reducible refine (C2.out _).mono ?_); rintro e w' ⟨rfl, rfl⟩)
      | (go_at_call 54; (with_reducible refine (C3.out _).mono ?_); rintro e w' ⟨rfl, rfl⟩)
      | (go_at_call 54; (with_reducible refine (C4.out _).mono ?_); rintro e w' ⟨rfl, rfl⟩)
      | (go_at_call 54; (with_reducible refine (C5.out _).mono ?_); rintro e w' ⟨rfl, rfl⟩))
    all_goals
      go_ret
      refine ⟨ret_bool ?_, X.out.bel⟩
      unfold zeroG
      first | (simp [*]; done) | (simp_all; done) | (simp_all <;> omega)
  · rw [hk] at CC ⊢
    have C0 : Hid (∀ W, Calls Tryd.prog 54 #[.int .i64 kind, .int .u8 111] W fun e w' => e = .returned (.bool true) ∧ W = w') := Lib.hid (fun W => CC 0 (by decide) W)
    have C1 : Hid (∀ W, Calls Tryd.prog 54 #[.int .i64 kind, .int .u8 112] W fun e w' => e = .returned (.bool true) ∧ W = w') := Lib.hid (fun W => CC 1 (by decide) W)
    have C2 : Hid (∀ W, Calls Tryd.prog 54 #[.int .i64 kind, .int .u8 99] W fun e w' => e = .returned (.bool false) ∧ W = w') := Lib.hid (fun W => CC 2 (by decide) W)
    have C3 : Hid (∀ W, Calls Tryd.prog 54 #[.int .i64 kind, .int .u8 101] W fun e w' => e = .returned (.bool false) ∧ W = w') := Lib.hid (fun W => CC 3 (by decide) W)
    have C4 : Hid (∀ W, Calls Tryd.prog 54 #[.int .i64 kind, .int .u8 109] W fun e w' => e = .returned (.bool false) ∧ W = w') := Lib.hid (fun W => CC 4 (by decide) W)
    have C5 : Hid (∀ W, Calls Tryd.prog 54 #[.int .i64 kind, .int .u8 100] W fun e w' => e = .returned (.bool false) ∧ W = w') := Lib.hid (fun W => CC 5 (by decide) W)
    rw [show zeroG (decide (3 / 2 ^ 0 % 2 = 1)) (decide (3 / 2 ^ 1 % 2 = 1)) (decide (3 / 2 ^ 2 % 2 = 1)) (decide (3 / 2 ^ 3 % 2 = 1)) (decide (3 / 2 ^ 4 % 2 = 1)) (decide (3 / 2 ^ 5 % 2 = 1)) ok pi pt co n n1 n2 = zeroG true true false false false false ok pi pt co n n1 n2 from rfl]
    clear hk CC
    go_enter Tryd.func34, Tryd.ntmps34
    go_upto_region 1 with (fail)
    generalize w.alloc (.cells #[.int .i64 kind, .int .i64 fr, .int .i64 to, .int .u64 t, .int .u64 pi, .int .u64 pt, .slice A n c, .int .u64 co, .bool ok, .slice A1 n1 c1, .slice A2 n2 c2] 31) = W at *
    obtain ⟨d0, d1, d2, d3, d4, d5, d6, d7, d8, d9, d10⟩ := X.out.cells
    go_wp2_with (first
      | (go_at_call 54; (with_reducible refine (C0.out _).mono ?_); rintro e w' ⟨rfl, rfl⟩)
      | (go_at_call 54; (with_reducible refine (C1.out _).mono ?_); rintro e w' ⟨rfl, rfl⟩)
      | (go_at_call 54; (with_reducible refine (C2.out _).mono ?_); rintro e w' ⟨rfl, rfl⟩)
      | (go_at_call 54; (with_reducible refine (C3.out _).mono ?_); rintro e w' ⟨rfl, rfl⟩)
      | (go_at_call 54; (with_reducible refine (C4.out _).mono ?_); rintro e w' ⟨rfl, rfl⟩)
      | (go_at_call 54; (with_reducible refine (C5.out _).mono ?_); rintro e w' ⟨rfl, rfl⟩))
    all_goals
      go_ret
      refine ⟨ret_bool ?_, X.out.bel⟩
      unfold zeroG
      first | (simp [*]; done) | (simp_all; done) | (simp_all <;> omega)
  · rw [hk] at CC ⊢
    have C0 : Hid (∀ W, Calls Tryd.prog 54 #[.int .i64 kind, .int .u8 111] W fun e w' => e = .returned (.bool false) ∧ W = w') := Lib.hid (fun W => CC 0 (by decide) W)
    have C1 : Hid (∀ W, Calls Tryd.prog 54 #[.int .i64 kind, .int .u8 112] W fun e w' => e = .returned (.bool true) ∧ W = w') := Lib.hid (fun W => CC 1 (by decide) W)
    have C2 : Hid (∀ W, Calls Tryd.prog 54 #[.int .i64 kind, .int .u8 99] W fun e w' => e = .returned (.bool false) ∧ W = w') := Lib.hid (fun W => CC 2 (by decide) W)
    have C3 : Hid (∀ W, Calls Tryd.prog 54 #[.int .i64 kind, .int .u8 101] W fun e w' => e = .returned (.bool false) ∧ W = w') := Lib.hid (fun W => CC 3 (by decide) W)
    have C4 : Hid (∀ W, Calls Tryd.prog 54 #[.int .i64 kind, .int .u8 109] W fun e w' => e = .returned (.bool true) ∧ W = w') := Lib.hid (fun W => CC 4 (by decide) W)
    have C5 : Hid (∀ W, Calls Tryd.prog 54 #[.int .i64 kind, .int .u8 100] W fun e w' => e = .returned (.bool true) ∧ W = w') := Lib.hid (fun W => CC 5 (by decide) W)
    rw [show zeroG (decide (50 / 2 ^ 0 % 2 = 1)) (decide (50 / 2 ^ 1 % 2 = 1)) (decide (50 / 2 ^ 2 % 2 = 1)) (decide (50 / 2 ^ 3 % 2 = 1)) (decide (50 / 2 ^ 4 % 2 = 1)) (decide (50 / 2 ^ 5 % 2 = 1)) ok pi pt co n n1 n2 = zeroG false true false false true true ok pi pt co n n1 n2 from rfl]
    clear hk CC
    go_enter Tryd.func34, Tryd.ntmps34
    go_upto_region 1 with (fail)
    generalize w.alloc (.cells #[.int .i64 kind, .int .i64 fr, .int .i64 to, .int .u64 t, .int .u64 pi, .int .u64 pt, .slice A n c, .int .u64 co, .bool ok, .slice A1 n1 c1, .slice A2 n2 c2] 31) = W at *
    obtain ⟨d0, d1, d2, d3, d4, d5, d6, d7, d8, d9, d10⟩ := X.out.cells
    go_wp2_with (first
      | (go_at_call 54; (with_reducible refine (C0.out _).mono ?_); rintro e w' ⟨rfl, rfl⟩)
      | (go_at_call 54; (with_reducible refine (C1.out _).mono ?_); rintro e w' ⟨rfl, rfl⟩)
      | (go_at_call 54; (with_reducible refine (C2.out _).mono ?_); rintro e w' ⟨rfl, rfl⟩)
      | (go_at_call 54; (with_reducible refine (C3.out _).mono ?_); rintro e w' ⟨rfl, rfl⟩)
      | (go_at_call 54; (with_reducible refine (C4.out _).mono ?_); rintro e w' ⟨rfl, rfl⟩)
      | (go_at_call 54; (with_reducible refine (C5.out _).mono ?_); rintro e w' ⟨rfl, rfl⟩))
    all_goals
      go_ret
      refine ⟨ret_bool ?_, X.out.bel⟩
      unfold zeroG
      first | (simp [*]; done) | (simp_all; done) | (simp_all <;> omega)
end Go.Proofs.YtemfnckaehjhcaaDoor
