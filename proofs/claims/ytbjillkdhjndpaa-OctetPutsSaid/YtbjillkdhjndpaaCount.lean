/-
  What the program's Count and the document's Count answer.
-/
import Derived.Test.YtbjillkdhjndpaaProg
import Derived.WalkKit
import Derived.WalkSpells
import Derived.WalkLawsBesides
import Derived.Lib.Hide
import Derived.Test.YtbjillkdhjndpaaWords
namespace Go.Proofs.Ytbjillkdhjndpaa
open Go.RowKit

set_option maxHeartbeats 400000 in
theorem count_any (A : Option Addr) (n c : Nat) (zs : List Int) (x : Int) (w : World) (B : Nat) (h : By w B A n zs) (hn : n ≤ 140737488355328) :
    Calls Try.prog 19 #[.slice A n c, .int .u8 x] w fun e w' => e = .returned (.int .i64 (cnt x zs)) ∧ w = w' := by
  have hl := Lib.hid h.1
  go_enter Try.func19, Try.ntmps19
  go_wp2
  go_loop [5, 10] (fun t i => ∃ k : Nat, k ≤ n ∧ i = .int .i64 k ∧ t = .int .i64 (cnt x (zs.take k))) (fun _ i => n - (intOf i).toNat)
  case atStart => exact ⟨0, Nat.zero_le _, rfl, rfl⟩
  case round =>
    obtain ⟨k, hk, rfl, rfl⟩ := hrel
    by_cases hlt : k < n
    · obtain ⟨b, o, rfl, hb, hc⟩ := h.2.2 (by omega)
      have hcell := hc k hlt
      have hs := Lib.hid (cnt_snoc x zs k (by rw [hl.out]; exact hlt))
      have hle : cnt x (zs.take k) ≤ n := Nat.le_trans (cnt_le _ _) (by rw [List.length_take]; omega)
      clear hc h
      go_wp2
      all_goals
        go_round
        case rel => exact ⟨k + 1, by omega, by go_num, by rw [hs.out]; simp_all⟩
        case measure => simp [intOf]; omega
    · go_wp2
      go_ret
      exact ⟨ret_int (by rw [List.take_of_length_le (by rw [hl.out]; omega)]), rfl⟩

end Go.Proofs.Ytbjillkdhjndpaa
