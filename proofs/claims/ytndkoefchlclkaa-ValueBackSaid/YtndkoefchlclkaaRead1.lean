/-
  What a Reader answers: Read, At, Left, Err, sound.
-/
import Derived.Test.YtndkoefchlclkaaProg
import Derived.WalkKit
import Derived.WalkSpells
import Derived.WalkLawsBesides
import Derived.Lib.Hide
import Derived.Deep.QuietTactic
import Derived.BigQuiet
import Derived.Test.YtndkoefchlclkaaWords
namespace Go.Proofs.Ytndkoefchlclkaa
open Go.RowKit

/-- A Reader at block p: its place, its error, its bytes. -/
def Rd (w : World) (p : Nat) (at_ er : Int) (A : Option Addr) (n c : Nat) : Prop := Blk w p 102 #[.int .i64 at_, .int .i64 er, .slice A n c]

theorem Rd.c0 {w : World} {p : Nat} {a e : Int} {A : Option Addr} {n c : Nat} (h : Rd w p a e A n c) : w.cell? ⟨p, 0, none⟩ = some (.int .i64 a) := Blk.cell h 0
theorem Rd.c1 {w : World} {p : Nat} {a e : Int} {A : Option Addr} {n c : Nat} (h : Rd w p a e A n c) : w.cell? ⟨p, 1, none⟩ = some (.int .i64 e) := Blk.cell h 1
theorem Rd.c2 {w : World} {p : Nat} {a e : Int} {A : Option Addr} {n c : Nat} (h : Rd w p a e A n c) : w.cell? ⟨p, 2, none⟩ = some (.slice A n c) := Blk.cell h 2

theorem read_any (A : Option Addr) (n c : Nat) (w : World) :
    Calls Try.prog 55 #[.slice A n c] w fun e w' => e = .returned (.pointer (some ⟨w.heap.size, 0, none⟩)) ∧ w' = w.alloc (.cells #[.int .i64 0, .int .i64 0, .slice A n c] 102) := by
  go_enter Try.func55, Try.ntmps55
  go_wp2
  go_ret
  exact ⟨rfl, rfl⟩

theorem at_nil (w : World) : Calls Try.prog 58 #[.pointer none] w fun e w' => e = .returned (.int .i64 0) ∧ w = w' := by
  go_enter Try.func58, Try.ntmps58
  go_wp2
  go_ret
  exact ⟨rfl, rfl⟩

theorem at_any (p : Nat) (a e : Int) (A : Option Addr) (n c : Nat) (w : World) (h : Rd w p a e A n c) :
    Calls Try.prog 58 #[.pointer (some ⟨p, 0, none⟩)] w fun e w' => e = .returned (.int .i64 a) ∧ w = w' := by
  have h0 := h.c0
  go_enter Try.func58, Try.ntmps58
  go_wp2
  go_ret
  exact ⟨rfl, rfl⟩

theorem err_nil (w : World) : Calls Try.prog 57 #[.pointer none] w fun e w' => e = .returned (.int .i64 1) ∧ w = w' := by
  go_enter Try.func57, Try.ntmps57
  go_wp2
  go_ret
  exact ⟨rfl, rfl⟩

theorem err_any (p : Nat) (a er : Int) (A : Option Addr) (n c : Nat) (w : World) (h : Rd w p a er A n c) :
    Calls Try.prog 57 #[.pointer (some ⟨p, 0, none⟩)] w fun e w' => e = .returned (.int .i64 er) ∧ w = w' := by
  have h0 := h.c1
  go_enter Try.func57, Try.ntmps57
  go_wp2
  go_ret
  exact ⟨rfl, rfl⟩

theorem left_nil (w : World) : Calls Try.prog 88 #[.pointer none] w fun e w' => e = .returned (.int .i64 0) ∧ w = w' := by
  go_enter Try.func88, Try.ntmps88
  go_wp2
  go_ret
  exact ⟨rfl, rfl⟩

theorem left_any (p k : Nat) (er : Int) (A : Option Addr) (n c : Nat) (w : World) (h : Rd w p k er A n c) (hk : k ≤ n) (hn : n ≤ 140737488355328) :
    Calls Try.prog 88 #[.pointer (some ⟨p, 0, none⟩)] w fun e w' => e = .returned (.int .i64 (n - k)) ∧ ∃ m, w' = w.drewN m := by
  have h0 := h.c0
  have h2 := h.c2
  have hw : IntKind.i64.wrap ((n : Int) - k) = (n : Int) - k := IntWalk.i64_in _ (by omega)
  clear h
  go_enter Try.func88, Try.ntmps88
  go_wp2
  go_quiet (fail)
  go_wp2
  go_ret
  exact ⟨rfl, _, rfl⟩

theorem sound_nil (w : World) : Calls Try.prog 87 #[.pointer none] w fun e w' => e = .returned (.bool false) ∧ w = w' := by
  go_enter Try.func87, Try.ntmps87
  go_wp2_with (go_at_call 57; refine (err_nil _).mono ?_; rintro e w' ⟨rfl, rfl⟩)
  go_ret
  exact ⟨rfl, rfl⟩

theorem sound_any (p : Nat) (a er : Int) (A : Option Addr) (n c : Nat) (w : World) (h : Rd w p a er A n c) :
    Calls Try.prog 87 #[.pointer (some ⟨p, 0, none⟩)] w fun e w' => e = .returned (.bool (er == 0)) ∧ w = w' := by
  go_enter Try.func87, Try.ntmps87
  go_wp2_with (go_at_call 57; refine (err_any _ _ _ _ _ _ _ h).mono ?_; rintro e w' ⟨rfl, rfl⟩)
  go_ret
  exact ⟨rfl, rfl⟩

end Go.Proofs.Ytndkoefchlclkaa
