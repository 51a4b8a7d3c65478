/-
  Values as they lie in memory: when two are the same, and the calls that make them.
-/
import Derived.Test.YtndkoefchlclkaaRead5
import Derived.ChangeKeysEq
import Derived.Laws.StructEq
import Derived.Laws.EntriesVeiled
import Derived.Laws.ResultCell
import Derived.Deep.Cut
import Derived.Deep.RegionHeld3
namespace Go.Proofs.Ytndkoefchlclkaa
open Go.RowKit

def E0 : ByteArray := { data := #[] }

theorem u23 : Try.prog.underlying 23 = some (.struct (Try.prog.fieldsOf 23)) := by kernel_rfl
theorem st23 : Try.prog.stoodInHeld 23 = false := by kernel_rfl
theorem i23 : (Try.prog.info? 23).map (·.size) = some 3 := by kernel_rfl
theorem g23 : Try.prog.eqGuardType Try.prog.depth 23 = false := by kernel_rfl
theorem f23 : (Try.prog.fieldsOf 23).toList = [⟨"Kind", 3, 0, false, "", "", 0⟩, ⟨"Num", 2, 1, false, "", "", 8⟩, ⟨"Text", 9, 2, false, "", "", 16⟩] := by kernel_rfl

theorem same_str (a b : ByteArray) : (a.toList == b.toList) = decide (a = b) := by
  rw [← beq_toListBytes]
  obtain ⟨⟨x⟩⟩ := a
  obtain ⟨⟨y⟩⟩ := b
  show ((⟨x⟩ : Array UInt8) == ⟨y⟩) = _
  rw [Bool.eq_iff_iff]
  simp

theorem part_int (w : World) (t : TypeId) (k : IntKind) (h : Try.prog.underlying t = some (.int k)) (xs : Array Value) (i : Nat) (v : Value) (hv : xs[i]? = some v) : (part t xs i).run Try.prog w = .ok v w := by
  simp [part, isAgg, run_underlying h, hv]
theorem part_str (w : World) (t : TypeId) (h : Try.prog.underlying t = some .string) (xs : Array Value) (i : Nat) (v : Value) (hv : xs[i]? = some v) : (part t xs i).run Try.prog w = .ok v w := by
  simp [part, isAgg, run_underlying h, hv]

theorem eqVin (w : World) (k n : Int) (s : ByteArray) (k' n' : Int) (s' : ByteArray) :
    (Op.equalIn 10000 23 (.agg #[.int .i64 k, .int .i64 n, .string s]) (.agg #[.int .i64 k', .int .i64 n', .string s'])).run Try.prog w = .ok (decide (k = k' ∧ n = n' ∧ s = s')) w := by
  have p1 := fun xs i v hv => part_int w 3 .i64 Try.underlying3 xs i v hv
  have p2 := fun xs i v hv => part_int w 2 .i64 Try.underlying2 xs i v hv
  have p3 := fun xs i v hv => part_str w 9 Try.underlying9 xs i v hv
  have q1 : (Op.equalIn 9999 3 (.int .i64 k) (.int .i64 k')).run Try.prog w = .ok (k == k') w := run_equalIn_int w 9998 3 .i64 .i64 k k' Try.underlying3
  have q2 : (Op.equalIn 9999 2 (.int .i64 n) (.int .i64 n')).run Try.prog w = .ok (n == n') w := run_equalIn_int w 9998 2 .i64 .i64 n n' Try.underlying2
  have q3 : (Op.equalIn 9999 9 (.string s) (.string s')).run Try.prog w = .ok (decide (s = s')) w := by rw [← same_str]; exact run_equalIn_string w 9998 9 s s' Try.underlying9
  rw [run_equalIn_struct w 9999 23 _ _ u23 st23, f23]
  unfold Op.eqFields
  rw [if_pos (by decide), Sem.run_bind, p1 _ 0 (.int .i64 k) rfl, Result.andThen_ok, Sem.run_bind, p1 _ 0 (.int .i64 k') rfl, Result.andThen_ok, Sem.run_bind, q1, Result.andThen_ok]
  by_cases h1 : k = k'
  · subst h1
    rw [if_neg (by simp)]
    unfold Op.eqFields
    rw [if_pos (by decide), Sem.run_bind, p2 _ 1 (.int .i64 n) rfl, Result.andThen_ok, Sem.run_bind, p2 _ 1 (.int .i64 n') rfl, Result.andThen_ok, Sem.run_bind, q2, Result.andThen_ok]
    by_cases h2 : n = n'
    · subst h2
      rw [if_neg (by simp)]
      unfold Op.eqFields
      rw [if_pos (by decide), Sem.run_bind, p3 _ 2 (.string s) rfl, Result.andThen_ok, Sem.run_bind, p3 _ 2 (.string s') rfl, Result.andThen_ok, Sem.run_bind, q3, Result.andThen_ok]
      by_cases h3 : s = s'
      · subst h3
        rw [if_neg (by simp)]
        simp [Op.eqFields]
      · rw [if_pos (by simp [h3])]
        simp [h3]
    · rw [if_pos (by simp [h2])]
      simp [h2]
  · rw [if_pos (by simp [h1])]
    simp [h1]
/-- Are two values the same? -/
def Eqv (k n : Int) (s : ByteArray) (k' n' : Int) (s' : ByteArray) : Bool := decide (k = k' ∧ n = n' ∧ s = s')
theorem eqV (w : World) (k n : Int) (s : ByteArray) (k' n' : Int) (s' : ByteArray) :
    (binOp .eql 23 (.agg #[.int .i64 k, .int .i64 n, .string s]) (.agg #[.int .i64 k', .int .i64 n', .string s'])).run Try.prog w = .ok (.bool (Eqv k n s k' n' s')) w := by
  rw [run_eql_struct, eqVin]
  rfl
theorem neV (w : World) (k n : Int) (s : ByteArray) (k' n' : Int) (s' : ByteArray) :
    (binOp .neq 23 (.agg #[.int .i64 k, .int .i64 n, .string s]) (.agg #[.int .i64 k', .int .i64 n', .string s'])).run Try.prog w = .ok (.bool (!Eqv k n s k' n' s')) w := by
  rw [run_neq_struct, eqVin]
  rfl
theorem eqG (op : BinOp) (x y : Operand) (xs ys : Array Value) (w : World) : (eqGuard op 23 x y (.agg xs) (.agg ys)).run Try.prog w = .ok () w := run_eqGuard_agg w op 23 x y xs ys g23

theorem ret23 {fn : Func} {p : Tmp} (h : fn.results = #[.cell p 23]) (tmps : Array Value) (w : World) (g : Nat) (a b c : Value)
    (hp : tmps.getD p undef = .pointer (some ⟨g, 0, none⟩)) (hg : Blk w g 23 #[a, b, c]) : (results fn tmps).run Try.prog w = .ok (.agg #[a, b, c]) w :=
  results_cell_row h tmps w g 23 #[a, b, c] (0, 0) _ hp hg Try.underlying23 rfl i23

theorem Blk.fresh {w : World} {t : TypeId} {cs : Array Value} {n : Nat} (h : n = w.heap.size) : Blk (w.alloc (.cells cs t)) n t cs := by subst h; exact Blk.new w t cs

theorem null_any (w : World) : Calls Try.prog 15 #[] w fun e w' => e = .returned (.agg #[.int .i64 1, .int .i64 0, .string E0]) ∧ Below w.heap.size w w' := by
  go_enter Try.func15, Try.ntmps15
  go_wp2
  exact bodyPost_ret (ret23 rfl _ _ w.heap.size _ _ _ rfl (Blk.fresh rfl)) rfl ⟨rfl, (Below.refl _ w).alloc (Nat.le_refl _) _⟩

theorem int_any (n : Int) (w : World) : Calls Try.prog 16 #[.int .i64 n] w fun e w' => e = .returned (.agg #[.int .i64 3, .int .i64 n, .string E0]) ∧ Below w.heap.size w w' := by
  go_enter Try.func16, Try.ntmps16
  go_wp2
  exact bodyPost_ret (ret23 rfl _ _ w.heap.size _ _ _ rfl (Blk.fresh rfl)) rfl ⟨rfl, (Below.refl _ w).alloc (Nat.le_refl _) _⟩

theorem text_any (s : ByteArray) (w : World) : Calls Try.prog 17 #[.string s] w fun e w' => e = .returned (.agg #[.int .i64 4, .int .i64 0, .string s]) ∧ Below w.heap.size w w' := by
  go_enter Try.func17, Try.ntmps17
  go_wp2
  exact bodyPost_ret (ret23 rfl _ _ w.heap.size _ _ _ rfl (Blk.fresh rfl)) rfl ⟨rfl, (Below.refl _ w).alloc (Nat.le_refl _) _⟩

def b2i (b : Bool) : Int := if b = true then 1 else 0

theorem bool_any (b : Bool) (w : World) : Calls Try.prog 18 #[.bool b] w fun e w' => e = .returned (.agg #[.int .i64 2, .int .i64 (b2i b), .string E0]) ∧ Below w.heap.size w w' := by
  cases b
  all_goals
    go_enter Try.func18, Try.ntmps18
    go_wp2
  all_goals exact bodyPost_ret (ret23 rfl _ _ w.heap.size _ _ _ rfl ((Blk.fresh rfl).alloc _)) rfl ⟨rfl, ((Below.refl _ w).alloc (Nat.le_refl _) _).alloc (by simp) _⟩

end Go.Proofs.Ytndkoefchlclkaa
