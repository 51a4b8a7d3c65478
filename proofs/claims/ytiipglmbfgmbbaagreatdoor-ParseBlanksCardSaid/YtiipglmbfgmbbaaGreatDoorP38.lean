/-
  SELECT, behind its first word: plain words, and what stands there.
-/
import Derived.Test.YtiipglmbfgmbbaaGreatDoorP37
namespace Go.Proofs.YtiipglmbfgmbbaaGreatDoor
open Go.RowKit Go.Shelf
attribute [local go_sem] Oper.semAt_some

theorem u36 : Tryz.prog.underlying 36 = some (.struct (Tryz.prog.fieldsOf 36)) := by kernel_rfl
theorem st36 : Tryz.prog.stoodInHeld 36 = false := by kernel_rfl
theorem g36 : Tryz.prog.eqGuardType Tryz.prog.depth 36 = false := by kernel_rfl
theorem f36 : (Tryz.prog.fieldsOf 36).toList = [⟨"Table", 9, 0, false, "", "", 0⟩, ⟨"Name", 9, 1, false, "", "", 16⟩] := by kernel_rfl
theorem part_s (w : World) (t : TypeId) (h : Tryz.prog.underlying t = some .string) (xs : Array Value) (i : Nat) (v : Value) (hv : xs[i]? = some v) : (part t xs i).run Tryz.prog w = .ok v w := by
  simp [part, isAgg, run_underlying h, hv]
theorem un9 : Tryz.prog.underlying 9 = some .string := by kernel_rfl
theorem eq36in (w : World) (a b a' b' : ByteArray) : (Op.equalIn 10000 36 (.agg #[.string a, .string b]) (.agg #[.string a', .string b'])).run Tryz.prog w = .ok ((a.toList == a'.toList) && (b.toList == b'.toList)) w := by
  have p1 := fun xs i v hv => part_s w 9 un9 xs i v hv
  have q1 : (Op.equalIn 9999 9 (.string a) (.string a')).run Tryz.prog w = .ok (a.toList == a'.toList) w := run_equalIn_string w 9998 9 a a' un9
  have q2 : (Op.equalIn 9999 9 (.string b) (.string b')).run Tryz.prog w = .ok (b.toList == b'.toList) w := run_equalIn_string w 9998 9 b b' un9
  rw [run_equalIn_struct w 9999 36 _ _ u36 st36, f36]
  unfold Op.eqFields
  rw [if_pos (by decide), Sem.run_bind, p1 _ 0 (.string a) rfl, Result.andThen_ok, Sem.run_bind, p1 _ 0 (.string a') rfl, Result.andThen_ok, Sem.run_bind, q1, Result.andThen_ok]
  cases (a.toList == a'.toList) with
  | true =>
    rw [if_neg (by simp)]
    unfold Op.eqFields
    rw [if_pos (by decide), Sem.run_bind, p1 _ 1 (.string b) rfl, Result.andThen_ok, Sem.run_bind, p1 _ 1 (.string b') rfl, Result.andThen_ok, Sem.run_bind, q2, Result.andThen_ok]
    cases (b.toList == b'.toList) with
    | true =>
      rw [if_neg (by simp)]
      simp [Op.eqFields]
    | false =>
      rw [if_pos (by simp)]
      simp
  | false =>
    rw [if_pos (by simp)]
    simp
theorem eqG36 (op : BinOp) (x y : Operand) (xs ys : Array Value) (w : World) : (eqGuard op 36 x y (.agg xs) (.agg ys)).run Tryz.prog w = .ok () w := run_eqGuard_agg w op 36 x y xs ys g36
theorem empty_iff (u : List UInt8) : ((⟨u.toArray⟩ : ByteArray).toList == (⟨#[]⟩ : ByteArray).toList) = decide (u = []) := by
  cases u <;> simp
/-- Is a column's name empty, with its table's? -/
def EmP (a b : ByteArray) : Bool := (a.toList == (⟨#[]⟩ : ByteArray).toList) && (b.toList == (⟨#[]⟩ : ByteArray).toList)
theorem ne36 (w : World) (a b : ByteArray) : (binOp .neq 36 (.agg #[.string a, .string b]) (.agg #[.string ⟨#[]⟩, .string ⟨#[]⟩])).run Tryz.prog w = .ok (.bool (!EmP a b)) w := by
  rw [run_neq_struct, eq36in]
  rfl
theorem emp_iff {u v : List UInt8} {a b : ByteArray} (h : (⟨u.toArray⟩ : ByteArray) = a ∧ (⟨v.toArray⟩ : ByteArray) = b) : EmP a b = true ↔ u = [] ∧ v = [] := by
  obtain ⟨rfl, rfl⟩ := h
  unfold EmP
  rw [empty_iff, empty_iff]
  simp
section
variable (L : List Tk) (E : Nat) (o : Nat)
def chA2 (_n r : Nat) (s : Sm) : Rx Sm := rb (rwd L E r [[70, 82, 79, 77]]) fun _ r => rb (some (nameF L E r)) fun u r => rok { s with table := u } r
def chB2 (n r : Nat) (s : Sm) : Rx Sm := rb (rwd L E r [[74, 79, 73, 78]]) fun _ r => rb (some (nameF L E r)) fun u r => rb (rwd L E r [[79, 78]]) fun _ r => rb (exN L E n r o) fun ns r => rok { s with join := u, on := ns } r
def chRD (r : Nat) (s : Sm) : Rx Sm := rb (chD L E r s) fun s r => chE L E r s
def chRC (n r : Nat) (s : Sm) : Rx Sm := rb (chC L E o n r s) fun s r => chRD L E r s
def chRB (n r : Nat) (s : Sm) : Rx Sm := rb (chB L E o n r s) fun s r => chRC L E o n r s
theorem chA_mono (r : Nat) (s : Sm) : Mono (fun n => chA L E o n r s) := Mono.rb (Mono.ite (Mono.const _) (lsF_mono L E _ (itS_mono L E o) _ _)) fun _ _ => Mono.const _
theorem chB_mono (r : Nat) (s : Sm) : Mono (fun n => chB L E o n r s) := Mono.ite (Mono.rb (Mono.const _) fun _ _ => Mono.rb (Mono.const _) fun _ _ => Mono.rb (Mono.const _) fun _ _ => Mono.rb (exN_mono _ _ _ _) fun _ _ => Mono.const _) (Mono.const _)
theorem chC_mono (r : Nat) (s : Sm) : Mono (fun n => chC L E o n r s) := Mono.rb (exB_mono _ _ _ _ _) fun _ _ => Mono.const _
theorem chRC_mono (r : Nat) (s : Sm) : Mono (fun n => chRC L E o n r s) := Mono.rb (chC_mono L E o r s) fun _ _ => Mono.const _
theorem chRB_mono (r : Nat) (s : Sm) : Mono (fun n => chRB L E o n r s) := Mono.rb (chB_mono L E o r s) fun _ _ => chRC_mono L E o _ _
def chD2 (r : Nat) (s : Sm) : Rx Sm := if isB (tokAt L E r) [68, 69, 83, 67] = true then rok { s with desc := true } (r + 1) else rok { s with desc := false } r
theorem chE_one {r : Nat} {s : Sm} (hb : isB (tokAt L E r) [76, 73, 77, 73, 84] = true) : chE L E r s = rb (if ((tokAt L E (r + 1)).kind == 3) = true then rok (tokAt L E (r + 1)) (r + 1 + 1) else some (.error (210, r + 1))) fun t r => rok { s with limit := t.num } r := by
  unfold chE
  rw [if_pos hb]
  split <;> rfl
end
section
variable {w0 W : World} {K base q c E m r o g D b2 b3 : Nat} {A : Option Addr} {L : List Tk} {s : Sm} {x : Cx}
theorem Jx.foundB (h : Jx w0 K W base q A c L E m r o g D b2 b3 s x) {u : List UInt8} {b : Bool} {r' : Nat} (hb : isB (tokAt L E r) u = b) (hr : (if b = true then r + 1 else r) = r') :
    Calls Tryz.prog 82 #[.pointer (some ⟨q, 0, none⟩), tx u] W fun e w' => e = .returned (.bool b) ∧ Jx w0 K w' base q A c L E m r' o g D b2 b3 s x := by
  refine (h.found u).mono ?_
  rintro e w' ⟨h1, h2⟩
  rw [hb] at h1 h2
  rw [hr] at h2
  exact ⟨h1, h2⟩
theorem Jx.ordR (h : Jx w0 K W base q A c L E m r o g D b2 b3 s x) {T1 T2 : ByteArray} (hT : (⟨s.ot.toArray⟩ : ByteArray) = T1 ∧ (⟨s.on_.toArray⟩ : ByteArray) = T2) : W.rangeAt g 11 [.string T1, .string T2] := by
  obtain ⟨rfl, rfl⟩ := hT
  intro j v hj
  match j, hj with
  | 0, hj => rw [← hj]; exact h.bx.blk.cell 11
  | 1, hj => rw [← hj]; exact h.bx.blk.cell 12
  | j + 2, hj => simp at hj
end
end Go.Proofs.YtiipglmbfgmbbaaGreatDoor
