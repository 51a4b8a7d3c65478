/-
  A disk of the program's in memory, and what its counts answer.
-/
import Derived.Test.YtdhompiapklnaaaProg
import Derived.WalkKit
import Derived.WalkSpells
import Derived.WalkLawsBesides
import Derived.Lib.Hide
import Derived.Deep.QuietTactic
import Derived.BigQuiet
import Derived.Test.YtdhompiapklnaaaModel
namespace Go.Proofs.Ytdhompiapklnaaa
open Go.RowKit

/-- The cells of a disk. -/
def dcells (gs n cs : Nat) (vq : Value) (S : DSt) : Array Value := #[.slice (some ⟨gs, 0, none⟩) n cs, vq, .int .i64 S.armed, .int .i64 S.doomed, .bool S.dead, .int .i64 S.ops]

/-- At block p lies the disk S, its sectors in block gs; all of its blocks lie from base on. -/
structure Dk (w : World) (base p gs : Nat) (S : DSt) : Prop where
  own : ∃ cs vq, Blk w p 73 (dcells gs S.has.length cs vq S) ∧ Own w base 39 64 (.slice (some ⟨gs, 0, none⟩) S.has.length cs) S.has ∧ Own w base 86 65 vq (S.q.map put1)
  base : base ≤ p
  ok : S.ok

/-- What a disk's own steps turn: its blocks and new ones. -/
structure Fr (base p gs : Nat) (w w' : World) : Prop where
  os : w'.os = w.os
  tape : w'.tape = w.tape
  output : w'.output = w.output
  size : w.heap.size ≤ w'.heap.size
  block : ∀ i, i < w.heap.size → (i < base ∨ (i ≠ p ∧ i ≠ gs ∧ ∀ cs fr, w.heap[i]? ≠ some (.cells cs 86 fr))) → w'.heap[i]? = w.heap[i]?

section
variable {w w' w'' : World} {base p gs : Nat} {S : DSt}
theorem Fr.refl (base p gs : Nat) (w : World) : Fr base p gs w w := ⟨rfl, rfl, rfl, Nat.le_refl _, fun _ _ _ => rfl⟩
theorem Fr.trans (h : Fr base p gs w w') (k : Fr base p gs w' w'') : Fr base p gs w w'' :=
  ⟨k.os.trans h.os, k.tape.trans h.tape, k.output.trans h.output, Nat.le_trans h.size k.size, fun i hi hc => by
    have e := h.block i hi hc
    exact (k.block i (Nat.lt_of_lt_of_le hi h.size) (by rw [e]; exact hc)).trans e⟩
theorem Fr.of_below (h : Below w.heap.size w w') : Fr base p gs w w' := ⟨h.os, h.tape, h.output, h.size, fun i hi _ => h.block i hi⟩
theorem Fr.alloc (h : Fr base p gs w w') (o : Obj) : Fr base p gs w (w'.alloc o) := h.trans (.of_below ((Below.refl _ _).alloc (Nat.le_refl _) o))
theorem Fr.below (h : Fr base p gs w w') (hb : base ≤ w.heap.size) : Below base w w' := ⟨h.os, h.tape, h.output, h.size, fun i hi => h.block i (by omega) (.inl hi)⟩
theorem Fr.set (h : Fr base p gs w w') (hb : base ≤ p) (i : Nat) (u : Value) : Fr base p gs w (w'.setCell ⟨p, i, none⟩ u) :=
  h.trans ⟨rfl, rfl, rfl, by simp [World.setCell], fun i hi hc => Below.heap_setCell w' _ u i (by show i ≠ p; omega)⟩
theorem Fr.drew (h : Fr base p gs w w') (n : Nat) : Fr base p gs w (w'.drewN n) := ⟨h.os, h.tape, h.output, h.size, h.block⟩

theorem Dk.lt (h : Dk w base p gs S) : p < w.heap.size := by obtain ⟨cs, vq, hb, _⟩ := h.own; exact hb.lt
theorem Dk.keep (h : Dk w base p gs S) (hp : w'.heap[p]? = w.heap[p]?) (hg : w'.heap[gs]? = w.heap[gs]?) (hq : ∀ g cur, base ≤ g → Blk w g 86 cur → w'.heap[g]? = w.heap[g]?) : Dk w' base p gs S := by
  obtain ⟨cs, vq, hb, ho, hw⟩ := h.own
  refine ⟨⟨cs, vq, hp.trans hb, ho.keep fun g cur _ hv _ => ?_, hw.keep fun g cur hg _ hb => hq g cur hg hb⟩, h.base, h.ok⟩
  simp only [Value.ownBlock, Option.some.injEq] at hv
  subst hv
  exact hg
theorem Dk.below (h : Dk w base p gs S) (hb : Below w.heap.size w w') : Dk w' base p gs S := by
  obtain ⟨cs, vq, hbl, ho, hw⟩ := h.own
  exact ⟨⟨cs, vq, hbl.below hb hbl.lt, ho.below hb, hw.below hb⟩, h.base, h.ok⟩
theorem Dk.alloc (h : Dk w base p gs S) (o : Obj) : Dk (w.alloc o) base p gs S := h.below ((Below.refl _ _).alloc (Nat.le_refl _) o)
theorem Dk.down (h : Dk w base p gs S) {b : Nat} (hb : b ≤ base) : Dk w b p gs S := by
  obtain ⟨cs, vq, hbl, ho, hw⟩ := h.own
  exact ⟨⟨cs, vq, hbl, ho.down hb, hw.down hb⟩, Nat.le_trans hb h.base, h.ok⟩
end

theorem less_any (n : Int) (w : World) (h : -1 ≤ n) (h' : n ≤ 9223372036854775807) : Calls Try.prog 69 #[.int .i64 n] w fun e w' => e = .returned (.int .i64 (less n)) ∧ w = w' := by
  by_cases h0 : 0 < n
  · have e : less n = n - 1 := by simp [less, h0]
    rw [e]
    clear e
    go_enter Try.func69, Try.ntmps69
    go_wp2
    go_ret
    exact ⟨rfl, rfl⟩
  · have e : less n = n := by simp [less, h0]
    rw [e]
    clear e
    go_enter Try.func69, Try.ntmps69
    go_wp2
    go_ret
    exact ⟨rfl, rfl⟩

theorem noCounts_any (w : World) : Calls Try.prog 34 #[] w fun e w' => e = .returned (.agg #[.int .i64 (-1), .int .i64 (-1)]) ∧ Below w.heap.size w w' := by
  go_enter Try.func34, Try.ntmps34
  go_wp2
  exact bodyPost_ret (v := .agg #[.int .i64 (-1), .int .i64 (-1)]) (by simp [results, Try.results34, go_sem]) rfl ⟨rfl, (Below.refl _ _).alloc (Nat.le_refl _) _⟩

/-- What a disk is armed with. -/
def atl (n : Int) : Int := if n < -1 then -1 else n

theorem arm_any (p : Nat) (n : Int) (u : Value) (w : World) (h : w.cell? ⟨p, 2, none⟩ = some u) (f : w.frozen? ⟨p, 2, none⟩ = false) :
    Calls Try.prog 47 #[.pointer (some ⟨p, 2, none⟩), .int .i64 n] w fun e w' => (∃ v, e = .returned v) ∧ w' = w.setCell ⟨p, 2, none⟩ (.int .i64 (atl n)) := by
  by_cases hn : n < -1
  · have e := Lib.hid (show atl n = -1 by simp [atl, hn])
    go_enter Try.func47, Try.ntmps47
    go_wp2
    go_end0
    exact ⟨⟨_, rfl⟩, by rw [e.out]⟩
  · have e := Lib.hid (show atl n = n by simp [atl, hn])
    go_enter Try.func47, Try.ntmps47
    go_wp2
    go_end0
    exact ⟨⟨_, rfl⟩, by rw [e.out]⟩
theorem doom_any (p : Nat) (n : Int) (u : Value) (w : World) (h : w.cell? ⟨p, 3, none⟩ = some u) (f : w.frozen? ⟨p, 3, none⟩ = false) :
    Calls Try.prog 48 #[.pointer (some ⟨p, 2, none⟩), .int .i64 n] w fun e w' => (∃ v, e = .returned v) ∧ w' = w.setCell ⟨p, 3, none⟩ (.int .i64 (atl n)) := by
  by_cases hn : n < -1
  · have e := Lib.hid (show atl n = -1 by simp [atl, hn])
    go_enter Try.func48, Try.ntmps48
    go_wp2
    go_end0
    exact ⟨⟨_, rfl⟩, by rw [e.out]⟩
  · have e := Lib.hid (show atl n = n by simp [atl, hn])
    go_enter Try.func48, Try.ntmps48
    go_wp2
    go_end0
    exact ⟨⟨_, rfl⟩, by rw [e.out]⟩

theorem power_nil (w : World) : Calls Try.prog 61 #[.pointer none] w fun e w' => e = .returned (.int .i64 1) ∧ w = w' := by
  go_enter Try.func61, Try.ntmps61
  go_wp2
  go_ret
  exact ⟨rfl, rfl⟩
theorem power_dead (p : Nat) (w : World) (h : w.cell? ⟨p, 4, none⟩ = some (.bool true)) : Calls Try.prog 61 #[.pointer (some ⟨p, 0, none⟩)] w fun e w' => e = .returned (.int .i64 9) ∧ w = w' := by
  go_enter Try.func61, Try.ntmps61
  go_wp2
  go_ret
  exact ⟨rfl, rfl⟩
theorem power_ok (p : Nat) (w : World) (h : w.cell? ⟨p, 4, none⟩ = some (.bool false)) : Calls Try.prog 61 #[.pointer (some ⟨p, 0, none⟩)] w fun e w' => e = .returned (.int .i64 0) ∧ w = w' := by
  go_enter Try.func61, Try.ntmps61
  go_wp2
  go_ret
  exact ⟨rfl, rfl⟩

/-- The power goes. -/
theorem meet_dead (p : Nat) (w : World) (h : w.cell? ⟨p, 2, none⟩ = some (.int .i64 0)) : Calls Try.prog 62 #[.pointer (some ⟨p, 2, none⟩), .bool true] w fun e w' => e = .returned (.int .i64 9) ∧ w = w' := by
  go_enter Try.func62, Try.ntmps62
  go_wp2
  go_ret
  exact ⟨rfl, rfl⟩
/-- It fails. -/
theorem meet_io (p : Nat) (ch : Bool) (a : Int) (w : World) (hc : ch = false ∨ (a == 0) = false) (h : w.cell? ⟨p, 2, none⟩ = some (.int .i64 a)) (h3 : w.cell? ⟨p, 3, none⟩ = some (.int .i64 0)) (f : w.frozen? ⟨p, 3, none⟩ = false) :
    Calls Try.prog 62 #[.pointer (some ⟨p, 2, none⟩), .bool ch] w fun e w' => e = .returned (.int .i64 8) ∧ w' = w.setCell ⟨p, 3, none⟩ (.int .i64 (-1)) := by
  cases ch with
  | false =>
    clear hc
    go_enter Try.func62, Try.ntmps62
    go_wp2
    go_ret
    exact ⟨rfl, rfl⟩
  | true =>
    have ha : (a == 0) = false := by simpa using hc
    clear hc
    go_enter Try.func62, Try.ntmps62
    go_wp2
    go_ret
    exact ⟨rfl, rfl⟩
/-- It goes well. -/
theorem meet_read (p : Nat) (d : Int) (w : World) (hd : (d == 0) = false) (h1 : -1 ≤ d) (h2 : d ≤ 9223372036854775807) (h3 : w.cell? ⟨p, 3, none⟩ = some (.int .i64 d)) (f : w.frozen? ⟨p, 3, none⟩ = false) :
    Calls Try.prog 62 #[.pointer (some ⟨p, 2, none⟩), .bool false] w fun e w' => e = .returned (.int .i64 0) ∧ w' = w.setCell ⟨p, 3, none⟩ (.int .i64 (less d)) := by
  go_enter Try.func62, Try.ntmps62
  go_wp2_with (go_at_call 69; refine (less_any _ _ (by omega) (by omega)).mono ?_; rintro e w' ⟨rfl, rfl⟩)
  go_ret
  exact ⟨rfl, rfl⟩
theorem meet_write (p : Nat) (a d : Int) (w : World) (ha : (a == 0) = false) (hd : (d == 0) = false) (a1 : -1 ≤ a) (a2 : a ≤ 9223372036854775807) (h1 : -1 ≤ d) (h2 : d ≤ 9223372036854775807) (h : w.cell? ⟨p, 2, none⟩ = some (.int .i64 a)) (h3 : w.cell? ⟨p, 3, none⟩ = some (.int .i64 d)) (f2 : w.frozen? ⟨p, 2, none⟩ = false) (f : w.frozen? ⟨p, 3, none⟩ = false) :
    Calls Try.prog 62 #[.pointer (some ⟨p, 2, none⟩), .bool true] w fun e w' => e = .returned (.int .i64 0) ∧ w' = (w.setCell ⟨p, 2, none⟩ (.int .i64 (less a))).setCell ⟨p, 3, none⟩ (.int .i64 (less d)) := by
  go_enter Try.func62, Try.ntmps62
  go_wp2_with (go_at_call 69; refine (less_any _ _ (by omega) (by omega)).mono ?_; rintro e w' ⟨rfl, rfl⟩)
  go_ret
  exact ⟨rfl, rfl⟩

theorem len_nil (w : World) : Calls Try.prog 18 #[.pointer none] w fun e w' => e = .returned (.int .i64 0) ∧ w = w' := by
  go_enter Try.func18, Try.ntmps18
  go_wp2
  go_ret
  exact ⟨rfl, rfl⟩
theorem ops_nil (w : World) : Calls Try.prog 20 #[.pointer none] w fun e w' => e = .returned (.int .i64 0) ∧ w = w' := by
  go_enter Try.func20, Try.ntmps20
  go_wp2
  go_ret
  exact ⟨rfl, rfl⟩
theorem dead_nil (w : World) : Calls Try.prog 21 #[.pointer none] w fun e w' => e = .returned (.bool false) ∧ w = w' := by
  go_enter Try.func21, Try.ntmps21
  go_wp2
  go_ret
  exact ⟨rfl, rfl⟩
theorem pending_nil (w : World) : Calls Try.prog 19 #[.pointer none] w fun e w' => e = .returned (.slice none 0 0) ∧ w = w' := by
  go_enter Try.func19, Try.ntmps19
  go_wp2
  go_ret
  exact ⟨rfl, rfl⟩
theorem copy_nil (w : World) : Calls Try.prog 17 #[.pointer none] w fun e w' => e = .returned (.pointer none) ∧ w = w' := by
  go_enter Try.func17, Try.ntmps17
  go_wp2
  go_ret
  exact ⟨rfl, rfl⟩

section
variable {w : World} {base p gs : Nat} {S : DSt}
theorem len_any (h : Dk w base p gs S) : Calls Try.prog 18 #[.pointer (some ⟨p, 0, none⟩)] w fun e w' => e = .returned (.int .i64 S.has.length) ∧ w = w' := by
  obtain ⟨cs, vq, hb, _⟩ := h.own
  have h0 := hb.cell 0
  simp only [dcells, List.getElem?_toArray, List.getElem?_cons_zero] at h0
  clear h hb
  go_enter Try.func18, Try.ntmps18
  go_wp2
  go_ret
  exact ⟨rfl, rfl⟩
theorem ops_any (h : Dk w base p gs S) : Calls Try.prog 20 #[.pointer (some ⟨p, 0, none⟩)] w fun e w' => e = .returned (.int .i64 S.ops) ∧ w = w' := by
  obtain ⟨cs, vq, hb, _⟩ := h.own
  have h0 : w.cell? ⟨p, 5, none⟩ = some (.int .i64 S.ops) := hb.cell 5
  clear h hb
  go_enter Try.func20, Try.ntmps20
  go_wp2
  go_ret
  exact ⟨rfl, rfl⟩
theorem dead_any (h : Dk w base p gs S) : Calls Try.prog 21 #[.pointer (some ⟨p, 0, none⟩)] w fun e w' => e = .returned (.bool S.dead) ∧ w = w' := by
  obtain ⟨cs, vq, hb, _⟩ := h.own
  have h0 : w.cell? ⟨p, 4, none⟩ = some (.bool S.dead) := hb.cell 4
  clear h hb
  go_enter Try.func21, Try.ntmps21
  go_wp2
  go_ret
  exact ⟨rfl, rfl⟩

/-- A disk whose own cells are turned. -/
theorem Dk.turn (h : Dk w base p gs S) {S' : DSt} {w' : World} (hw : ∀ cs vq, Blk w p 73 (dcells gs S.has.length cs vq S) → Blk w' p 73 (dcells gs S.has.length cs vq S')) (hk : ∀ k, k ≠ p → w'.heap[k]? = w.heap[k]?) (e1 : S'.has = S.has) (e2 : S'.q = S.q) (ok : S'.ok) : Dk w' base p gs S' := by
  obtain ⟨cs, vq, hb, ho, hq⟩ := h.own
  refine ⟨⟨cs, vq, by rw [e1]; exact hw cs vq hb, by rw [e1]; exact ho.keep fun g cur _ _ hg => hk g (hg.ne hb (by decide)), by rw [e2]; exact hq.keep fun g cur _ _ hg => hk g (hg.ne hb (by decide))⟩, h.base, ok⟩
end

def armSt (S : DSt) (n : Int) : DSt := if S.dead then S else { S with armed := atl n }
def failSt (S : DSt) (n : Int) : DSt := if S.dead then S else { S with doomed := atl n }
def setErr (S : DSt) : Int := if S.dead then 9 else 0
theorem atl_ok (n : Int) (h : n ≤ 9223372036854775807) : -1 ≤ atl n ∧ atl n ≤ 9223372036854775807 := by unfold atl; split <;> omega

theorem arm_nil (n : Int) (w : World) : Calls Try.prog 27 #[.pointer none, .int .i64 n] w fun e w' => e = .returned (.int .i64 1) ∧ w = w' := by
  go_enter Try.func27, Try.ntmps27
  go_wp2
  go_ret
  exact ⟨rfl, rfl⟩
theorem fail_nil (n : Int) (w : World) : Calls Try.prog 28 #[.pointer none, .int .i64 n] w fun e w' => e = .returned (.int .i64 1) ∧ w = w' := by
  go_enter Try.func28, Try.ntmps28
  go_wp2
  go_ret
  exact ⟨rfl, rfl⟩

end Go.Proofs.Ytdhompiapklnaaa
