/-
  Copies of entries: slices.Clone at entries, the program's cloned.
-/
import Derived.Test.YtmgaihdepglahaaL5
namespace Go.Proofs.Ytmgaihdepglahaa
open Go.RowKit

theorem Try.info54 : (Try.prog.info? 54).map (fun i => (i.zero, i.size, i.bytes)) = some (some (.agg #[.int .u64 0, .int .i64 0, .slice none 0 0]), 3, 40) := by kernel_rfl

/-- The rows of cells alone: the slice owns them, the Data are where they were. -/
def Ecopy (w : World) (B n : Nat) (es : List En) (e : Ending) (w' : World) : Prop :=
  ∃ A c xs, e = .returned (.slice A n c) ∧ xs.map Ec.en = es ∧ w'.ownsRow w.heap.size 54 3 (.slice A n c) n (rowE xs) ∧ (∀ x ∈ xs, x.ok w B) ∧ Below w.heap.size w w'

theorem own_slice {w : World} {base e size n : Nat} {v : Value} {xs : List Value} (h : w.ownsRow base e size v n xs) : ∃ A c, v = .slice A n c := by
  rcases h.2 with ⟨rfl, rfl⟩ | ⟨g, cap, cur, rfl, _⟩
  · exact ⟨_, _, rfl⟩
  · exact ⟨_, _, rfl⟩

set_option maxHeartbeats 400000 in
theorem eclone_any (A : Option Addr) (n c B : Nat) (es : List En) (w : World) (h : Es w B A n es) (hn : n ≤ 1000000) :
    Calls Try.prog 73 #[.slice A n c] w (Ecopy w B n es) := by
  have q25 : ∀ (w : World) (a : Option Addr) (n c n' c' : Nat), (binOp .eql 25 (.slice a n c) (.slice none n' c')).run Try.prog w = .ok (.bool a.isNone) w := fun w a n c n' c' => Lib.run_eql_slice_nil w _ _ a n c n' c' Try.underlying25
  cases A with
  | none =>
    obtain ⟨xs, h1, h2, h3, h4⟩ := h
    obtain rfl : n = 0 := by
      rcases Nat.eq_zero_or_pos n with h0 | h0
      · exact h0
      · obtain ⟨b, o, e, _⟩ := h4 h0
        cases e
    obtain rfl : xs = [] := List.eq_nil_of_length_eq_zero h2
    have F : Hid (Ecopy w B 0 es (.returned (.slice none 0 0)) w) := ⟨none, 0, [], rfl, h1, World.ownsRow_nil _ _ _ _, fun x hx => (by cases hx), Below.refl _ _⟩
    clear h1 h2 h3 h4
    go_enter Try.func73, Try.ntmps73
    go_wp2
    go_ret
    exact F.out
  | some a =>
    obtain ⟨i0, hi, hz0, hz1, hz2⟩ := info_parts Try.info54
    have H := Lib.hid h
    clear h
    obtain ⟨xs, h1, h2, h3, h4⟩ := H.out
    have A := Lib.hid h1
    have L := Lib.hid h2
    have O := Lib.hid h3
    have R := Lib.hid h4
    clear h1 h2 h3 h4 H
    go_enter Try.func73, Try.ntmps73
    go_wp2_with (at_builtin; refine wpList_append_own _ rfl _ _ 25 rfl w.heap.size 54 i0 _ 3 40 Try.underlying25 hi hz0 hz1 hz2 rfl (by decide) _ _ _ rfl (World.ownsRow_made w #[] 0 (Nat.le_refl _) (Nat.zero_le _) rfl) a n c (rowE xs) rfl ?qc1 ?qc2 ?qc3 ?qc4 ?qc5 ?qc6 ?_)
    case qc1 => rw [rowE_len, L.out]
    case qc2 =>
      intro j u hj
      have hjl := (List.getElem?_eq_some_iff.1 hj).1
      rw [rowE_len, L.out] at hjl
      obtain ⟨b, o, e, hb, hc⟩ := R.out (by omega)
      refine Lib.cell?_alloc_some _ ?_
      rw [Option.some.inj e, add_at]
      exact hc j u hj
    case qc3 => exact rowE_one xs
    case qc4 => unfold maxLen; omega
    case qc5 => omega
    case qc6 => simp
    intro v' w1 hown hgrow hnil
    go_wp2
    go_ret
    obtain ⟨A', c', rfl⟩ := own_slice hown
    exact ⟨A', c', xs, rfl, A.out, hown, O.out, ((Below.refl _ w).alloc (Nat.le_refl _) _).grown hgrow (by simp) (by intro k hk; simp [Value.ownBlock] at hk; omega)⟩

end Go.Proofs.Ytmgaihdepglahaa
