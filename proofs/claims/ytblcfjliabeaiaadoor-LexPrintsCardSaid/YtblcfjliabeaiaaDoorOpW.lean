/-
  How the laws' arguments are opened: a row of texts.
-/
import Derived.Test.YtblcfjliabeaiaaDoorRows
import Derived.ProofKit
import Derived.OpenShut
import Derived.ShutString
import Derived.ChangeOld
import Derived.Below
import Derived.Deep.Slices
import Derived.Deep.Strs
import Derived.Test.YtblcfjliabeaiaaDoorLd
import Derived.Test.YtblcfjliabeaiaaDoorL24
namespace Go.Proofs.YtblcfjliabeaiaaDoor
open Go.ChangeShapes Go.WideShapes Go.ChangeAt Go.RowKit Go.Deep

theorem ownOk : ownKnob Tryd.prog.godebug = none := by kernel_rfl
theorem laidOk : laidOutB Tryd.prog = true := by kernel_rfl
theorem addr_of {w : World} {a : Addr} {v : Value} (h : w.cell? (a.add 0) = some v) : ∃ b o, a = ⟨b, o, none⟩ ∧ b < w.heap.size := by
  rw [show a.add 0 = a from rfl] at h
  obtain ⟨b, o, s⟩ := a
  have hs : s = none := World.cell?_spot h
  subst hs
  exact ⟨b, o, rfl, World.block_lt_of_cell? w _ h⟩
theorem add_at (b o i : Nat) : (⟨b, o, none⟩ : Addr).add i = ⟨b, o + i, none⟩ := by by_cases h0 : i = 0 <;> simp [Addr.add, h0]

section
variable {H : Type} {enc : TypeId × Value → H} {W : World}
theorem open_texts {a : Option Addr} {len cap : Nat} {d : DataW H} {p : List MemPlace} (h : DataW.Trod enc Tryd.prog W 0 (fun _ => true) true 34 (.slice a len cap) d p) : ∃ X, Ss W a len X ∧ len ≤ 9223372036854775807 := by
  obtain ⟨fuel, hf⟩ := h
  rcases open_strs Tryd.underlying34 Tryd.underlying9 Tryd.c9 hf with ⟨hcs, _⟩ | ⟨x, l, c, m, Sx, hcs, _, hl, hm, hmm, _, hc⟩
  · have e : [Value.slice a len cap] = [.slice none 0 0] := hcs
    injection e with e
    injection e with e1 e2 e3
    subst e1 e2 e3
    exact ⟨fun _ => [], fun i hi => absurd hi (by omega), by omega⟩
  · have e : [Value.slice a len cap] = [.slice (some x) l c] := hcs
    injection e with e
    injection e with e1 e2 e3
    subst e1 e2 e3
    have hlm : len ≤ m := by rw [hmm]; split <;> omega
    refine ⟨fun i => (Sx i).data.toList, fun i hi => ?_, by unfold maxLen at hm; omega⟩
    obtain ⟨b, o, rfl, hb⟩ := addr_of (hc 0 (by omega)).1
    refine ⟨b, o, rfl, hb, ?_⟩
    have := (hc i (by omega)).1
    rw [add_at] at this
    rw [this]
end
end Go.Proofs.YtblcfjliabeaiaaDoor
