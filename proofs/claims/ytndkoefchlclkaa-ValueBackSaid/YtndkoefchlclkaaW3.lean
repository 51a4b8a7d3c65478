/-
  A reader that a text is read out of: where it stands.
-/
import Derived.Test.YtndkoefchlclkaaW2
namespace Go.Proofs.Ytndkoefchlclkaa
open Go.RowKit

theorem grown_trans {a w w' : World} {row : Option Nat} (h : a.grownBy w row) (k : w.grownBy w' row) : a.grownBy w' row :=
  ⟨k.os.trans h.os, k.tape.trans h.tape, k.output.trans h.output, Nat.le_trans h.size k.size, fun i hi hn => (k.block i (Nat.lt_of_lt_of_le hi h.size) hn).trans (h.block i hi hn)⟩

/-- A reader at place k of the bytes zs; nothing else of what was there has turned. -/
structure TW (w0 : World) (p n c : Nat) (A : Option Addr) (zs : List Int) (k : Nat) (er : Int) (w : World) : Prop where
  rd : Rd w p k er A n c
  bytes : By w p A n zs
  gr : w0.grownBy w (some p)
  pl : p < w0.heap.size
  kn : k ≤ n
  nc : n ≤ c
  small : n ≤ 100000

section
variable {w0 w w' : World} {p n c k k' : Nat} {A : Option Addr} {zs : List Int} {er er' : Int}
theorem TW.lt (h : TW w0 p n c A zs k er w) : p < w.heap.size := Nat.lt_of_lt_of_le h.pl h.gr.size
theorem TW.moved (h : TW w0 p n c A zs k er w) (hk : k' ≤ n) (hm : Moved w p k' er' A n c w') : TW w0 p n c A zs k' er' w' :=
  ⟨hm.1, h.bytes.moved h.lt hm, grown_trans h.gr hm.2, h.pl, hk, h.nc, h.small⟩
theorem TW.grown (h : TW w0 p n c A zs k er w) {row : Option Nat} (hg : w.grownBy w' row) (hr : ∀ g, row = some g → w0.heap.size ≤ g) : TW w0 p n c A zs k er w' :=
  ⟨(hg.block p h.lt (fun e => by have := hr p e.symm; have := h.pl; omega)).trans h.rd,
   h.bytes.keep fun q hq => World.cell?_of_block (hg.block q.block (by have := h.lt; omega) (fun e => by have := hr q.block e.symm; have := h.pl; omega)),
   ⟨hg.os.trans h.gr.os, hg.tape.trans h.gr.tape, hg.output.trans h.gr.output, Nat.le_trans h.gr.size hg.size, fun i hi hn => (hg.block i (Nat.lt_of_lt_of_le hi h.gr.size) (fun e => by have := hr i e.symm; omega)).trans (h.gr.block i hi hn)⟩,
   h.pl, h.kn, h.nc, h.small⟩
theorem TW.alloc (h : TW w0 p n c A zs k er w) (o : Obj) : TW w0 p n c A zs k er (w.alloc o) := h.grown (World.grownBy_alloc w o none) (fun g e => by cases e)
theorem TW.below (h : TW w0 p n c A zs k er w) (hb : Below w.heap.size w w') : TW w0 p n c A zs k er w' :=
  h.grown (row := none) ⟨hb.os, hb.tape, hb.output, hb.size, fun i hi _ => hb.block i hi⟩ (fun g e => by cases e)
theorem TW.in_ (h : TW w0 p n c A zs k 0 w) (hlt : k < n) : Calls Try.prog 78 #[.pointer (some ⟨p, 0, none⟩)] w fun e w' => e = .returned (.int .u8 (zs.getD k 0)) ∧ TW w0 p n c A zs (k + 1) 0 w' ∧ Moved w p ((k + 1 : Nat) : Int) 0 A n c w' :=
  (u8_in p k 0 A n c zs w h.rd h.bytes h.kn h.nc (by have := h.small; omega) rfl hlt).mono fun _ _ ⟨e, hm⟩ => ⟨e, h.moved (by omega) hm, hm⟩
theorem TW.end_ (h : TW w0 p n c A zs k 0 w) (hlt : k = n) : Calls Try.prog 78 #[.pointer (some ⟨p, 0, none⟩)] w fun e w' => e = .returned (.int .u8 0) ∧ TW w0 p n c A zs k 7 w' ∧ Moved w p k 7 A n c w' :=
  (u8_end p k 0 A n c zs w h.rd h.bytes h.kn h.nc (by have := h.small; omega) rfl hlt).mono fun _ _ ⟨e, hm⟩ => ⟨e, h.moved h.kn hm, hm⟩
theorem TW.err_ (h : TW w0 p n c A zs k er w) (he : er ≠ 0) : Calls Try.prog 78 #[.pointer (some ⟨p, 0, none⟩)] w fun e w' => e = .returned (.int .u8 0) ∧ TW w0 p n c A zs k er w' ∧ Moved w p k er A n c w' :=
  (u8_err p k er A n c zs w h.rd h.bytes h.kn h.nc (by have := h.small; omega) he).mono fun _ _ ⟨e, hm⟩ => ⟨e, h.moved h.kn hm, hm⟩
end

theorem conv_own {w : World} {base n c : Nat} {A : Option Addr} {zs : List Int} (h : Own w base A n c zs) : (convert 44 9 (.slice A n c)).run Try.prog w = .ok (.string (strOfNums zs)) w := by
  have hl := h.len
  rcases h.form with ⟨rfl, rfl, rfl⟩ | ⟨g, rfl, _, _, _⟩
  · obtain rfl := List.eq_nil_of_length_eq_zero hl
    exact run_convert_bytes_nil w 44 5 Try.underlying44 Try.underlying5 0 0 9 Try.underlying9
  · exact run_convert_bytes_arg w 44 5 Try.underlying44 Try.underlying5 g 0 n c zs hl (fun i hi => by rw [Nat.zero_add]; exact h.at_ rfl i hi) 9 Try.underlying9

/-- What takeText answers: the text, whether it is one; the reader's place and error. -/
def TT (w0 : World) (p n c : Nat) (A : Option Addr) (zs : List Int) (D : List Int × Nat × Int) (e : Ending) (w : World) : Prop :=
  ∃ t ok k er, e = .returned (.tuple #[.string t, .bool ok]) ∧ TW w0 p n c A zs k er w ∧
    ((er = 7 ∧ D = ([], 0, 7)) ∨ (er = 0 ∧ ok = false ∧ D = ([], 0, 150)) ∨ (er = 0 ∧ ok = true ∧ ∃ acc, D = (acc, k, 0) ∧ t = strOfNums acc ∧ Bs acc ∧ acc.length ≤ 64))

end Go.Proofs.Ytndkoefchlclkaa
