/-
  Rows of tokens as they are given; the law's toks of one.
-/
import Derived.Test.YtblcfjliabeaiaaDoorL35
namespace Go.Proofs.YtblcfjliabeaiaaDoor
open Go.RowKit Go.Shelf
attribute [local go_sem] Oper.semAt_some

/-- A row of tokens as it is given. -/
structure Gv (w : World) (A : Option Addr) (n c : Nat) (ts : List Tq) : Prop where
  trd : Trd w w.heap.size A n ts
  cap : n ≤ c
  nil_ : A = none → c = 0
  small : n ≤ 9223372036854775807
  nums : ∀ t ∈ ts, -9223372036854775808 ≤ t.num ∧ t.num ≤ 9223372036854775807
/-- Rows of tokens as they are given. -/
def Gvs (w : World) (a : Option Addr) (n : Nat) (As : Nat → Option Addr) (Ns Cs : Nat → Nat) (Ts : Nat → List Tq) : Prop :=
  ∀ i, i < n → ∃ b o, a = some ⟨b, o, none⟩ ∧ b < w.heap.size ∧ w.cell? ⟨b, o + i, none⟩ = some (.slice (As i) (Ns i) (Cs i)) ∧ Gv w (As i) (Ns i) (Cs i) (Ts i)
def Zt (ts : List Tq) : List Tq := (ts.take 301).map cutT
theorem Zt_ok {ts : List Tq} (h : ∀ t ∈ ts, -9223372036854775808 ≤ t.num ∧ t.num ≤ 9223372036854775807) : ∀ t ∈ Zt ts, TkOk t := fun t ht => by
  obtain ⟨u, hu, rfl⟩ := List.mem_map.1 ht
  have := h u (List.mem_of_mem_take hu)
  exact ⟨by simp [cutT]; omega, this.1, this.2⟩
theorem toks_at {w W : World} {A : Option Addr} {n c : Nat} {ts : List Tq} (h : Gv w A n c ts) (hb : Below w.heap.size w W) :
    Calls Tryd.prog 9 #[.slice A n c] W fun e w' => ∃ A' c', e = .returned (.slice A' (min n 301) c') ∧ Trd w' w'.heap.size A' (min n 301) (Zt ts) ∧ Below W.heap.size W w' :=
  (toks_any A n c w.heap.size ts W (h.trd.below hb) h.cap h.nil_ h.small hb.size).mono fun e w' ⟨A', c', he, ht, hbw⟩ => ⟨A', c', he, ht.trd, hbw⟩
theorem Trd.on {w w' : World} {A : Option Addr} {n : Nat} {ts : List Tq} (h : Trd w w.heap.size A n ts) (hb : Below w.heap.size w w') : Trd w' w'.heap.size A n ts := (h.below hb).more hb.size
end Go.Proofs.YtblcfjliabeaiaaDoor
