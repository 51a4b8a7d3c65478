/-
  The document's letters and digits; bytes of one's own; its words in capitals, its texts quoted.
-/
import Derived.Test.YtblcfjliabeaiaaDoorL18
import Derived.Laws.IdiomStrings
import Derived.Laws.BytesArg
namespace Go.Proofs.YtblcfjliabeaiaaDoor
open Go.RowKit Go.Shelf
attribute [local go_sem] Oper.semAt_some

def rlet (b : Int) : Bool := ((decide (b ≥ 97) && decide (b ≤ 122)) || (decide (b ≥ 65) && decide (b ≤ 90))) || (b == 95)
theorem rlet_eq (b : Int) : rlet b = letB b := by
  unfold rlet letB capB
  rw [Bool.eq_iff_iff]
  simp only [Bool.or_eq_true, Bool.and_eq_true, decide_eq_true_eq, beq_iff_eq]
  split <;> omega
theorem rletter_any (b : Int) (h0 : 0 ≤ b) (h1 : b ≤ 255) (w : World) : Calls Tryd.prog 55 #[.int .u8 b] w fun e w' => e = .returned (.bool (letB b)) ∧ w' = w := by
  rw [← rlet_eq]
  unfold rlet
  obtain ⟨x1, d1⟩ : ∃ x, decide (b ≥ 97) = x := ⟨_, rfl⟩
  obtain ⟨x2, d2⟩ : ∃ x, decide (b ≤ 122) = x := ⟨_, rfl⟩
  obtain ⟨x3, d3⟩ : ∃ x, decide (b ≥ 65) = x := ⟨_, rfl⟩
  obtain ⟨x4, d4⟩ : ∃ x, decide (b ≤ 90) = x := ⟨_, rfl⟩
  have d1' : decide (97 ≤ b) = x1 := d1
  have d3' : decide (65 ≤ b) = x3 := d3
  rw [d1, d2, d3, d4]
  cases x1 <;> cases x2 <;> cases x3 <;> cases x4 <;> (
    go_enter Tryd.func55, Tryd.ntmps55
    go_wp2
    go_ret
    exact ⟨by first | rfl | (simp; done) | trivial, rfl⟩)
theorem rdigit_any (b : Int) (h0 : 0 ≤ b) (h1 : b ≤ 255) (w : World) : Calls Tryd.prog 56 #[.int .u8 b] w fun e w' => e = .returned (.bool (digB b)) ∧ w' = w := by
  unfold digB
  by_cases ha : 48 ≤ b
  · have d1 : decide (48 ≤ b) = true := decide_eq_true ha
    go_enter Tryd.func56, Tryd.ntmps56
    go_wp2
    go_ret
    exact ⟨by simp [d1], rfl⟩
  · have d1 : decide (48 ≤ b) = false := decide_eq_false ha
    go_enter Tryd.func56, Tryd.ntmps56
    go_wp2
    go_ret
    exact ⟨by simp [d1], rfl⟩

/-- Bytes of one's own. -/
def Ob (w : World) (base : Nat) (A : Option Addr) (n c : Nat) (L : List UInt8) : Prop := w.ownsRow base 5 1 (.slice A n c) n (Lib.byteCells L)
section
variable {w w' : World} {base n c : Nat} {A : Option Addr} {L : List UInt8}
theorem Ob.nil (w : World) (base : Nat) : Ob w base none 0 0 [] := World.ownsRow_nil w base 5 1
theorem Ob.below (h : Ob w base A n c L) (hb : Below w.heap.size w w') : Ob w' base A n c L := World.ownsRow.below h hb
theorem Ob.len (h : Ob w base A n c L) : L.length = n := by
  have := h.1
  rw [Lib.byteCells_length] at this
  omega
theorem Ob.form (h : Ob w base A n c L) : (A = none ∧ n = 0 ∧ c = 0) ∨ ∃ g, A = some ⟨g, 0, none⟩ ∧ base ≤ g ∧ g < w.heap.size := by
  rcases h.2 with ⟨hv, h0⟩ | ⟨g, cap, cur, hv, hbs, hh, h1, _⟩
  · injection hv with a b c'
    exact .inl ⟨a, b, c'⟩
  · injection hv with a b c'
    exact .inr ⟨g, a, hbs, (Array.getElem?_eq_some_iff.1 hh).1⟩
theorem conv_ob (h : Ob w base A n c L) : (convert 54 9 (.slice A n c)).run Tryd.prog w = .ok (tx L) w := by
  have hl := h.len
  rcases h.form with ⟨rfl, rfl, rfl⟩ | ⟨g, rfl, _, _⟩
  · obtain rfl := List.eq_nil_of_length_eq_zero hl
    exact run_convert_bytes_nil w 54 5 Tryd.underlying54 Tryd.underlying5 0 0 9 Tryd.underlying9
  · subst hl
    refine run_convert_bytes_back w 54 9 5 ⟨g, 0, none⟩ c L Tryd.underlying54 Tryd.underlying5 Tryd.underlying9 fun j hj => ?_
    rw [World.ownsRow.cells h rfl j (.int .u8 (L[j].toNat : Int)) (by simp [Lib.byteCells, hj])]
end
theorem byte_info : (Tryd.prog.info? 5).map (fun i => (i.zero, i.size, i.bytes)) = some (some (.int .u8 0), 1, 1) := by kernel_rfl
theorem byte_parts : ∃ i0, Tryd.prog.info? 5 = some i0 ∧ i0.zero = some (.int .u8 0) ∧ i0.size = 1 ∧ i0.bytes = 1 := by
  obtain ⟨i, hi, h⟩ := Option.map_eq_some_iff.1 byte_info
  simp only [Prod.mk.injEq] at h
  exact ⟨i, hi, h.1, h.2.1, h.2.2⟩
/-- One more byte. -/
theorem append_b {w : World} {ops : Array Oper} {rest : List Oper} {o : Oper} {a : Act} {Q : Exit → Act → World → Prop} (hgd : o.guard = none) (s x : Operand)
    (ho : o.op = .call { callee := .builtin .append, args := #[s, x], argTypes := #[54, 54] }) (base : Nat) (A : Option Addr) (n c : Nat) (L : List UInt8) (hs : a.eval s = .slice A n c) (hown : Ob w base A n c L)
    (b : UInt8) (z : Int) (hz : z = (b.toNat : Int)) (hx : a.eval x = .slice (some ⟨w.heap.size, 0, none⟩) 1 1) (hsum : n + 1 ≤ 10000000) (hbase : base ≤ w.heap.size)
    (h : ∀ A2 c2 w', Ob w' base A2 (n + 1) c2 (L ++ [b]) → Below base w w' → wpList Tryd.prog ops Q rest (a.put o.dst (.slice A2 (n + 1) c2)) w') :
    wpList Tryd.prog ops Q (o :: rest) a (w.alloc (.cells #[.int .u8 z] 5)) := by
  subst hz
  obtain ⟨i0, hi, hz0, hz1, hz2⟩ := byte_parts
  have ho' : Ob (w.alloc (.cells #[.int .u8 (b.toNat : Int)] 5)) base A n c L := hown.below ((Below.refl _ _).alloc (Nat.le_refl _) _)
  refine wpList_append_own _ hgd s x 54 ho base 5 i0 (.int .u8 0) 1 1 Tryd.underlying54 hi hz0 hz1 hz2 rfl (by decide) _ n _ hs ho' ⟨w.heap.size, 0, none⟩ 1 1 [.int .u8 (b.toNat : Int)] hx rfl ?_ (by simp [Value.oneCell']) (by unfold maxLen; omega) (by omega) (by simp; omega) ?_
  · intro j u hj
    rw [Addr.add_lit, Nat.zero_add, ← hj]
    rw [(Blk.new w 5 #[.int .u8 (b.toNat : Int)]).cell j]
    simp
  · intro v' w' hown' hg _
    have e : Lib.byteCells L ++ [.int .u8 (b.toNat : Int)] = Lib.byteCells (L ++ [b]) := by rw [Lib.byteCells_append]; rfl
    rw [e] at hown'
    obtain ⟨A2, c2, rfl⟩ : ∃ A2 c2, v' = .slice A2 (n + 1) c2 := by
      rcases hown'.2 with ⟨_, h0⟩ | ⟨g, cap, cur, hv, _⟩
      · omega
      · exact ⟨_, _, hv⟩
    exact h A2 c2 w' hown' (Below.grown ((Below.refl _ _).alloc hbase _) hg (by simp; omega) (fun k hk => (World.ownsRow.lt ho' k hk).1))
/-- The bytes of a text, in memory. -/
def bcap (w : World) (l : List UInt8) : Nat := grownCap w l.length 0 5
def bworld (w : World) (l : List UInt8) : World := w.drew.alloc (.cells (bytesRow ⟨l.toArray⟩ (bcap w l)) 5 ((bytesRow ⟨l.toArray⟩ (bcap w l)).size, (bytesRow ⟨l.toArray⟩ (bcap w l)).size + 1))
theorem conv_tx (l : List UInt8) (w : World) : (convert 9 54 (tx l)).run Tryd.prog w = .ok (.slice (some ⟨w.heap.size, 0, none⟩) l.length (bcap w l)) (bworld w l) :=
  run_bytes_of_string (P := Tryd.prog) w 9 54 5 ⟨l.toArray⟩ Tryd.underlying9 Tryd.underlying54 Tryd.underlying5
theorem bworld_below (w : World) (l : List UInt8) : Below w.heap.size w (bworld w l) := by
  unfold bworld
  exact (Below.refl w.heap.size w).drew.alloc (Nat.le_refl _) _
theorem bworld_size (w : World) (l : List UInt8) : (bworld w l).heap.size = w.heap.size + 1 := by
  unfold bworld
  show (w.heap.push _).size = _
  simp
theorem bworld_cell (w : World) (l : List UInt8) {i : Nat} (hi : i < l.length) : (bworld w l).cell? ⟨w.heap.size, i, none⟩ = some (.int .u8 (bt l i)) := by
  unfold bworld
  have := World.cell?_alloc_mark w.drew (bytesRow ⟨l.toArray⟩ (bcap w l)) 5 ((bytesRow ⟨l.toArray⟩ (bcap w l)).size, (bytesRow ⟨l.toArray⟩ (bcap w l)).size + 1) i
  refine Eq.trans this ?_
  unfold bytesRow
  rw [Array.getElem?_append_left (by simpa using hi)]
  simp [bt, List.getD, hi]
end Go.Proofs.YtblcfjliabeaiaaDoor
