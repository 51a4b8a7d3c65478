/-
  Tokens of one's own: the law's toks.
-/
import Derived.Test.YtblcfjliabeaiaaDoorL27
namespace Go.Proofs.YtblcfjliabeaiaaDoor
open Go.RowKit Go.Shelf
attribute [local go_sem] Oper.semAt_some

def qRow : List Tq → List Value
  | [] => []
  | t :: r => t.cells ++ qRow r
theorem qRow_append : ∀ a b : List Tq, qRow (a ++ b) = qRow a ++ qRow b
  | [], _ => rfl
  | t :: a, b => by rw [List.cons_append, qRow, qRow, qRow_append a b, List.append_assoc]
theorem qRow_len : ∀ a : List Tq, (qRow a).length = a.length * 5
  | [] => rfl
  | t :: a => by rw [qRow, List.length_append, qRow_len a, List.length_cons]; simp [Tq.cells]; omega
theorem qRow_at : ∀ (ts : List Tq) (j i : Nat), j < ts.length → i < 5 → (qRow ts)[j * 5 + i]? = (ts.getD j errQ).cells[i]?
  | [], j, i, h, _ => by simp at h
  | t :: r, 0, i, _, hi => by
    rw [qRow, Nat.zero_mul, Nat.zero_add, List.getElem?_append_left (by show i < 5; exact hi)]
    rfl
  | t :: r, j + 1, i, h, hi => by
    rw [qRow, List.getElem?_append_right (by show 5 ≤ _; omega), show (j + 1) * 5 + i - t.cells.length = j * 5 + i from by show (j + 1) * 5 + i - 5 = _; omega, qRow_at r j i (by simpa using h) hi]
    rfl
theorem qRow_one : ∀ ts : List Tq, ∀ v ∈ qRow ts, v.oneCell' = true
  | [], v, h => by cases h
  | t :: r, v, h => by
    rw [qRow] at h
    rcases List.mem_append.1 h with h | h
    · simp only [Tq.cells, List.mem_cons, List.not_mem_nil, or_false] at h
      rcases h with rfl | rfl | rfl | rfl | rfl <;> rfl
    · exact qRow_one r v h
/-- Tokens owned, in a row from base on. -/
def Tqs (w : World) (base : Nat) (A : Option Addr) (n c : Nat) (ts : List Tq) : Prop := w.ownsRow base 47 5 (.slice A n c) n (qRow ts)
section
variable {w w' : World} {base n c : Nat} {A : Option Addr} {ts : List Tq}
theorem Tqs.len (h : Tqs w base A n c ts) : ts.length = n := by
  have := h.1
  rw [qRow_len] at this
  omega
theorem Tqs.below (h : Tqs w base A n c ts) (hb : Below w.heap.size w w') : Tqs w' base A n c ts := World.ownsRow.below h hb
theorem Tqs.form (h : Tqs w base A n c ts) : (A = none ∧ n = 0 ∧ c = 0) ∨ ∃ g, A = some ⟨g, 0, none⟩ ∧ base ≤ g ∧ g < w.heap.size ∧ n ≤ c := by
  rcases h.2 with ⟨hv, h0⟩ | ⟨g, cap, cur, hv, hbs, hh, h1, _⟩
  · injection hv with a b c'
    exact .inl ⟨a, b, c'⟩
  · injection hv with a b c'
    exact .inr ⟨g, a, hbs, (Array.getElem?_eq_some_iff.1 hh).1, by omega⟩
theorem Tqs.trd (h : Tqs w base A n c ts) : Trd w w.heap.size A n ts :=
  ⟨h.len, fun hp => by
    rcases h.form with ⟨_, h0, _⟩ | ⟨g, rfl, hb, hg, _⟩
    · omega
    · refine ⟨g, 0, rfl, hg, fun j hj i hi => ?_⟩
      have := World.ownsRow.cellAt (w := w) (g := g) h (j * 5 + i) (by omega)
      rw [Nat.zero_add, this]
      exact qRow_at ts j i (by rw [h.len]; exact hj) hi⟩
end
/-- A token with its text cut. -/
def cutT (t : Tq) : Tq := ⟨t.kind, t.text.take 100, t.num, t.at_, t.to_⟩
/-- The first i tokens cut. -/
def mid (i : Nat) (zs : List Tq) : List Tq := (zs.take i).map cutT ++ zs.drop i
theorem mid_len (i : Nat) (zs : List Tq) : (mid i zs).length = zs.length := by
  unfold mid
  rw [List.length_append, List.length_map, List.length_take, List.length_drop]
  omega
theorem mid_zero (zs : List Tq) : mid 0 zs = zs := by simp [mid]
theorem mid_all (zs : List Tq) : mid zs.length zs = zs.map cutT := by simp [mid]
theorem mid_getD : ∀ (zs : List Tq) (i : Nat), i < zs.length → (mid i zs).getD i errQ = zs.getD i errQ
  | [], _, h => by simp at h
  | z :: r, 0, _ => by simp [mid]
  | z :: r, i + 1, h => by
    have := mid_getD r i (by simpa using h)
    simpa [mid] using this
theorem mid_set : ∀ (zs : List Tq) (i : Nat), i < zs.length → (qRow (mid i zs)).set (i * 5 + 1) (tx ((zs.getD i errQ).text.take 100)) = qRow (mid (i + 1) zs)
  | [], _, h => by simp at h
  | z :: r, 0, _ => by simp [mid, qRow, Tq.cells, cutT]
  | z :: r, i + 1, h => by
    have ih := mid_set r i (by simpa using h)
    have e1 : mid (i + 1) (z :: r) = cutT z :: mid i r := by simp [mid]
    have e2 : mid (i + 1 + 1) (z :: r) = cutT z :: mid (i + 1) r := by simp [mid]
    rw [e1, e2, qRow, qRow, List.set_append_right _ _ (by show 5 ≤ _; omega), show (i + 1) * 5 + 1 - (cutT z).cells.length = i * 5 + 1 from by show (i + 1) * 5 + 1 - 5 = _; omega]
    rw [show (z :: r).getD (i + 1) errQ = r.getD i errQ from rfl, ih]
end Go.Proofs.YtblcfjliabeaiaaDoor
