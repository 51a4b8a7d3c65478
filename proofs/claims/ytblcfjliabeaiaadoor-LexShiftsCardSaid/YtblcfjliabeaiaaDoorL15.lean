/-
  A token's text: the program's textOf; tokens as they are read: its Check.
-/
import Derived.Test.YtblcfjliabeaiaaDoorL14
import Derived.Lib.AppendIntMem
namespace Go.Proofs.YtblcfjliabeaiaaDoor
open Go.RowKit Go.Shelf

set_option maxRecDepth 100000 in
set_option maxHeartbeats 4000000 in
theorem textof_any (t : Tq) (hl : t.text.length ≤ 400000) (h0 : -9223372036854775808 ≤ t.num) (h1 : t.num ≤ 9223372036854775807) (w : World) (hG : Gl w) :
    Calls Tryd.prog 32 #[tqV t] w fun e w' => e = .returned (tx (txtF t)) ∧ Below w.heap.size w w' := by
  obtain ⟨kind, text, num, aa, to_⟩ := t
  obtain ⟨g, hg⟩ : ∃ g, w.heap.size = g := ⟨_, rfl⟩
  obtain ⟨w1, hw1⟩ : ∃ w1, w.alloc (.cells #[.int .i64 kind, tx text, .int .i64 num, .int .i64 (aa : Int), .int .i64 (to_ : Int)] 47) = w1 := ⟨_, rfl⟩
  have b1 : Below g w w1 := by rw [← hw1, ← hg]; exact (Below.refl _ _).alloc (Nat.le_refl _) _
  have gl1 : Gl w1 := hG.below b1 (by rw [← hg]; exact hG.lt)
  have g1 : g < w1.heap.size := by rw [← hw1, ← hg]; simp
  clear hG
  show Calls Tryd.prog 32 #[.agg #[.int .i64 kind, tx text, .int .i64 num, .int .i64 (aa : Int), .int .i64 (to_ : Int)]] w _
  rw [hg]
  simp only at hl h0 h1
  have FI := Lib.hid (Tryd.strconv_FormatInt_10 num h0 h1 w1 gl1.tab)
  have QT := Lib.hid (quote_any text hl w1)
  have B1 := Lib.hid b1
  have G1 := Lib.hid g1
  clear b1 gl1 g1
  unfold txtF
  simp only
  by_cases k3 : kind = 3
  · subst k3
    rw [if_pos (show ((3 : Int) == 3) = true from rfl)]
    subst hw1
    go_enter Tryd.func32, Tryd.ntmps32
    go_wp2_with (go_at_call 50; refine FI.out.mono ?_; rintro e w2 ⟨rfl, kk, os, rfl⟩)
    go_ret
    exact ⟨rfl, B1.out.trans (Lib.below_grow g _ (Nat.le_of_lt G1.out) kk os)⟩
  · have k3f : (kind == 3) = false := by simpa using k3
    rw [if_neg (by rw [k3f]; decide)]
    by_cases k4 : kind = 4
    · subst k4
      rw [if_pos (show ((4 : Int) == 4) = true from rfl)]
      subst hw1
      go_enter Tryd.func32, Tryd.ntmps32
      go_wp2_with (go_at_call 23; refine QT.out.mono ?_; rintro e w2 ⟨rfl, hb⟩; have B2 := Lib.hid (B1.out.trans (hb.mono (by have := G1.out; omega))); clear hb)
      go_ret
      exact ⟨rfl, B2.out⟩
    · have k4f : (kind == 4) = false := by simpa using k4
      rw [if_neg (by rw [k4f]; decide)]
      subst hw1
      go_enter Tryd.func32, Tryd.ntmps32
      go_wp2
      go_ret
      exact ⟨rfl, B1.out⟩

/-- Tokens that can be read: the slice's cells, below B. -/
structure Trd (w : World) (B : Nat) (A : Option Addr) (n : Nat) (ts : List Tq) : Prop where
  len : ts.length = n
  cel : 0 < n → ∃ b o, A = some ⟨b, o, none⟩ ∧ b < B ∧ ∀ j, j < n → ∀ i, i < 5 → w.cell? ⟨b, o + j * 5 + i, none⟩ = (ts.getD j errQ).cells[i]?
theorem tkRow_at : ∀ (ts : List Tk) (j i : Nat), j < ts.length → i < 5 → (tkRow ts)[j * 5 + i]? = (ts.getD j (errT 0)).cells[i]?
  | [], j, i, h, _ => by simp at h
  | t :: r, 0, i, _, hi => by
    rw [tkRow, Nat.zero_mul, Nat.zero_add, List.getElem?_append_left (by show i < 5; exact hi)]
    rfl
  | t :: r, j + 1, i, h, hi => by
    rw [tkRow, List.getElem?_append_right (by show 5 ≤ _; omega), show (j + 1) * 5 + i - t.cells.length = j * 5 + i from by show (j + 1) * 5 + i - 5 = _; omega, tkRow_at r j i (by simpa using h) hi]
    rfl
section
variable {w w' : World} {B n c base : Nat} {A : Option Addr} {ts : List Tq}
theorem Trd.below (h : Trd w B A n ts) (hb : Below B w w') : Trd w' B A n ts :=
  ⟨h.len, fun hp => by
    obtain ⟨b, o, hA, hbB, hc⟩ := h.cel hp
    exact ⟨b, o, hA, hbB, fun j hj i hi => by rw [← hc j hj i hi]; simp only [World.cell?, hb.block b hbB]⟩⟩
theorem Trd.more {B' : Nat} (h : Trd w B A n ts) (hB : B ≤ B') : Trd w B' A n ts :=
  ⟨h.len, fun hp => by
    obtain ⟨b, o, hA, hbB, hc⟩ := h.cel hp
    exact ⟨b, o, hA, by omega, hc⟩⟩
theorem Trd.at_ (h : Trd w B A n ts) {j : Nat} (hj : j < n) : ∃ b o, A = some ⟨b, o, none⟩ ∧ b < B ∧ w.cell? ⟨b, o + j * 5, none⟩ = some (.int .i64 (ts.getD j errQ).kind) ∧ w.cell? ⟨b, o + j * 5 + 1, none⟩ = some (tx (ts.getD j errQ).text) ∧
    w.cell? ⟨b, o + j * 5 + 2, none⟩ = some (.int .i64 (ts.getD j errQ).num) ∧ w.cell? ⟨b, o + j * 5 + 3, none⟩ = some (.int .i64 ((ts.getD j errQ).at_ : Int)) ∧ w.cell? ⟨b, o + j * 5 + 4, none⟩ = some (.int .i64 ((ts.getD j errQ).to_ : Int)) := by
  obtain ⟨b, o, hA, hbB, hc⟩ := h.cel (by omega)
  exact ⟨b, o, hA, hbB, hc j hj 0 (by omega), hc j hj 1 (by omega), hc j hj 2 (by omega), hc j hj 3 (by omega), hc j hj 4 (by omega)⟩
theorem Tks.trd {ts : List Tk} (h : Tks w base A n c ts) : Trd w w.heap.size A n (ts.map Tk.q) :=
  ⟨by rw [List.length_map]; exact h.len, fun hp => by
    rcases h.form with ⟨_, h0, _⟩ | ⟨g, rfl, hb, hg, _⟩
    · omega
    · refine ⟨g, 0, rfl, hg, fun j hj i hi => ?_⟩
      have := World.ownsRow.cellAt (w := w) (g := g) h (j * 5 + i) (by omega)
      have hj' : j < ts.length := by rw [h.len]; exact hj
      have e : (ts.map Tk.q).getD j errQ = (ts.getD j (errT 0)).q := by simp [List.getD, hj']
      rw [Nat.zero_add, this, e]
      exact tkRow_at ts j i hj' hi⟩
end
end Go.Proofs.YtblcfjliabeaiaaDoor
