/-
  How the laws' arguments are opened: a row of tokens.
-/
import Derived.Test.YtblcfjliabeaiaaDoorOp0
import Derived.Test.YtblcfjliabeaiaaDoorLGv
namespace Go.Proofs.YtblcfjliabeaiaaDoor
open Go.ChangeShapes Go.WideShapes Go.ChangeAt Go.RowKit Go.Deep

theorem Tryd.c47 : Tryd.prog.cellsOf 47 = 5 := by kernel_rfl
theorem Tryd.c24 : Tryd.prog.cellsOf 24 = 1 := by kernel_rfl
theorem Tryd.c3 : Tryd.prog.cellsOf 3 = 1 := by kernel_rfl
theorem Tryd.c2 : Tryd.prog.cellsOf 2 = 1 := by kernel_rfl
theorem trod_struct5 {H : Type} {enc : TypeId × Value → H} {P : Program} {w : World} {base : Nat} {spare : Nat → Bool} {held : Bool} {t : TypeId} {f0 f1 f2 f3 f4 : Field} {fuel : Nat} {cs : List Value} {x : DataW H × List MemPlace} (ht : P.underlying t = some (.struct #[f0, f1, f2, f3, f4])) (h : DataW.trod enc P w base spare held fuel t cs = some x) :
    ∃ y0 y1 y2 y3 y4 n, cs.length = P.cellsOf t ∧ DataW.trod enc P w base spare held n f0.type ((cs.drop f0.offset).take (P.cellsOf f0.type)) = some y0 ∧ DataW.trod enc P w base spare held n f1.type ((cs.drop f1.offset).take (P.cellsOf f1.type)) = some y1 ∧ DataW.trod enc P w base spare held n f2.type ((cs.drop f2.offset).take (P.cellsOf f2.type)) = some y2 ∧ DataW.trod enc P w base spare held n f3.type ((cs.drop f3.offset).take (P.cellsOf f3.type)) = some y3 ∧ DataW.trod enc P w base spare held n f4.type ((cs.drop f4.offset).take (P.cellsOf f4.type)) = some y4 := by
  obtain ⟨xs, n, _, rfl, hl, hlen, hf⟩ := DataW.trod_struct ht h
  match xs, hlen with
  | [y0, y1, y2, y3, y4], _ => exact ⟨y0, y1, y2, y3, y4, n, hl, by simpa using hf 0 f0 rfl, by simpa using hf 1 f1 rfl, by simpa using hf 2 f2 rfl, by simpa using hf 3 f3 rfl, by simpa using hf 4 f4 rfl⟩

section
variable {H : Type} {enc : TypeId × Value → H} {W : World}
set_option maxRecDepth 100000 in
theorem open_tok {fuel : Nat} {cs : List Value} {x : DataW H × List MemPlace} (h : DataW.trod enc Tryd.prog W 0 (fun _ => true) true fuel 47 cs = some x) :
    ∃ t : Tq, cs = t.cells ∧ -9223372036854775808 ≤ t.num ∧ t.num ≤ 9223372036854775807 := by
  obtain ⟨y0, y1, y2, y3, y4, n, hlen, h0, h1, h2, h3, h4⟩ := trod_struct5 Tryd.underlying47 h
  rw [Tryd.c47] at hlen
  match cs, hlen with
  | [c0, c1, c2, c3, c4], _ =>
    simp only [Tryd.c3, Tryd.c9, Tryd.c2, List.drop_succ_cons, List.drop_zero, List.take_succ_cons, List.take_zero] at h0 h1 h2 h3 h4
    obtain ⟨k, e0, _⟩ := DataW.trod_int Tryd.underlying3 h0
    obtain ⟨s, e1, _, _⟩ := DataW.trod_string Tryd.underlying9 h1
    obtain ⟨m, e2, _, w2⟩ := DataW.trod_int Tryd.underlying2 h2
    obtain ⟨p, e3, _⟩ := DataW.trod_int Tryd.underlying3 h3
    obtain ⟨q, e4, _⟩ := DataW.trod_int Tryd.underlying3 h4
    injection e0 with e0
    injection e1 with e1
    injection e2 with e2
    injection e3 with e3
    injection e4 with e4
    subst e0 e1 e2 e3 e4
    have hb := bounds_i64 w2
    exact ⟨⟨k, s.data.toList, m, p, q⟩, rfl, hb.1, hb.2⟩

theorem open_row {fuel : Nat} {v : Value} {x : DataW H × List MemPlace} (h : DataW.trod enc Tryd.prog W 0 (fun _ => true) true fuel 24 [v] = some x) :
    ∃ a len cap ts, v = .slice a len cap ∧ Gv W a len cap ts := by
  rcases open_slice Tryd.underlying24 h with ⟨hcs, _⟩ | ⟨x, len, c, m, n, D, Pl, hcs, _, hl, hm, hmm, _, hc⟩
  · injection hcs with hcs
    subst hcs
    exact ⟨none, 0, 0, [], rfl, ⟨rfl, fun h => absurd h (by omega)⟩, Nat.le_refl _, fun _ => rfl, by omega, fun t ht => by cases ht⟩
  · injection hcs with hcs
    subst hcs
    have hlm : len ≤ m := by rw [hmm]; split <;> omega
    have hex : ∀ i, i < len → ∃ t : Tq, (-9223372036854775808 ≤ t.num ∧ t.num ≤ 9223372036854775807) ∧ ∀ r, r < 5 → W.cell? ((x.add (i * 5)).add r) = t.cells[r]? := fun i hi => by
      obtain ⟨cs', hc', ht'⟩ := hc i (by omega)
      obtain ⟨t, rfl, h1, h2⟩ := open_tok ht'
      obtain ⟨_, _, hat⟩ := World.cells?_some hc'
      rw [Tryd.c47] at hat
      exact ⟨t, ⟨h1, h2⟩, fun r hr => hat r hr⟩
    have : Inhabited Tq := ⟨errQ⟩
    obtain ⟨f, hf⟩ := choose_lt hex
    have hget : ∀ i, i < len → ((List.range len).map f).getD i errQ = f i := fun i hi => by simp [List.getD, hi]
    refine ⟨some x, len, c, (List.range len).map f, rfl, ⟨by simp, fun hp => ?_⟩, hl, fun e => (by cases e), by unfold maxLen at hm; omega, fun t ht => ?_⟩
    · have h00 := (hf 0 hp).2 0 (by omega)
      rw [Nat.zero_mul, show x.add 0 = x from rfl] at h00
      obtain ⟨b, o, rfl, hb⟩ := addr_of (h00.trans (show (f 0).cells[0]? = some (.int .i64 (f 0).kind) from rfl))
      refine ⟨b, o, rfl, hb, fun j hj i hi => ?_⟩
      have := (hf j hj).2 i hi
      rw [add_at, add_at] at this
      rw [hget j hj, ← this]
    · obtain ⟨i, hi, rfl⟩ := List.mem_map.1 ht
      exact (hf i (by simpa using hi)).1
end
end Go.Proofs.YtblcfjliabeaiaaDoor
