/-
  How a row of acts, a law's argument, is opened; three logs in one block.
-/
import Derived.Test.YtmgaihdepglahaaOpen
import Derived.Test.YtmgaihdepglahaaN15
namespace Go.Proofs.Ytmgaihdepglahaa
open Go.ChangeShapes Go.WideShapes Go.ChangeAt Go.RowKit Go.Deep

/-- Acts that are done. -/
def Acs (w : World) (B : Nat) (A : Option Addr) (n : Nat) : Prop :=
  0 < n → ∃ b o, A = some ⟨b, o, none⟩ ∧ b < B ∧ ∀ j, j < n → ∃ kd wo wm nn ix d : Int, (0 ≤ ix ∧ ix < 18446744073709551616) ∧ (0 ≤ d ∧ d ≤ 255) ∧
    w.cell? ⟨b, o + j * 6, none⟩ = some (.int .i64 kd) ∧ w.cell? ⟨b, o + j * 6 + 1, none⟩ = some (.int .i64 wo) ∧ w.cell? ⟨b, o + j * 6 + 2, none⟩ = some (.int .i64 wm) ∧ w.cell? ⟨b, o + j * 6 + 3, none⟩ = some (.int .i64 nn) ∧
    w.cell? ⟨b, o + j * 6 + 4, none⟩ = some (.int .u64 ix) ∧ w.cell? ⟨b, o + j * 6 + 5, none⟩ = some (.int .u8 d)
theorem Acs.at_ {w w' : World} {B n j : Nat} {A : Option Addr} (h : Acs w B A n) (hj : j < n) (hb : Below B w w') :
    ∃ b o, ∃ kd wo wm nn ix d : Int, A = some ⟨b, o, none⟩ ∧ b < B ∧ (0 ≤ ix ∧ ix < 18446744073709551616) ∧ (0 ≤ d ∧ d ≤ 255) ∧
    w'.cell? ⟨b, o + j * 6, none⟩ = some (.int .i64 kd) ∧ w'.cell? ⟨b, o + j * 6 + 1, none⟩ = some (.int .i64 wo) ∧ w'.cell? ⟨b, o + j * 6 + 2, none⟩ = some (.int .i64 wm) ∧ w'.cell? ⟨b, o + j * 6 + 3, none⟩ = some (.int .i64 nn) ∧
    w'.cell? ⟨b, o + j * 6 + 4, none⟩ = some (.int .u64 ix) ∧ w'.cell? ⟨b, o + j * 6 + 5, none⟩ = some (.int .u8 d) := by
  obtain ⟨b, o, rfl, hbB, hc⟩ := h (by omega)
  obtain ⟨kd, wo, wm, nn, ix, d, hix, hd, c0, c1, c2, c3, c4, c5⟩ := hc j hj
  have k : ∀ i v, w.cell? ⟨b, i, none⟩ = some v → w'.cell? ⟨b, i, none⟩ = some v := fun i v e => (hb.cell (p := ⟨b, i, none⟩) hbB).trans e
  exact ⟨b, o, kd, wo, wm, nn, ix, d, rfl, hbB, hix, hd, k _ _ c0, k _ _ c1, k _ _ c2, k _ _ c3, k _ _ c4, k _ _ c5⟩

section
variable {H : Type} {enc : TypeId × Value → H} {W : World}
theorem Try.cells74 : Try.prog.cellsOf 74 = 6 := by kernel_rfl
theorem trod_struct6 {P : Program} {w : World} {base : Nat} {spare : TypeId → Bool} {held : Bool} {t : TypeId} {f0 f1 f2 f3 f4 f5 : Field} {fuel : Nat} {cs : List Value} {x : DataW H × List MemPlace} (ht : P.underlying t = some (.struct #[f0, f1, f2, f3, f4, f5])) (h : DataW.trod enc P w base spare held fuel t cs = some x) :
    ∃ y0 y1 y2 y3 y4 y5 n, cs.length = P.cellsOf t ∧ DataW.trod enc P w base spare held n f0.type ((cs.drop f0.offset).take (P.cellsOf f0.type)) = some y0 ∧
      DataW.trod enc P w base spare held n f1.type ((cs.drop f1.offset).take (P.cellsOf f1.type)) = some y1 ∧ DataW.trod enc P w base spare held n f2.type ((cs.drop f2.offset).take (P.cellsOf f2.type)) = some y2 ∧
      DataW.trod enc P w base spare held n f3.type ((cs.drop f3.offset).take (P.cellsOf f3.type)) = some y3 ∧ DataW.trod enc P w base spare held n f4.type ((cs.drop f4.offset).take (P.cellsOf f4.type)) = some y4 ∧
      DataW.trod enc P w base spare held n f5.type ((cs.drop f5.offset).take (P.cellsOf f5.type)) = some y5 := by
  obtain ⟨xs, n, _, rfl, hl, hlen, hf⟩ := DataW.trod_struct ht h
  match xs, hlen with
  | [y0, y1, y2, y3, y4, y5], _ => exact ⟨y0, y1, y2, y3, y4, y5, n, hl, by simpa using hf 0 f0 rfl, by simpa using hf 1 f1 rfl, by simpa using hf 2 f2 rfl, by simpa using hf 3 f3 rfl, by simpa using hf 4 f4 rfl, by simpa using hf 5 f5 rfl⟩
set_option maxRecDepth 100000 in
theorem open_act {fuel : Nat} {cs : List Value} {x : DataW H × List MemPlace} (h : DataW.trod enc Try.prog W 0 (fun _ => true) true fuel 74 cs = some x) :
    ∃ kd wo wm nn ix d : Int, cs = [.int .i64 kd, .int .i64 wo, .int .i64 wm, .int .i64 nn, .int .u64 ix, .int .u8 d] ∧ (0 ≤ ix ∧ ix < 18446744073709551616) ∧ (0 ≤ d ∧ d ≤ 255) := by
  obtain ⟨y0, y1, y2, y3, y4, y5, n, hlen, h0, h1, h2, h3, h4, h5⟩ := trod_struct6 Try.underlying74 h
  rw [Try.cells74] at hlen
  match cs, hlen with
  | [c0, c1, c2, c3, c4, c5], _ =>
    simp only [Try.cells22, Try.cells3, Try.cells5, List.drop_succ_cons, List.drop_zero, List.take_succ_cons, List.take_zero] at h0 h1 h2 h3 h4 h5
    obtain ⟨kd, e0, _⟩ := DataW.trod_int Try.underlying3 h0
    obtain ⟨wo, e1, _⟩ := DataW.trod_int Try.underlying3 h1
    obtain ⟨wm, e2, _⟩ := DataW.trod_int Try.underlying3 h2
    obtain ⟨nn, e3, _⟩ := DataW.trod_int Try.underlying3 h3
    obtain ⟨ix, e4, _, w4⟩ := DataW.trod_int Try.underlying22 h4
    obtain ⟨d, e5, _, w5⟩ := DataW.trod_int Try.underlying5 h5
    injection e0 with e0
    injection e1 with e1
    injection e2 with e2
    injection e3 with e3
    injection e4 with e4
    injection e5 with e5
    subst e0 e1 e2 e3 e4 e5
    have hd : 0 ≤ d ∧ d ≤ 255 := bounds_u8 w5
    exact ⟨kd, wo, wm, nn, ix, d, rfl, bounds_u64' w4, hd⟩
set_option maxRecDepth 100000 in
theorem open_acts {a : Option Addr} {len cap : Nat} {d : DataW H} {p : List MemPlace} (h : DataW.Trod enc Try.prog W 0 (fun _ => true) true 72 (.slice a len cap) d p) : ∃ _u : Unit, Acs W W.heap.size a len := by
  obtain ⟨fuel, hf⟩ := h
  refine ⟨(), fun hp => ?_⟩
  rcases open_slice Try.underlying72 hf with ⟨hcs, _⟩ | ⟨x, l, c, m, n, D, Pl, hcs, _, hl, hm, hmm, _, hc⟩
  · simp [Value.cells] at hcs
    obtain ⟨rfl, rfl, rfl⟩ := hcs
    omega
  · simp [Value.cells] at hcs
    obtain ⟨rfl, rfl, rfl⟩ := hcs
    have hlm : len ≤ m := by rw [hmm]; split <;> omega
    have hex : ∀ j, j < len → ∃ kd wo wm nn ix d : Int, (0 ≤ ix ∧ ix < 18446744073709551616) ∧ (0 ≤ d ∧ d ≤ 255) ∧ W.cell? ((x.add (j * 6)).add 0) = some (.int .i64 kd) ∧ W.cell? ((x.add (j * 6)).add 1) = some (.int .i64 wo) ∧ W.cell? ((x.add (j * 6)).add 2) = some (.int .i64 wm) ∧ W.cell? ((x.add (j * 6)).add 3) = some (.int .i64 nn) ∧ W.cell? ((x.add (j * 6)).add 4) = some (.int .u64 ix) ∧ W.cell? ((x.add (j * 6)).add 5) = some (.int .u8 d) := fun j hj => by
      obtain ⟨cs', hc', ht'⟩ := hc j (by omega)
      obtain ⟨kd, wo, wm, nn, ix, d, rfl, hix, hd⟩ := open_act ht'
      obtain ⟨_, _, hat⟩ := World.cells?_some hc'
      rw [Try.cells74] at hat
      exact ⟨kd, wo, wm, nn, ix, d, hix, hd, hat 0 (by omega), hat 1 (by omega), hat 2 (by omega), hat 3 (by omega), hat 4 (by omega), hat 5 (by omega)⟩
    obtain ⟨kd, wo, wm, nn, ix, d, _, _, h00, _⟩ := hex 0 hp
    rw [Nat.zero_mul, show x.add 0 = x from rfl] at h00
    obtain ⟨b, o, rfl, hb⟩ := addr_of h00
    refine ⟨b, o, rfl, hb, fun j hj => ?_⟩
    obtain ⟨kd, wo, wm, nn, ix, d, hix, hd, c0, c1, c2, c3, c4, c5⟩ := hex j hj
    rw [add_at, add_at] at c0 c1 c2 c3 c4 c5
    exact ⟨kd, wo, wm, nn, ix, d, hix, hd, c0, c1, c2, c3, c4, c5⟩
end

theorem arr_at {w : World} {p who : Nat} {L : Nat → Lg} {A : Nat → Option Addr} {n c : Nat → Nat} (h : Blk w p 50 (arr L A n c)) (hw : who < 3) :
    w.cell? ⟨p, who * 3, none⟩ = some (.int .u64 (L who).bi) ∧ w.cell? ⟨p, who * 3 + 1, none⟩ = some (.int .u64 (L who).bt) ∧ w.cell? ⟨p, who * 3 + 2, none⟩ = some (.slice (A who) (n who) (c who)) := by
  rcases (by omega : who = 0 ∨ who = 1 ∨ who = 2) with rfl | rfl | rfl <;> exact ⟨h.cell _, h.cell _, h.cell _⟩
theorem arr_set {w : World} {p who : Nat} {L : Nat → Lg} {A : Nat → Option Addr} {n c : Nat → Nat} (h : Blk w p 50 (arr L A n c)) (hw : who < 3) (X : Lg) (A' : Option Addr) (n' c' : Nat) :
    Blk (((w.setCell ⟨p, who * 3, none⟩ (.int .u64 X.bi)).setCell ⟨p, who * 3 + 1, none⟩ (.int .u64 X.bt)).setCell ⟨p, who * 3 + 2, none⟩ (.slice A' n' c')) p 50 (arr (upd L who X) (upd A who A') (upd n who n') (upd c who c')) := by
  have := ((h.set_ (who * 3) (.int .u64 X.bi)).set_ (who * 3 + 1) (.int .u64 X.bt)).set_ (who * 3 + 2) (.slice A' n' c')
  have e : (((arr L A n c).setIfInBounds (who * 3) (.int .u64 X.bi)).setIfInBounds (who * 3 + 1) (.int .u64 X.bt)).setIfInBounds (who * 3 + 2) (.slice A' n' c') = arr (upd L who X) (upd A who A') (upd n who n') (upd c who c') := by
    rcases (by omega : who = 0 ∨ who = 1 ∨ who = 2) with rfl | rfl | rfl <;> simp [arr, upd]
  rw [e] at this
  exact this

end Go.Proofs.Ytmgaihdepglahaa
