/-
  Copies of entries in memory of their own: the program's cloned and clone.
-/
import Derived.Test.YtmgaihdepglahaaM1
namespace Go.Proofs.Ytmgaihdepglahaa
open Go.RowKit

theorem Own.set54 {w : World} {base n c g j : Nat} {A : Option Addr} {zs : List Int} {cur : Array Value} {u : Value} (h : Own w base A n c zs) (hg : w.heap[g]? = some (.cells cur 54 (0, 0))) : Own (w.setCell ⟨g, j, none⟩ u) base A n c zs := by
  refine ⟨⟨h.1.1, ?_⟩, h.2⟩
  rcases h.1.2 with hv | ⟨g', cap, cur', hv, hb, hh, r⟩
  · exact .inl hv
  · refine .inr ⟨g', cap, cur', hv, hb, (Below.heap_setCell w ⟨g, j, none⟩ u g' ?_).trans hh, r⟩
    rintro rfl
    rw [show w.heap[(⟨g', j, none⟩ : Addr).block]? = some (.cells cur 54 (0, 0)) from hg] at hh
    injection hh with hh
    injection hh with _ h2 _
    exact absurd h2 (by decide)
/-- The block of a row that one owns. -/
theorem World.ownsRow.blk {w : World} {base e size n c g : Nat} {xs : List Value} (h : w.ownsRow base e size (.slice (some ⟨g, 0, none⟩) n c) n xs) : base ≤ g ∧ g < w.heap.size ∧ ∃ cur, w.heap[g]? = some (.cells cur e (0, 0)) := by
  rcases h.2 with ⟨h', _⟩ | ⟨g', cap', cur, h', hb, hg, _⟩
  · simp at h'
  · simp only [Value.slice.injEq, Option.some.injEq, Addr.mk.injEq, and_true, true_and] at h'
    obtain ⟨rfl, rfl⟩ := h'
    exact ⟨hb, Blk.lt (t := e) hg, cur, hg⟩

/-- An entry whose Data one owns. -/
structure Ec.own (w : World) (base : Nat) (x : Ec) : Prop where
  d : Own w base x.A x.n x.c x.d
  n : x.n ≤ 100000
  t0 : 0 ≤ x.t
  t1 : x.t < 18446744073709551616
theorem Ec.own.below {w w' : World} {base : Nat} {x : Ec} (h : x.own w base) (hb : Below w.heap.size w w') : x.own w' base := ⟨h.d.below hb, h.n, h.t0, h.t1⟩
theorem Ec.own.set54 {w : World} {base g j : Nat} {x : Ec} {cur : Array Value} {u : Value} (h : x.own w base) (hg : w.heap[g]? = some (.cells cur 54 (0, 0))) : x.own (w.setCell ⟨g, j, none⟩ u) base := ⟨h.d.set54 hg, h.n, h.t0, h.t1⟩

theorem rowE_set : ∀ (ys : List Ec) (x : Ec) (r : List Ec) (A : Option Addr) (n c : Nat), (rowE (ys ++ x :: r)).set (ys.length * 3 + 2) (.slice A n c) = rowE (ys ++ ({ x with A := A, n := n, c := c } : Ec) :: r)
  | [], x, r, A, n, c => by simp [rowE, Ec.cs]
  | y :: ys, x, r, A, n, c => by
    rw [List.cons_append, rowE, List.cons_append, rowE, ← rowE_set ys x r A n c, List.set_append_right _ _ (by rw [Ec.cs_len, List.length_cons]; omega), Ec.cs_len, List.length_cons]
    congr 2
    omega

/-- What copies leave: entries of one's own. -/
def Ecloned (w : World) (n : Nat) (es : List En) (e : Ending) (w' : World) : Prop := ∃ A c, e = .returned (.slice A n c) ∧ Eo w' w.heap.size A n c es ∧ Below w.heap.size w w'

/-- Where cloned stands: the first k have Data of their own. -/
def Cln (w0 : World) (n : Nat) (A : Option Addr) (c : Nat) (xs : List Ec) (k : Nat) (w : World) : Prop :=
  ∃ ys : List Ec, ys.length = k ∧ ys.map Ec.en = (xs.take k).map Ec.en ∧ w.ownsRow w0.heap.size 54 3 (.slice A n c) n (rowE (ys ++ xs.drop k)) ∧ (∀ y ∈ ys, y.own w w0.heap.size) ∧ Below w0.heap.size w0 w
theorem Cln.done {w0 w : World} {n c k : Nat} {A : Option Addr} {xs : List Ec} (h : Cln w0 n A c xs k w) (hk : xs.length = k) : Eo w w0.heap.size A n c (xs.map Ec.en) ∧ Below w0.heap.size w0 w := by
  obtain ⟨ys, h1, h2, h3, h4, h5⟩ := h
  rw [List.take_of_length_le (by omega)] at h2
  rw [List.drop_of_length_le (by omega), List.append_nil] at h3
  exact ⟨⟨ys, h2, h3, fun x hx => ⟨(h4 x hx).d, (h4 x hx).n, (h4 x hx).t0, (h4 x hx).t1⟩⟩, h5⟩

set_option maxHeartbeats 1000000 in
theorem cloned_any (A : Option Addr) (n c B : Nat) (es : List En) (w : World) (h : Es w B A n es) (hn : n ≤ 1000000) (hB : B ≤ w.heap.size) :
    Calls Try.prog 58 #[.slice A n c] w (Ecloned w n es) := by
  have EC := Lib.hid (eclone_any A n c B es w h hn)
  have HL := Lib.hid h.len
  clear h
  go_enter Try.func58, Try.ntmps58
  go_wp2_with (go_at_call 73; refine EC.out.mono ?_; rintro e w1 ⟨A1, c1, xs, rfl, hx, ho, hok, hb⟩)
  have HX := Lib.hid hx
  have HK := Lib.hid hok
  have HXL : Hid (xs.length = n) := by rw [← hx] at HL; have := HL.out; rw [List.length_map] at this; exact this
  have hC : Cln w n A1 c1 xs 0 w1 := ⟨[], rfl, rfl, ho, fun y hy => (by cases hy), hb⟩
  clear hx hok ho hb EC HL
  go_loopw [9] (fun i wr => ∃ k : Nat, k ≤ n ∧ i = .int .i64 k ∧ Cln w n A1 c1 xs k wr) (fun i _ => n - (intOf i).toNat)
  case atStart => exact ⟨0, Nat.zero_le _, rfl, hC⟩
  case round =>
    obtain ⟨k, hk, rfl, hCk⟩ := hrel
    by_cases hlt : k < n
    · obtain ⟨ys, hy1, hy2, ho, hown, hb⟩ := hCk
      have hxk : xs[k]? = some (xs[k]'(by rw [HXL.out]; exact hlt)) := List.getElem?_eq_getElem _
      generalize xs[k]'(by rw [HXL.out]; exact hlt) = x at hxk
      have hdrop : xs.drop k = x :: xs.drop (k + 1) := by
        rw [List.drop_eq_getElem_cons (by rw [HXL.out]; exact hlt)]
        congr 1
        rw [List.getElem?_eq_getElem (by rw [HXL.out]; exact hlt)] at hxk
        exact Option.some.inj hxk
      have hxok := HK.out x (List.mem_of_getElem? hxk)
      have htk : xs.take (k + 1) = xs.take k ++ [x] := by rw [List.take_add_one, hxk]; rfl
      rw [hdrop] at ho
      obtain ⟨g, cap, hv, hgb, hgl⟩ := ho.form (by omega)
      injection hv with hA hn' hcc
      subst hA hcc
      obtain ⟨_, _, cur, hcur⟩ := World.ownsRow.blk ho
      have hat : (rowE (ys ++ x :: xs.drop (k + 1)))[k * 3 + 2]? = some (.slice x.A x.n x.c) := by
        have := rowE_at (ys ++ x :: xs.drop (k + 1)) k 2 x (by rw [List.getElem?_append_right (by omega), hy1, Nat.sub_self]; rfl) (by omega)
        exact this
      have hc2 : wr.cell? ⟨g, k * 3 + 2, none⟩ = some (.slice x.A x.n x.c) := by rw [ho.cellAt _ (by omega)]; exact hat
      have BC := Lib.hid (bclone_any x.A x.n x.c x.d wr B (hxok.by_.below (hb.mono hB)) (by have := hxok.n; omega))
      have HO := Lib.hid ho
      have HOW := Lib.hid hown
      have HBW := Lib.hid hb
      have HGB := Lib.hid hgb
      have HC := Lib.hid hcur
      have HG := Lib.hid hgl
      have XO := Lib.hid hxok
      have Y1 := Lib.hid hy1
      have Y2 := Lib.hid hy2
      have TK := Lib.hid htk
      clear hxk hdrop hxok htk ho hcur hat hown hb hy1 hy2 hn' hgb hgl
      go_wp2_with (go_at_call 63; refine BC.out.mono ?_; rintro e w2 ⟨A2, c2, rfl, ho2, hb2⟩; have HO2 := Lib.hid ho2; have HB2 := Lib.hid hb2; have HR2 := Lib.hid (World.ownsRow.below HO.out hb2); have hcc2 : w2.cell? ⟨g, k * 3 + 2, none⟩ = some (.slice x.A x.n x.c) := (hb2.cell (p := ⟨g, k * 3 + 2, none⟩) HG.out).trans hc2; have hff2 : w2.frozen? ⟨g, k * 3 + 2, none⟩ = false := HR2.out.frozenAt _; have HC2 := Lib.hid ((hb2.block g HG.out).trans HC.out); clear ho2 hb2)
      go_roundw
      case rel =>
        refine ⟨k + 1, by omega, by go_num, ys ++ [{ x with A := A2, n := x.n, c := c2 }], ?_, ?_, ?_, ?_, ?_⟩
        · rw [List.length_append, Y1.out]; rfl
        · rw [List.map_append, TK.out, List.map_append, Y2.out]; rfl
        · have := (HR2.out.stored (k * 3 + 2) (.slice A2 x.n c2)).1
          rw [show k * 3 + 2 = ys.length * 3 + 2 by rw [Y1.out], rowE_set] at this
          rw [List.append_assoc]
          rw [Y1.out] at this
          exact this
        · intro y hy
          rcases List.mem_append.1 hy with hy | hy
          · exact ((HOW.out y hy).below HB2.out).set54 HC2.out
          · rw [List.mem_singleton.1 hy]
            exact ⟨(HO2.out.down HBW.out.size).set54 HC2.out, XO.out.n, XO.out.t0, XO.out.t1⟩
        · exact (HBW.out.trans (HB2.out.mono HBW.out.size)).setCell HGB.out _
      case measure => simp [intOf]; omega
    · obtain rfl : k = n := by omega
      have F := Lib.hid (hCk.done HXL.out)
      clear hCk
      go_wp2
      go_ret
      refine ⟨A1, c1, rfl, ?_, F.out.2⟩
      rw [← HX.out]
      exact F.out.1

end Go.Proofs.Ytmgaihdepglahaa
