/-
  Messages that can be gone through, in memory of their own: the laws' few.
-/
import Derived.Test.YtemfnckaehjhcaaDoorFrC
namespace Go.Proofs.YtemfnckaehjhcaaDoor
open Go.RowKit
attribute [local go_sem ↓] eqA neA eqGA field1

/-- An entry as it came in: its Data lie below block B, however many. -/
structure Ec.raw (w : World) (B : Nat) (x : Ec) : Prop where
  by_ : By w B x.A x.n x.d
  nc : x.n ≤ x.c
  nil : x.A = none → x.c = 0
  cm : x.c ≤ 9223372036854775807
  t0 : 0 ≤ x.t
  t1 : x.t < 18446744073709551616
theorem Ec.raw.below {w w' : World} {B : Nat} {x : Ec} (h : x.raw w B) (hb : Below B w w') : x.raw w' B := ⟨h.by_.below hb, h.nc, h.nil, h.cm, h.t0, h.t1⟩
/-- Entries as they came in. -/
def Ein (w : World) (B : Nat) (A : Option Addr) (n : Nat) (xs : List Ec) : Prop :=
  xs.length = n ∧ (∀ x ∈ xs, x.raw w B) ∧ (0 < n → ∃ b o, A = some ⟨b, o, none⟩ ∧ b < B ∧ w.rangeAt b o (rowE xs))
theorem Ein.below {w w' : World} {B n : Nat} {A : Option Addr} {xs : List Ec} (h : Ein w B A n xs) (hb : Below B w w') : Ein w' B A n xs :=
  ⟨h.1, fun x hx => (h.2.1 x hx).below hb, fun hn => by
    obtain ⟨b, o, e, hbl, hc⟩ := h.2.2 hn
    exact ⟨b, o, e, hbl, fun j v hj => (hb.cell (p := ⟨b, o + j, none⟩) hbl).trans (hc j v hj)⟩⟩
theorem By.take {w : World} {B : Nat} {A : Option Addr} {n : Nat} {zs : List Int} (h : By w B A n zs) {m : Nat} (hm : m ≤ n) : By w B A m (zs.take m) := by
  refine ⟨by rw [List.length_take, h.1]; omega, fun j => ?_, fun hp => ?_⟩
  · have := h.2.1 j
    simp only [List.getD, List.getElem?_take] at this ⊢
    split
    · exact this
    · simp
  · obtain ⟨b, o, hA, hb, hcl⟩ := h.2.2 (by omega)
    refine ⟨b, o, hA, hb, fun j hj => ?_⟩
    rw [hcl j (by omega)]
    simp [List.getD, List.getElem?_take, hj]
theorem Is.take {w : World} {B : Nat} {A : Option Addr} {n : Nat} {xs : List Int} (h : Is w B A n xs) {m : Nat} (hm : m ≤ n) : Is w B A m (xs.take m) := by
  refine ⟨by rw [List.length_take, h.1]; omega, fun hp => ?_⟩
  obtain ⟨b, o, hA, hb, hcl⟩ := h.2 (by omega)
  refine ⟨b, o, hA, hb, fun j hj => ?_⟩
  rw [hcl j (by omega)]
  simp [List.getD, List.getElem?_take, hj]
/-- What few leaves of an entry, of a row of them. -/
def cutE (e : En) : En := ⟨e.t, e.k, e.d.take 1500⟩
def fewE (es : List En) : List En := (es.take 9).map cutE
theorem fewE_succ {xs : List Ec} {x : Ec} {k : Nat} (hx : xs[k]? = some x) (hk : k < 9) : fewE ((xs.take (k + 1)).map Ec.en) = fewE ((xs.take k).map Ec.en) ++ [cutE (Ec.en x)] := by
  unfold fewE
  rw [List.take_of_length_le (l := (xs.take (k + 1)).map Ec.en) (by rw [List.length_map, List.length_take]; omega), List.take_of_length_le (l := (xs.take k).map Ec.en) (by rw [List.length_map, List.length_take]; omega), List.take_add_one, hx, List.map_append, List.map_append]
  rfl
theorem fewE_more (xs : List Ec) {k : Nat} (hk : 9 ≤ k) : fewE ((xs.take k).map Ec.en) = fewE (xs.map Ec.en) := by
  have : (xs.take k).map Ec.en = (xs.map Ec.en).take k := List.map_take
  unfold fewE
  rw [this, List.take_take, Nat.min_eq_left hk]
def fewM (m : Ms) : Ms := { m with es := fewE m.es, mem := m.mem.take 6, da := m.da.take 65537 }

/-- The slice owns its ints. -/
def Ios (w : World) (base : Nat) (A : Option Addr) (n c : Nat) (xs : List Int) : Prop := w.ownsRow base 3 1 (.slice A n c) n (xs.map (Value.int .i64))
theorem Ios.below {w w' : World} {base n c : Nat} {A : Option Addr} {xs : List Int} (h : Ios w base A n c xs) (hb : Below w.heap.size w w') : Ios w' base A n c xs := World.ownsRow.below h hb
theorem Ios.down {w : World} {base base' n c : Nat} {A : Option Addr} {xs : List Int} (h : Ios w base A n c xs) (hb : base' ≤ base) : Ios w base' A n c xs := World.ownsRow.down h hb
theorem Ios.is_ {w : World} {base n c : Nat} {A : Option Addr} {xs : List Int} (h : Ios w base A n c xs) : Is w w.heap.size A n xs ∧ n ≤ c ∧ (A = none → c = 0) := by
  have hl : xs.length = n := by simpa using h.1
  rcases h.2 with ⟨hv, hn⟩ | ⟨g, cap, cur, hv, hb, hh, hnc, _, _, ht⟩
  · injection hv with h1 h2 h3
    exact ⟨⟨hl, fun hp => by omega⟩, by omega, fun _ => h3⟩
  · injection hv with h1 h2 h3
    refine ⟨⟨hl, fun hp => ⟨g, 0, h1, Blk.lt (t := 3) hh, fun j hj => ?_⟩⟩, by omega, fun e => by rw [h1] at e; cases e⟩
    rw [Nat.zero_add]
    subst h1
    have hj' : j < xs.length := by omega
    rw [World.ownsRow.cellAt h j (by omega)]
    simp [List.getD, hj']
theorem Tryd.info3 : (Tryd.prog.info? 3).map (fun i => (i.zero, i.size, i.bytes)) = some (some (.int .i64 0), 1, 8) := by kernel_rfl

set_option maxRecDepth 100000 in
set_option maxHeartbeats 1000000 in
theorem iclone_any (A : Option Addr) (n c B : Nat) (xs : List Int) (w : World) (h : Is w B A n xs) (hbig : n ≤ 1000000) :
    Calls Tryd.prog 25 #[.slice A n c] w fun e w' => ∃ A' c', e = .returned (.slice A' n c') ∧ Ios w' w.heap.size A' n c' xs ∧ Below w.heap.size w w' := by
  have q22 : ∀ (w : World) (a : Option Addr) (n c n' c' : Nat), (binOp .eql 26 (.slice a n c) (.slice none n' c')).run Tryd.prog w = .ok (.bool a.isNone) w := fun w a n c n' c' => Lib.run_eql_slice_nil w _ _ a n c n' c' Tryd.underlying26
  cases A with
  | none =>
    obtain rfl : n = 0 := by
      rcases Nat.eq_zero_or_pos n with h0 | h0
      · exact h0
      · obtain ⟨b, o, hA, _⟩ := h.2 h0
        cases hA
    obtain rfl : xs = [] := List.eq_nil_of_length_eq_zero h.1
    go_enter Tryd.func25, Tryd.ntmps25
    go_wp2
    go_ret
    exact ⟨none, 0, rfl, World.ownsRow_nil _ _ _ _, Below.refl _ _⟩
  | some a =>
    obtain ⟨i0, hi, hz0, hz1, hz2⟩ := info_parts Tryd.info3
    have HL := Lib.hid h.1
    have HC : Hid (∀ i, i < n → w.cell? (a.add i) = some (.int .i64 (xs.getD i 0))) := Lib.hid fun i hi => by
      obtain ⟨b, o, hA, _, hc⟩ := h.2 (by omega)
      injection hA with hA
      subst hA
      rw [add_at]
      exact hc i hi
    clear h
    go_enter Tryd.func25, Tryd.ntmps25
    go_wp2_with (at_builtin; refine wpList_append_own _ rfl _ _ 26 rfl w.heap.size 3 i0 (.int .i64 0) 1 8 Tryd.underlying26 hi hz0 hz1 hz2 rfl (by decide) _ _ _ rfl (World.ownsRow_made w #[] 0 (Nat.le_refl _) (Nat.zero_le _) rfl) a n c (xs.map (Value.int .i64)) rfl ?qc1 ?qc2 ?qc3 ?qc4 ?qc5 ?qc6 ?_)
    case qc1 => have := HL.out; simp; omega
    case qc2 =>
      intro j u hj
      have hjn : j < n := by
        have := (List.getElem?_eq_some_iff.1 hj).1
        rw [List.length_map, HL.out] at this
        exact this
      refine Lib.cell?_alloc_some _ ?_
      rw [HC.out j hjn, ← hj]
      have := HL.out
      simp [List.getD, List.getElem?_eq_getElem (show j < xs.length by omega)]
    case qc3 => intro u hu; obtain ⟨x, _, rfl⟩ := List.mem_map.1 hu; rfl
    case qc4 => unfold maxLen; omega
    case qc5 => omega
    case qc6 => simp
    intro v' w1 hown hgrow hnil
    go_wp2
    go_ret
    obtain ⟨A', c', rfl⟩ : ∃ A' c', v' = .slice A' n c' := by
      rcases hown.2 with ⟨rfl, hn0⟩ | ⟨g, cap, cur, rfl, _⟩
      · exact ⟨none, 0, by rw [show n = 0 by omega]⟩
      · exact ⟨_, _, rfl⟩
    refine ⟨A', c', rfl, ?_, ((Below.refl _ w).alloc (Nat.le_refl _) _).grown hgrow (by simp) (by intro k hk; simp [Value.ownBlock] at hk; omega)⟩
    unfold Ios
    simpa using hown

end Go.Proofs.YtemfnckaehjhcaaDoor
