/-
  What is written over a log: only its own blocks turn.
-/
import Derived.Test.YtmgaihdepglahaaM3
namespace Go.Proofs.Ytmgaihdepglahaa
open Go.RowKit

/-- Only blocks from base on, below s, turned; and new ones are there. -/
structure Outs (base s : Nat) (w w' : World) : Prop where
  os : w'.os = w.os
  tape : w'.tape = w.tape
  output : w'.output = w.output
  size : w.heap.size ≤ w'.heap.size
  block : ∀ k, k < base ∨ s ≤ k → k < w.heap.size → w'.heap[k]? = w.heap[k]?
theorem Outs.refl (base s : Nat) (w : World) : Outs base s w w := ⟨rfl, rfl, rfl, Nat.le_refl _, fun _ _ _ => rfl⟩
theorem Outs.setCell {base s : Nat} {w w' : World} (h : Outs base s w w') {p : Addr} (h1 : base ≤ p.block) (h2 : p.block < s) (v : Value) : Outs base s w (w'.setCell p v) :=
  ⟨h.os, h.tape, h.output, by simp [World.setCell]; exact h.size, fun k hk hl => (Below.heap_setCell w' p v k (by omega)).trans (h.block k hk hl)⟩
theorem Outs.below {base s : Nat} {w w' : World} (h : Outs base s w w') (hb : base ≤ w.heap.size) : Below base w w' := ⟨h.os, h.tape, h.output, h.size, fun k hk => h.block k (Or.inl hk) (by omega)⟩
theorem Outs.keep {base s : Nat} {w w' : World} (h : Outs base s w w') {g : Nat} {t : TypeId} {cs : Array Value} (hb : Blk w g t cs) (hg : g < base ∨ s ≤ g) : Blk w' g t cs := (h.block g hg hb.lt).trans hb

/-- The slice owns its entries, and their Data, in blocks from base on, below s. -/
def EoT (w : World) (base s : Nat) (A : Option Addr) (n c : Nat) (es : List En) : Prop :=
  s ≤ w.heap.size ∧ ∃ xs : List Ec, xs.map Ec.en = es ∧ w.ownsRow base 54 3 (.slice A n c) n (rowE xs) ∧ (∀ k, (Value.slice A n c).ownBlock = some k → k < s) ∧
    ∀ x ∈ xs, (Own w base x.A x.n x.c x.d ∧ x.n ≤ 100000 ∧ 0 ≤ x.t ∧ x.t < 18446744073709551616) ∧ (∀ k, (Value.slice x.A x.n x.c).ownBlock = some k → k < s)
theorem EoT.of {w : World} {base n c : Nat} {A : Option Addr} {es : List En} (h : Eo w base A n c es) : EoT w base w.heap.size A n c es := by
  obtain ⟨xs, h1, h2, h3⟩ := h
  exact ⟨Nat.le_refl _, xs, h1, h2, fun k hk => (h2.lt k hk).2, fun x hx => ⟨h3 x hx, fun k hk => ((h3 x hx).1.1.lt k hk).2⟩⟩
theorem EoT.eo {w : World} {base s n c : Nat} {A : Option Addr} {es : List En} (h : EoT w base s A n c es) : Eo w base A n c es := by
  obtain ⟨_, xs, h1, h2, _, h3⟩ := h
  exact ⟨xs, h1, h2, fun x hx => (h3 x hx).1⟩
theorem World.ownsRow.keepT {w w' : World} {base s e size n : Nat} {v : Value} {xs : List Value} (h : w.ownsRow base e size v n xs) (hs : ∀ k, v.ownBlock = some k → k < s) (hk : ∀ k, base ≤ k → k < s → k < w.heap.size → w'.heap[k]? = w.heap[k]?) : w'.ownsRow base e size v n xs := by
  refine ⟨h.1, ?_⟩
  rcases h.2 with hv | ⟨g, cap, cur, rfl, hbs, hh, r⟩
  · exact .inl hv
  · exact .inr ⟨g, cap, cur, rfl, hbs, (hk g hbs (hs g rfl) (Blk.lt (t := e) hh)).trans hh, r⟩
theorem EoT.keep {w w' : World} {base s n c : Nat} {A : Option Addr} {es : List En} (h : EoT w base s A n c es) (hz : w.heap.size ≤ w'.heap.size) (hk : ∀ k, base ≤ k → k < s → k < w.heap.size → w'.heap[k]? = w.heap[k]?) : EoT w' base s A n c es := by
  obtain ⟨h0, xs, h1, h2, h3, h4⟩ := h
  exact ⟨by omega, xs, h1, World.ownsRow.keepT h2 h3 hk, h3, fun x hx => ⟨⟨⟨World.ownsRow.keepT (h4 x hx).1.1.1 (h4 x hx).2 hk, (h4 x hx).1.1.2⟩, (h4 x hx).1.2⟩, (h4 x hx).2⟩⟩
theorem EoT.below {w w' : World} {base s n c : Nat} {A : Option Addr} {es : List En} (h : EoT w base s A n c es) (hb : Below w.heap.size w w') : EoT w' base s A n c es := h.keep hb.size fun k _ _ hl => hb.block k hl
theorem EoT.belowT {w w' : World} {base s B n c : Nat} {A : Option Addr} {es : List En} (h : EoT w base s A n c es) (hb : Below B w w') (hB : s ≤ B) : EoT w' base s A n c es := h.keep hb.size fun k _ hs _ => hb.block k (by omega)
theorem EoT.outs {w w' : World} {base s base' s' n c : Nat} {A : Option Addr} {es : List En} (h : EoT w base s A n c es) (ho : Outs base' s' w w') (hd : s ≤ base' ∨ s' ≤ base) : EoT w' base s A n c es :=
  h.keep ho.size fun k h1 h2 hl => ho.block k (by omega) hl
theorem EoT.only {w w' : World} {base s n c g : Nat} {A : Option Addr} {es : List En} {t : TypeId} {cs : Array Value} (h : EoT w base s A n c es) (hg : Blk w g t cs) (h54 : 54 ≠ t) (h5 : 5 ≠ t) (ho : Only g w w') : EoT w' base s A n c es := by
  obtain ⟨h0, xs, h1, h2, h3, h4⟩ := h
  exact ⟨by rw [ho.size]; exact h0, xs, h1, World.ownsRow.only h2 hg h54 ho, h3, fun x hx => ⟨⟨⟨World.ownsRow.only (h4 x hx).1.1.1 hg h5 ho, (h4 x hx).1.1.2⟩, (h4 x hx).1.2⟩, (h4 x hx).2⟩⟩

/-- Where the loops stand. -/
structure OvI (w0 : World) (base s p : Nat) (BX : Array Value) (g : Nat) (xs : List Ec) (W : World) : Prop where
  box : Blk W p 27 BX
  row : ∃ cur, Blk W g 54 cur ∧ ∀ j x, xs[j]? = some x → cur[j * 3 + 2]? = some (.slice x.A x.n x.c) ∧ ∃ t, cur[j * 3]? = some (.int .u64 t)
  dat : ∀ x ∈ xs, 0 < x.n → ∃ b zs, x.A = some ⟨b, 0, none⟩ ∧ base ≤ b ∧ b < s ∧ Blk W b 5 zs ∧ ∀ k, k < x.n → ∃ z, zs[k]? = some (.int .u8 z)
  out : Outs base s w0 W
theorem Blk.two_types {w : World} {g : Nat} {t t' : TypeId} {cs cs' : Array Value} (h : Blk w g t cs) (h' : Blk w g t' cs') : t = t' ∧ cs = cs' := by
  have e := h.symm.trans h'
  injection e with e
  injection e with e1 e2
  exact ⟨e2, e1⟩
theorem OvI.set5 {w0 W : World} {base s p g : Nat} {BX : Array Value} {xs : List Ec} (h : OvI w0 base s p BX g xs W) (hp : s ≤ p) {b : Nat} {zs : Array Value} (hb : Blk W b 5 zs) (h1 : base ≤ b) (h2 : b < s) (k : Nat) (z : Int) :
    OvI w0 base s p BX g xs (W.setCell ⟨b, k, none⟩ (.int .u8 z)) := by
  refine ⟨h.box.far (p := ⟨b, k, none⟩) (by show p ≠ b; omega) _, ?_, fun x hx hn => ?_, h.out.setCell h1 h2 _⟩
  · obtain ⟨cur, c1, c2⟩ := h.row
    refine ⟨cur, c1.far (p := ⟨b, k, none⟩) (fun e => ?_) _, c2⟩
    have e : g = b := e
    subst e
    have := (c1.two_types hb).1
    cases this
  · obtain ⟨b', zs', e1, e2, e3, e4, e5⟩ := h.dat x hx hn
    by_cases hbb : b' = b
    · subst hbb
      obtain ⟨_, rfl⟩ := e4.two_types hb
      refine ⟨b', zs'.setIfInBounds k (.int .u8 z), e1, e2, e3, e4.set_ k _, fun j hj => ?_⟩
      obtain ⟨z', hz'⟩ := e5 j hj
      rw [Array.getElem?_setIfInBounds]
      by_cases hjk : k = j
      · subst hjk
        have hlt := (Array.getElem?_eq_some_iff.1 hz').1
        rw [if_pos rfl, if_pos hlt]
        exact ⟨z, rfl⟩
      · rw [if_neg hjk]
        exact ⟨z', hz'⟩
    · exact ⟨b', zs', e1, e2, e3, e4.far (p := ⟨b, k, none⟩) hbb _, e5⟩
theorem OvI.set54 {w0 W : World} {base s p g : Nat} {BX : Array Value} {xs : List Ec} (h : OvI w0 base s p BX g xs W) (hp : s ≤ p) (h1 : base ≤ g) (h2 : g < s) (k : Nat) (z : Int) :
    OvI w0 base s p BX g xs (W.setCell ⟨g, k * 3, none⟩ (.int .u64 z)) := by
  obtain ⟨cur, c1, c2⟩ := h.row
  refine ⟨h.box.far (p := ⟨g, k * 3, none⟩) (by show p ≠ g; omega) _, ⟨cur.setIfInBounds (k * 3) (.int .u64 z), c1.set_ _ _, fun j x hx => ?_⟩, fun x hx hn => ?_, h.out.setCell h1 h2 _⟩
  · obtain ⟨d1, t, d2⟩ := c2 j x hx
    rw [Array.getElem?_setIfInBounds, if_neg (by omega), Array.getElem?_setIfInBounds]
    refine ⟨d1, ?_⟩
    by_cases hjk : k * 3 = j * 3
    · have hlt := (Array.getElem?_eq_some_iff.1 d2).1
      rw [if_pos hjk, if_pos (by omega)]
      exact ⟨z, rfl⟩
    · rw [if_neg hjk]
      exact ⟨t, d2⟩
  · obtain ⟨b', zs', e1, e2, e3, e4, e5⟩ := h.dat x hx hn
    refine ⟨b', zs', e1, e2, e3, e4.far (p := ⟨g, k * 3, none⟩) (fun e => ?_) _, e5⟩
    have e : b' = g := e
    subst e
    have := (c1.two_types e4).1
    cases this
theorem Own.bytes_at {w : World} {base n c s : Nat} {A : Option Addr} {zs : List Int} (h : Own w base A n c zs) (hs : ∀ k, (Value.slice A n c).ownBlock = some k → k < s) (hn : 0 < n) :
    ∃ b cs, A = some ⟨b, 0, none⟩ ∧ base ≤ b ∧ b < s ∧ Blk w b 5 cs ∧ ∀ k, k < n → ∃ z, cs[k]? = some (.int .u8 z) := by
  have h1 := h.1.1
  rcases h.1.2 with ⟨_, h0⟩ | ⟨g, cap, cur, hv, hb, hh, hnc, _, hcs, ht⟩
  · omega
  · injection hv with e1 e2 e3
    subst e1
    refine ⟨g, cur, rfl, hb, hs g rfl, hh, fun k hk => ?_⟩
    have e : (cur.toList.take (n * 1))[k]? = (zs.map (Value.int .u8))[k]? := by rw [ht]
    rw [List.getElem?_take, if_pos (by omega), Array.getElem?_toList] at e
    rw [List.length_map] at h1
    rw [e, List.getElem?_map, List.getElem?_eq_getElem (by omega)]
    exact ⟨_, rfl⟩
theorem EoT.ovi {w : World} {base s n c : Nat} {A : Option Addr} {es : List En} (h : EoT w base s A n c es) (hn : 0 < n) (BX : Array Value) :
    ∃ g xs, A = some ⟨g, 0, none⟩ ∧ base ≤ g ∧ g < s ∧ xs.length = n ∧ (∀ x ∈ xs, x.n ≤ 100000) ∧ OvI (w.alloc (.cells BX 27)) base s w.heap.size BX g xs (w.alloc (.cells BX 27)) := by
  obtain ⟨h0, xs, h1, h2, h3, h4⟩ := h
  have hlen := h2.1
  rw [rowE_len] at hlen
  rcases h2.2 with ⟨_, h00⟩ | ⟨g, cap, cur, hv, hb, hh, hnc, _, hcs, ht⟩
  · omega
  · injection hv with e1 e2 e3
    subst e1
    refine ⟨g, xs, rfl, hb, h3 g rfl, by omega, fun x hx => (h4 x hx).1.2.1, Blk.new _ _ _, ⟨cur, Blk.alloc hh _, fun j x hx => ?_⟩, fun x hx hxn => ?_, Outs.refl _ _ _⟩
    · have hj := (List.getElem?_eq_some_iff.1 hx).1
      have key : ∀ i, i < 3 → cur[j * 3 + i]? = x.cs[i]? := fun i hi => by
        have e : (cur.toList.take (n * 3))[j * 3 + i]? = (rowE xs)[j * 3 + i]? := by rw [ht]
        rw [List.getElem?_take, if_pos (by omega), Array.getElem?_toList, rowE_at xs j i x hx hi] at e
        exact e
      exact ⟨key 2 (by omega), x.t, key 0 (by omega)⟩
    · obtain ⟨b, cs, e1, e2, e3, e4, e5⟩ := (h4 x hx).1.1.bytes_at (h4 x hx).2 hxn
      exact ⟨b, cs, e1, e2, e3, e4.alloc _, e5⟩

end Go.Proofs.Ytmgaihdepglahaa
