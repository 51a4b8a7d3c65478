/-
  The law DiskRuns, walked.
-/
import Derived.Test.YtdhompiapklnaaaG0
import Derived.Test.YtdhompiapklnaaaAs
import Derived.Test.YtdhompiapklnaaaR1
namespace Go.Proofs.Ytdhompiapklnaaa
open Go.RowKit

/-- The disk S, and the document's S' in block b7. -/
structure RS (w0 : World) (base p gs b7 : Nat) (F : Nat → Prop) (S S' : DSt) (r : List Value) (w : World) : Prop where
  dk : Dk w base p gs S
  row : RRow F w S' r
  b7 : Blk w b7 32 r.toArray
  bel : Below w0.heap.size w0 w
  bb : w0.heap.size ≤ base
section
variable {w0 w w' : World} {base p gs b7 : Nat} {F G : Nat → Prop} {S S' S2 : DSt} {r r2 : List Value}
theorem RS.low (h : RS w0 base p gs b7 F S S' r w) (hb : Below w.heap.size w w') : RS w0 base p gs b7 F S S' r w' :=
  ⟨h.dk.below hb, h.row.below hb, h.b7.below hb h.b7.lt, h.bel.trans (hb.mono h.bel.size), h.bb⟩
theorem RS.alloc (h : RS w0 base p gs b7 F S S' r w) (o : Obj) : RS w0 base p gs b7 F S S' r (w.alloc o) := h.low ((Below.refl _ _).alloc (Nat.le_refl _) o)
theorem Dk.pb (h : Dk w base p gs S) : ∃ cs, Blk w p 73 cs := by obtain ⟨_, _, hb, _⟩ := h.own; exact ⟨_, hb⟩
theorem Dk.gb (h : Dk w base p gs S) : ∃ cs, Blk w gs 39 cs := by obtain ⟨_, _, _, ho, _⟩ := h.own; exact ho.gs.2
theorem RS.fr (h : RS w0 base p gs b7 F S S' r w) (hd : Dk w' base p gs S2) (hf : Fr base p gs w w') (hF : ∀ g, F g → g ≠ gs) : RS w0 base p gs b7 F S2 S' r w' := by
  obtain ⟨_, hp⟩ := h.dk.pb
  obtain ⟨_, hg⟩ := h.dk.gb
  exact ⟨hd, h.row.fr h.dk hf hF, h.b7.fr hf (h.b7.ne hp (by decide)) (h.b7.ne hg (by decide)) (by decide), h.bel.trans ⟨hf.os, hf.tape, hf.output, hf.size, fun i hi => hf.block i (Nat.lt_of_lt_of_le hi h.bel.size) (.inl (Nat.lt_of_lt_of_le hi h.bb))⟩, h.bb⟩
theorem Dk.only (h : Dk w base p gs S) {g : Nat} {t : TypeId} {c : Array Value} (ho : Only g w w') (hb : Blk w g t c) (h73 : t ≠ 73) (hg : g ≠ gs) (h86 : t ≠ 86) : Dk w' base p gs S := by
  obtain ⟨_, hp⟩ := h.pb
  exact h.keep (ho.block p (hp.ne hb (Ne.symm h73))) (ho.block gs (Ne.symm hg)) fun g2 cur _ hb2 => ho.block g2 (hb2.ne hb (Ne.symm h86))
theorem RRow.apart (h : RRow F w S r) {g : Nat} {c : Array Value} (ho : Only g w w') (hb : Blk w g 39 c) (hF : ∀ x, F x → x ≠ g) : RRow F w' S r := by
  obtain ⟨Ah, ch, Aq, cq, dm, h1, rfl, h3, h4, h5⟩ := h
  exact ⟨Ah, ch, Aq, cq, dm, h1, rfl, h3.keep fun x _ _ hv _ => ho.block x (hF _ (h5 _ (h3.at_form hv))), h4.keep fun x _ _ _ hb2 => ho.block x (hb2.ne hb (by decide)), h5⟩
theorem RRow.weak (h : RRow F w S r) (hFG : ∀ g, F g → G g) : RRow G w S r := by
  obtain ⟨Ah, ch, Aq, cq, dm, h1, rfl, h3, h4, h5⟩ := h
  exact ⟨Ah, ch, Aq, cq, dm, h1, rfl, h3, h4, fun g e => hFG g (h5 g e)⟩
theorem RRow.new_ (h : RRow F w S r) {g : Nat} (hg : w.heap.size ≤ g) : RRow (fun x => F x ∧ x ≠ g) w S r := by
  obtain ⟨Ah, ch, Aq, cq, dm, h1, rfl, h3, h4, h5⟩ := h
  refine ⟨Ah, ch, Aq, cq, dm, h1, rfl, h3, h4, fun x e => ⟨h5 x e, ?_⟩⟩
  subst e
  have := (h3.gs.2).choose_spec.lt
  omega
/-- The row of the document's disk is put into its block. -/
theorem RS.put7 (h : RS w0 base p gs b7 F S S' r w) (ho : Only b7 w w') (hb : Blk w' b7 32 r2.toArray) (hr : RRow G w S2 r2) (h7 : w0.heap.size ≤ b7) : RS w0 base p gs b7 G S S2 r2 w' := by
  obtain ⟨_, hg⟩ := h.dk.gb
  exact ⟨h.dk.only ho h.b7 (by decide) (h.b7.ne hg (by decide)) (by decide), hr.only ho h.b7, hb, h.bel.trans (ho.below h7), h.bb⟩
/-- A store into 64 bytes elsewhere. -/
theorem RS.put39 (h : RS w0 base p gs b7 F S S' r w) {g : Nat} {c : Array Value} (ho : Only g w w') (hb : Blk w g 39 c) (hg : g ≠ gs) (hF : ∀ x, F x → x ≠ g) (hw : w0.heap.size ≤ g) : RS w0 base p gs b7 F S S' r w' :=
  ⟨h.dk.only ho hb (by decide) hg (by decide), h.row.apart ho hb hF, ho.keep h.b7 (h.b7.ne hb (by decide)), h.bel.trans (ho.below hw), h.bb⟩
theorem RS.weak (h : RS w0 base p gs b7 F S S' r w) (hFG : ∀ g, F g → G g) : RS w0 base p gs b7 G S S' r w := ⟨h.dk, h.row.weak hFG, h.b7, h.bel, h.bb⟩
end
theorem Rk.row {w : World} {gs : Nat} {m : Array Value} {S : DSt} (h : Rk w gs m S) : ∃ r, m = r.toArray ∧ RRow (fun g => g ≠ gs) w S r := by
  obtain ⟨vh, vq, dm, rfl, hd, h1, h2, h3⟩ := h.own
  obtain ⟨Ah, ch, rfl⟩ := h1.val
  obtain ⟨Aq, cq, rfl⟩ := h2.val
  rw [List.length_map] at *
  exact ⟨rrow Ah S.has.length ch Aq S.q.length cq S.armed dm S.dead S.ops, rfl, Ah, ch, Aq, cq, dm, hd, rfl, h1, h2, fun g e he => h3 (by subst e; subst he; rfl)⟩

end Go.Proofs.Ytdhompiapklnaaa
