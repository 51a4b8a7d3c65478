/-
  What is read hangs on no token behind the last one.
-/
import Derived.Test.YtiipglmbfgmbbaaGreatDoorPkW
namespace Go.Proofs.YtiipglmbfgmbbaaGreatDoor
open Go.RowKit Go.Shelf

def lastE {α : Type} : Except (Int × Nat) (α × Nat) → Nat
  | .error x => x.2
  | .ok x => x.2
/-- It reads from r on, and hangs on the tokens up to the last one. -/
def Lo {α : Type} (r : Nat) (X : List Tk → Nat → Rx α) : Prop :=
  ∀ (L L' : List Tk) (E E' : Nat) (y : Except (Int × Nat) (α × Nat)), X L E = some y → r ≤ lastE y ∧ ((∀ j, j ≤ lastE y → tokAt L E j = tokAt L' E' j) → X L' E' = some y)
theorem Lo.weak {α : Type} {r r' : Nat} {X : List Tk → Nat → Rx α} (h : Lo r X) (hr : r' ≤ r) : Lo r' X := fun L L' E E' y hy => ⟨Nat.le_trans hr (h L L' E E' y hy).1, (h L L' E E' y hy).2⟩
theorem Lo.ok {α : Type} {r r' : Nat} (v : α) (h : r ≤ r') : Lo r (fun _ _ => rok v r') := fun L L' E E' y hy => by
  injection hy with hy
  subst hy
  exact ⟨h, fun _ => rfl⟩
theorem Lo.err {α : Type} {r i : Nat} (e : Int) (h : r ≤ i) : Lo r (fun _ _ => (some (.error (e, i)) : Rx α)) := fun L L' E E' y hy => by
  injection hy with hy
  subst hy
  exact ⟨h, fun _ => rfl⟩
theorem Lo.none {α : Type} {r : Nat} : Lo r (fun _ _ => (Option.none : Rx α)) := fun _ _ _ _ _ hy => by cases hy
/-- The next token decides. -/
theorem Lo.tok {α : Type} {r : Nat} {F : Tk → List Tk → Nat → Rx α} (h : ∀ t, Lo r (F t)) : Lo r (fun L E => F (tokAt L E r) L E) := fun L L' E E' y hy => by
  have k := h (tokAt L E r) L L' E E' y hy
  refine ⟨k.1, fun ha => ?_⟩
  show F (tokAt L' E' r) L' E' = some y
  rw [← ha r k.1]
  exact k.2 ha
theorem Lo.rb {α β : Type} {r : Nat} {a : List Tk → Nat → Rx α} {f : α → Nat → List Tk → Nat → Rx β} (ha : Lo r a) (hf : ∀ v r', r ≤ r' → Lo r' (f v r')) : Lo r (fun L E => Go.Proofs.YtiipglmbfgmbbaaGreatDoor.rb (a L E) (fun v r' => f v r' L E)) := fun L L' E E' y hy => by
  replace hy : Go.Proofs.YtiipglmbfgmbbaaGreatDoor.rb (a L E) (fun v r' => f v r' L E) = some y := hy
  cases hx : a L E with
  | none => rw [show Go.Proofs.YtiipglmbfgmbbaaGreatDoor.rb (a L E) (fun v r' => f v r' L E) = Option.none from by rw [hx]; rfl] at hy; cases hy
  | some x =>
    have k := ha L L' E E' x hx
    rcases x with ⟨e, i⟩ | ⟨v, r'⟩
    · rw [rb_err hx] at hy
      injection hy with hy
      subst hy
      exact ⟨k.1, fun hh => rb_err (k.2 hh)⟩
    · rw [rb_ok hx] at hy
      have k2 := hf v r' k.1 L L' E E' y hy
      refine ⟨Nat.le_trans k.1 k2.1, fun hh => ?_⟩
      show Go.Proofs.YtiipglmbfgmbbaaGreatDoor.rb (a L' E') (fun v r' => f v r' L' E') = some y
      rw [rb_ok (k.2 fun j hj => hh j (Nat.le_trans hj k2.1))]
      exact k2.2 hh
theorem Lo.ite {α : Type} {r : Nat} {c : Prop} [Decidable c] {X Y : List Tk → Nat → Rx α} (hx : Lo r X) (hy : Lo r Y) : Lo r (fun L E => if c then X L E else Y L E) := by
  by_cases h : c
  · simpa [h] using hx
  · simpa [h] using hy
theorem Lo.cast {α : Type} {r : Nat} {X Y : List Tk → Nat → Rx α} (h : Lo r X) (e : ∀ L E, Y L E = X L E) : Lo r Y := fun L L' E E' y hy => by
  rw [e] at hy
  have k := h L L' E E' y hy
  exact ⟨k.1, fun ha => by rw [e]; exact k.2 ha⟩
/-! The tokens. -/
theorem lo_words : ∀ (us : List (List UInt8)) (r : Nat), Lo r (fun L E => rwd L E r us)
  | [], r => Lo.cast (Lo.ok () (Nat.le_refl r)) (fun L E => rfl)
  | u :: us, r => Lo.cast (X := fun L E => if isB (tokAt L E r) u = true then rwd L E (r + 1) us else some (.error (210, r)))
      (Lo.tok (F := fun t L E => if isB t u = true then rwd L E (r + 1) us else some (.error (210, r))) fun t => Lo.ite ((lo_words us (r + 1)).weak (Nat.le_succ r)) (Lo.err _ (Nat.le_refl r)))
      (fun L E => by
        unfold rwd
        rw [wordsF]
        by_cases c : isB (tokAt L E r) u = true
        · rw [if_pos c, if_pos c]
        · rw [if_neg c, if_neg c])
theorem lo_name (r : Nat) : Lo r (fun L E => some (nameF L E r)) :=
  Lo.cast (X := fun L E => if ((tokAt L E r).kind == 2) = true then rok (tokAt L E r).text (r + 1) else some (.error (210, r)))
    (Lo.tok (F := fun t _ _ => if (t.kind == 2) = true then rok t.text (r + 1) else some (.error (210, r))) fun t => Lo.ite (Lo.ok _ (Nat.le_succ r)) (Lo.err _ (Nat.le_refl r)))
    (fun L E => by unfold nameF; split <;> rfl)
theorem lo_type (r : Nat) : Lo r (fun L E => some (typeF L E r)) :=
  Lo.cast (X := fun L E => match fdI (tokAt L E r) twL 0 with | some i => rok i (r + 1) | none => some (.error (210, r)))
    (Lo.tok (F := fun t _ _ => match fdI t twL 0 with | some i => rok i (r + 1) | none => some (.error (210, r))) fun t => by
      cases fdI t twL 0 with
      | none => exact Lo.err _ (Nat.le_refl r)
      | some i => exact Lo.ok _ (Nat.le_succ r))
    (fun L E => by unfold typeF; cases fdI (tokAt L E r) twL 0 <;> rfl)
theorem lo_kind (r : Nat) : Lo r (fun L E => some (kindF L E r)) :=
  Lo.cast (X := fun L E => match fdI (tokAt L E r) fwL 0 with | some i => rok i r | none => some (.error (210, r)))
    (Lo.tok (F := fun t _ _ => match fdI t fwL 0 with | some i => rok i r | none => some (.error (210, r))) fun t => by
      cases fdI t fwL 0 with
      | none => exact Lo.err _ (Nat.le_refl r)
      | some i => exact Lo.ok _ (Nat.le_refl r))
    (fun L E => by unfold kindF; cases fdI (tokAt L E r) fwL 0 <;> rfl)
theorem lo_ref (r : Nat) : Lo r (fun L E => some (refF L E r)) :=
  Lo.cast (X := fun L E => rb (some (nameF L E r)) fun u r1 => if isB (tokAt L E r1) [46] = true then rb (some (nameF L E (r1 + 1))) fun v r2 => rok (u, v) r2 else rok (([] : List UInt8), u) r1)
    (Lo.rb (f := fun u r1 L E => if isB (tokAt L E r1) [46] = true then rb (some (nameF L E (r1 + 1))) fun v r2 => rok (u, v) r2 else rok (([] : List UInt8), u) r1) (lo_name r) fun u r1 _ =>
      Lo.tok (F := fun t L E => if isB t [46] = true then rb (some (nameF L E (r1 + 1))) fun v r2 => rok (u, v) r2 else rok (([] : List UInt8), u) r1) fun t =>
        Lo.ite ((Lo.rb (f := fun v r2 _ _ => rok (u, v) r2) (lo_name (r1 + 1)) fun v r2 _ => Lo.ok _ (Nat.le_refl r2)).weak (Nat.le_succ r1)) (Lo.ok _ (Nat.le_refl r1)))
    (fun L E => by
      unfold refF
      cases hn : nameF L E r with
      | error e => rfl
      | ok p =>
        obtain ⟨u, r1⟩ := p
        show some (if isB (tokAt L E r1) [46] = true then _ else _) = if isB (tokAt L E r1) [46] = true then _ else _
        by_cases c : isB (tokAt L E r1) [46] = true
        · rw [if_pos c, if_pos c]
          cases hn2 : nameF L E (r1 + 1) with
          | error e => rfl
          | ok p => rfl
        · rw [if_neg c, if_neg c]
          rfl)
theorem lo_col (r : Nat) : Lo r (fun L E => some (colF L E r)) :=
  Lo.cast (X := fun L E => rb (some (nameF L E r)) fun nm r2 => rb (some (typeF L E r2)) fun ty r3 =>
      if isB (tokAt L E r3) [80, 82, 73, 77, 65, 82, 89] = true then rb (rwd L E (r3 + 1) [[75, 69, 89]]) fun _ r4 => rok (nm, ty, true, false) r4
      else if isB (tokAt L E r3) [78, 79, 84] = true then rb (rwd L E (r3 + 1) [[78, 85, 76, 76]]) fun _ r4 => rok (nm, ty, false, true) r4
      else rok (nm, ty, false, false) r3)
    (Lo.rb (f := fun nm r2 L E => rb (some (typeF L E r2)) fun ty r3 =>
      if isB (tokAt L E r3) [80, 82, 73, 77, 65, 82, 89] = true then rb (rwd L E (r3 + 1) [[75, 69, 89]]) fun _ r4 => rok (nm, ty, true, false) r4
      else if isB (tokAt L E r3) [78, 79, 84] = true then rb (rwd L E (r3 + 1) [[78, 85, 76, 76]]) fun _ r4 => rok (nm, ty, false, true) r4
      else rok (nm, ty, false, false) r3) (lo_name r) fun nm r2 _ =>
     Lo.rb (f := fun ty r3 L E => if isB (tokAt L E r3) [80, 82, 73, 77, 65, 82, 89] = true then rb (rwd L E (r3 + 1) [[75, 69, 89]]) fun _ r4 => rok (nm, ty, true, false) r4
      else if isB (tokAt L E r3) [78, 79, 84] = true then rb (rwd L E (r3 + 1) [[78, 85, 76, 76]]) fun _ r4 => rok (nm, ty, false, true) r4
      else rok (nm, ty, false, false) r3) (lo_type r2) fun ty r3 _ =>
      Lo.tok (F := fun t L E => if isB t [80, 82, 73, 77, 65, 82, 89] = true then rb (rwd L E (r3 + 1) [[75, 69, 89]]) fun _ r4 => rok (nm, ty, true, false) r4
      else if isB t [78, 79, 84] = true then rb (rwd L E (r3 + 1) [[78, 85, 76, 76]]) fun _ r4 => rok (nm, ty, false, true) r4
      else rok (nm, ty, false, false) r3) fun t =>
        Lo.ite ((Lo.rb (f := fun _ r4 _ _ => rok (nm, ty, true, false) r4) (lo_words _ _) fun _ r4 _ => Lo.ok _ (Nat.le_refl r4)).weak (Nat.le_succ r3))
          (Lo.ite ((Lo.rb (f := fun _ r4 _ _ => rok (nm, ty, false, true) r4) (lo_words _ _) fun _ r4 _ => Lo.ok _ (Nat.le_refl r4)).weak (Nat.le_succ r3)) (Lo.ok _ (Nat.le_refl r3))))
    (fun L E => by
      unfold colF
      cases hn : nameF L E r with
      | error e => rfl
      | ok p =>
        obtain ⟨u, r1⟩ := p
        show some (match typeF L E r1 with | .error x => _ | .ok (ty, r3) => _) = rb (some (typeF L E r1)) _
        cases ht : typeF L E r1 with
        | error e => rfl
        | ok p =>
          obtain ⟨ty, r3⟩ := p
          show some (if _ then _ else _) = if _ then _ else _
          by_cases c1 : isB (tokAt L E r3) [80, 82, 73, 77, 65, 82, 89] = true
          · rw [if_pos c1, if_pos c1]
            unfold rwd wordsF wordsF
            by_cases k : isB (tokAt L E (r3 + 1)) [75, 69, 89] = true
            · rw [if_pos k, if_pos k]; rfl
            · rw [if_neg k, if_neg k]; rfl
          · rw [if_neg c1, if_neg c1]
            by_cases c2 : isB (tokAt L E r3) [78, 79, 84] = true
            · rw [if_pos c2, if_pos c2]
              unfold rwd wordsF wordsF
              by_cases k : isB (tokAt L E (r3 + 1)) [78, 85, 76, 76] = true
              · rw [if_pos k, if_pos k]; rfl
              · rw [if_neg k, if_neg k]; rfl
            · rw [if_neg c2, if_neg c2]; rfl)
theorem lo_val (r : Nat) : Lo r (fun L E => some (valF L E r)) :=
  Lo.cast (X := fun L E => (fun t : Tk => if (t.kind == 4) = true then rok ((4 : Int), (0 : Int), t.text) (r + 1)
      else if isB t [84, 82, 85, 69] = true then rok (2, 1, []) (r + 1) else if isB t [70, 65, 76, 83, 69] = true then rok (2, 0, []) (r + 1)
      else if isB t [78, 85, 76, 76] = true then rok (1, 0, []) (r + 1) else if (t.kind == 3) = true then rok (3, t.num, []) (r + 1) else some (.error (210, r))) (tokAt L E r))
    (Lo.tok (F := fun t _ _ => if (t.kind == 4) = true then rok ((4 : Int), (0 : Int), t.text) (r + 1)
      else if isB t [84, 82, 85, 69] = true then rok (2, 1, []) (r + 1) else if isB t [70, 65, 76, 83, 69] = true then rok (2, 0, []) (r + 1)
      else if isB t [78, 85, 76, 76] = true then rok (1, 0, []) (r + 1) else if (t.kind == 3) = true then rok (3, t.num, []) (r + 1) else some (.error (210, r))) fun t =>
      Lo.ite (Lo.ok _ (Nat.le_succ r)) (Lo.ite (Lo.ok _ (Nat.le_succ r)) (Lo.ite (Lo.ok _ (Nat.le_succ r)) (Lo.ite (Lo.ok _ (Nat.le_succ r)) (Lo.ite (Lo.ok _ (Nat.le_succ r)) (Lo.err _ (Nat.le_refl r)))))))
    (fun L E => by
      unfold valF
      simp only
      repeat' split
      all_goals first | rfl | (rename_i h1 h2; exact absurd h1 h2) | contradiction)
end Go.Proofs.YtiipglmbfgmbbaaGreatDoor
