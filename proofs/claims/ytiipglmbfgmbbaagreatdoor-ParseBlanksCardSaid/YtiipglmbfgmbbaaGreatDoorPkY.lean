/-
  Several texts in one: P53, P54.
-/
import Derived.Test.YtiipglmbfgmbbaaGreatDoorP51
namespace Go.Proofs.YtiipglmbfgmbbaaGreatDoor
open Go.RowKit Go.Shelf

/-- A token without its place. -/
def nrm (t : Tk) : Tk := ⟨t.kind, t.text, t.num, 0, 0⟩
theorem nrm_at (L : List Tk) (E r : Nat) : tokAt (L.map nrm) 0 r = nrm (tokAt L E r) := by
  unfold tokAt
  rw [List.getD_eq_getElem?_getD, List.getD_eq_getElem?_getD, List.getElem?_map]
  cases L[r]? <;> rfl
/-- It hangs on no place. -/
def No {α : Type} (_ : Nat) (X : List Tk → Nat → Rx α) : Prop := ∀ (L : List Tk) (E : Nat), X L E = X (L.map nrm) 0
theorem No.weak {α : Type} {r r' : Nat} {X : List Tk → Nat → Rx α} (h : No r X) (_ : r' ≤ r) : No r' X := h
theorem No.ok {α : Type} {r r' : Nat} (v : α) (_ : r ≤ r') : No r (fun _ _ => rok v r') := fun _ _ => rfl
theorem No.err {α : Type} {r i : Nat} (e : Int) (_ : r ≤ i) : No r (fun _ _ => (some (.error (e, i)) : Rx α)) := fun _ _ => rfl
theorem No.none {α : Type} {r : Nat} : No r (fun _ _ => (Option.none : Rx α)) := fun _ _ => rfl
theorem No.tok {α : Type} {r : Nat} {F : Tk → List Tk → Nat → Rx α} (h : ∀ t, No r (F t)) (e : ∀ t, F (nrm t) = F t := by intro t; rfl) : No r (fun L E => F (tokAt L E r) L E) := fun L E => by
  show F (tokAt L E r) L E = F (tokAt (L.map nrm) 0 r) (L.map nrm) 0
  rw [nrm_at L E r, e]
  exact h _ L E
theorem No.rb {α β : Type} {r : Nat} {a : List Tk → Nat → Rx α} {f : α → Nat → List Tk → Nat → Rx β} (ha : No r a) (hf : ∀ v r', True → No r' (f v r')) : No r (fun L E => Go.Proofs.YtiipglmbfgmbbaaGreatDoor.rb (a L E) (fun v r' => f v r' L E)) := fun L E => by
  show Go.Proofs.YtiipglmbfgmbbaaGreatDoor.rb (a L E) (fun v r' => f v r' L E) = Go.Proofs.YtiipglmbfgmbbaaGreatDoor.rb (a (L.map nrm) 0) (fun v r' => f v r' (L.map nrm) 0)
  rw [ha L E]
  congr 1
  funext v r'
  exact hf v r' trivial L E
theorem No.ite {α : Type} {r : Nat} {c : Prop} [Decidable c] {X Y : List Tk → Nat → Rx α} (hx : No r X) (hy : No r Y) : No r (fun L E => if c then X L E else Y L E) := fun L E => by
  show (if c then X L E else Y L E) = if c then X (L.map nrm) 0 else Y (L.map nrm) 0
  rw [hx L E, hy L E]
theorem No.cast {α : Type} {r : Nat} {X Y : List Tk → Nat → Rx α} (h : No r X) (e : ∀ L E, Y L E = X L E) : No r Y := fun L E => by
  rw [e, e]
  exact h L E
def NoR (_ : Nat) (X : List Tk → Nat → Rs) : Prop := ∀ (L : List Tk) (E : Nat), X L E = X (L.map nrm) 0
theorem NoR.weak {r r' : Nat} {X : List Tk → Nat → Rs} (h : NoR r X) (_ : r' ≤ r) : NoR r' X := h
theorem NoR.ok {r r' : Nat} (row : Nat) (ns : List Nd) (_ : r ≤ r') : NoR r (fun _ _ => some (.ok (row, r', ns))) := fun _ _ => rfl
theorem NoR.one {r r' : Nat} (nd : Nd) (ns : List Nd) (_ : r ≤ r') : NoR r (fun _ _ => one_ nd r' ns) := fun _ _ => rfl
theorem NoR.err {r i : Nat} (e : Int) (_ : r ≤ i) : NoR r (fun _ _ => some (.error (e, i))) := fun _ _ => rfl
theorem NoR.none {r : Nat} : NoR r (fun _ _ => Option.none) := fun _ _ => rfl
theorem NoR.tok {r : Nat} {F : Tk → List Tk → Nat → Rs} (h : ∀ t, NoR r (F t)) (e : ∀ t, F (nrm t) = F t := by intro t; rfl) : NoR r (fun L E => F (tokAt L E r) L E) := fun L E => by
  show F (tokAt L E r) L E = F (tokAt (L.map nrm) 0 r) (L.map nrm) 0
  rw [nrm_at L E r, e]
  exact h _ L E
theorem NoR.ite {r : Nat} {c : Prop} [Decidable c] {X Y : List Tk → Nat → Rs} (hx : NoR r X) (hy : NoR r Y) : NoR r (fun L E => if c then X L E else Y L E) := fun L E => by
  show (if c then X L E else Y L E) = if c then X (L.map nrm) 0 else Y (L.map nrm) 0
  rw [hx L E, hy L E]
theorem NoR.cast {r : Nat} {X Y : List Tk → Nat → Rs} (h : NoR r X) (e : ∀ L E, Y L E = X L E) : NoR r Y := fun L E => by
  rw [e, e]
  exact h L E
theorem NoR.bnd {r : Nat} {a : List Tk → Nat → Rs} {f : Nat → Nat → List Nd → List Tk → Nat → Rs} (ha : NoR r a) (hf : ∀ row r' ns, True → NoR r' (f row r' ns)) : NoR r (fun L E => Go.Proofs.YtiipglmbfgmbbaaGreatDoor.bnd (a L E) (fun row r' ns => f row r' ns L E)) := fun L E => by
  show Go.Proofs.YtiipglmbfgmbbaaGreatDoor.bnd (a L E) (fun row r' ns => f row r' ns L E) = Go.Proofs.YtiipglmbfgmbbaaGreatDoor.bnd (a (L.map nrm) 0) (fun row r' ns => f row r' ns (L.map nrm) 0)
  rw [ha L E]
  congr 1
  funext row r' ns
  exact hf row r' ns trivial L E
theorem NoR.rbR {α : Type} {r : Nat} {a : List Tk → Nat → Rx α} {f : α → Nat → List Tk → Nat → Rs} (ha : No r a) (hf : ∀ v r', True → NoR r' (f v r')) : NoR r (fun L E => Go.Proofs.YtiipglmbfgmbbaaGreatDoor.rbR (a L E) (fun v r' => f v r' L E)) := fun L E => by
  show Go.Proofs.YtiipglmbfgmbbaaGreatDoor.rbR (a L E) (fun v r' => f v r' L E) = Go.Proofs.YtiipglmbfgmbbaaGreatDoor.rbR (a (L.map nrm) 0) (fun v r' => f v r' (L.map nrm) 0)
  rw [ha L E]
  congr 1
  funext v r'
  exact hf v r' trivial L E
/-! The tokens. -/
theorem no_words : ∀ (us : List (List UInt8)) (r : Nat), No r (fun L E => rwd L E r us)
  | [], r => No.cast (No.ok () (Nat.le_refl r)) (fun L E => rfl)
  | u :: us, r => No.cast (X := fun L E => if isB (tokAt L E r) u = true then rwd L E (r + 1) us else some (.error (210, r)))
      (No.tok (F := fun t L E => if isB t u = true then rwd L E (r + 1) us else some (.error (210, r))) fun t => No.ite ((no_words us (r + 1)).weak (Nat.le_succ r)) (No.err _ (Nat.le_refl r)))
      (fun L E => by
        unfold rwd
        rw [wordsF]
        by_cases c : isB (tokAt L E r) u = true
        · rw [if_pos c, if_pos c]
        · rw [if_neg c, if_neg c])
theorem no_name (r : Nat) : No r (fun L E => some (nameF L E r)) :=
  No.cast (X := fun L E => if ((tokAt L E r).kind == 2) = true then rok (tokAt L E r).text (r + 1) else some (.error (210, r)))
    (No.tok (F := fun t _ _ => if (t.kind == 2) = true then rok t.text (r + 1) else some (.error (210, r))) fun t => No.ite (No.ok _ (Nat.le_succ r)) (No.err _ (Nat.le_refl r)))
    (fun L E => by unfold nameF; split <;> rfl)
theorem no_type (r : Nat) : No r (fun L E => some (typeF L E r)) :=
  No.cast (X := fun L E => match fdI (tokAt L E r) twL 0 with | some i => rok i (r + 1) | none => some (.error (210, r)))
    (No.tok (F := fun t _ _ => match fdI t twL 0 with | some i => rok i (r + 1) | none => some (.error (210, r))) fun t => by
      cases fdI t twL 0 with
      | none => exact No.err _ (Nat.le_refl r)
      | some i => exact No.ok _ (Nat.le_succ r))
    (fun L E => by unfold typeF; cases fdI (tokAt L E r) twL 0 <;> rfl)
theorem no_kind (r : Nat) : No r (fun L E => some (kindF L E r)) :=
  No.cast (X := fun L E => match fdI (tokAt L E r) fwL 0 with | some i => rok i r | none => some (.error (210, r)))
    (No.tok (F := fun t _ _ => match fdI t fwL 0 with | some i => rok i r | none => some (.error (210, r))) fun t => by
      cases fdI t fwL 0 with
      | none => exact No.err _ (Nat.le_refl r)
      | some i => exact No.ok _ (Nat.le_refl r))
    (fun L E => by unfold kindF; cases fdI (tokAt L E r) fwL 0 <;> rfl)
theorem no_ref (r : Nat) : No r (fun L E => some (refF L E r)) :=
  No.cast (X := fun L E => rb (some (nameF L E r)) fun u r1 => if isB (tokAt L E r1) [46] = true then rb (some (nameF L E (r1 + 1))) fun v r2 => rok (u, v) r2 else rok (([] : List UInt8), u) r1)
    (No.rb (f := fun u r1 L E => if isB (tokAt L E r1) [46] = true then rb (some (nameF L E (r1 + 1))) fun v r2 => rok (u, v) r2 else rok (([] : List UInt8), u) r1) (no_name r) fun u r1 _ =>
      No.tok (F := fun t L E => if isB t [46] = true then rb (some (nameF L E (r1 + 1))) fun v r2 => rok (u, v) r2 else rok (([] : List UInt8), u) r1) fun t =>
        No.ite ((No.rb (f := fun v r2 _ _ => rok (u, v) r2) (no_name (r1 + 1)) fun v r2 _ => No.ok _ (Nat.le_refl r2)).weak (Nat.le_succ r1)) (No.ok _ (Nat.le_refl r1)))
    (fun L E => by
      unfold refF
      cases hn : nameF L E r with
      | error e => rfl
      | ok p =>
        obtain ⟨u, r1⟩ := p
        show some (if isB (tokAt L E r1) [46] = true then _ else _) = if isB (tokAt L E r1) [46] = true then _ else _
        by_cases c : isB (tokAt L E r1) [46] = true
        · rw [if_pos c, if_pos c]
          cases hn2 : nameF L E (r1 + 1) with
          | error e => rfl
          | ok p => rfl
        · rw [if_neg c, if_neg c]
          rfl)
theorem no_col (r : Nat) : No r (fun L E => some (colF L E r)) :=
  No.cast (X := fun L E => rb (some (nameF L E r)) fun nm r2 => rb (some (typeF L E r2)) fun ty r3 =>
      if isB (tokAt L E r3) [80, 82, 73, 77, 65, 82, 89] = true then rb (rwd L E (r3 + 1) [[75, 69, 89]]) fun _ r4 => rok (nm, ty, true, false) r4
      else if isB (tokAt L E r3) [78, 79, 84] = true then rb (rwd L E (r3 + 1) [[78, 85, 76, 76]]) fun _ r4 => rok (nm, ty, false, true) r4
      else rok (nm, ty, false, false) r3)
    (No.rb (f := fun nm r2 L E => rb (some (typeF L E r2)) fun ty r3 =>
      if isB (tokAt L E r3) [80, 82, 73, 77, 65, 82, 89] = true then rb (rwd L E (r3 + 1) [[75, 69, 89]]) fun _ r4 => rok (nm, ty, true, false) r4
      else if isB (tokAt L E r3) [78, 79, 84] = true then rb (rwd L E (r3 + 1) [[78, 85, 76, 76]]) fun _ r4 => rok (nm, ty, false, true) r4
      else rok (nm, ty, false, false) r3) (no_name r) fun nm r2 _ =>
     No.rb (f := fun ty r3 L E => if isB (tokAt L E r3) [80, 82, 73, 77, 65, 82, 89] = true then rb (rwd L E (r3 + 1) [[75, 69, 89]]) fun _ r4 => rok (nm, ty, true, false) r4
      else if isB (tokAt L E r3) [78, 79, 84] = true then rb (rwd L E (r3 + 1) [[78, 85, 76, 76]]) fun _ r4 => rok (nm, ty, false, true) r4
      else rok (nm, ty, false, false) r3) (no_type r2) fun ty r3 _ =>
      No.tok (F := fun t L E => if isB t [80, 82, 73, 77, 65, 82, 89] = true then rb (rwd L E (r3 + 1) [[75, 69, 89]]) fun _ r4 => rok (nm, ty, true, false) r4
      else if isB t [78, 79, 84] = true then rb (rwd L E (r3 + 1) [[78, 85, 76, 76]]) fun _ r4 => rok (nm, ty, false, true) r4
      else rok (nm, ty, false, false) r3) fun t =>
        No.ite ((No.rb (f := fun _ r4 _ _ => rok (nm, ty, true, false) r4) (no_words _ _) fun _ r4 _ => No.ok _ (Nat.le_refl r4)).weak (Nat.le_succ r3))
          (No.ite ((No.rb (f := fun _ r4 _ _ => rok (nm, ty, false, true) r4) (no_words _ _) fun _ r4 _ => No.ok _ (Nat.le_refl r4)).weak (Nat.le_succ r3)) (No.ok _ (Nat.le_refl r3))))
    (fun L E => by
      unfold colF
      cases hn : nameF L E r with
      | error e => rfl
      | ok p =>
        obtain ⟨u, r1⟩ := p
        show some (match typeF L E r1 with | .error x => _ | .ok (ty, r3) => _) = rb (some (typeF L E r1)) _
        cases ht : typeF L E r1 with
        | error e => rfl
        | ok p =>
          obtain ⟨ty, r3⟩ := p
          show some (if _ then _ else _) = if _ then _ else _
          by_cases c1 : isB (tokAt L E r3) [80, 82, 73, 77, 65, 82, 89] = true
          · rw [if_pos c1, if_pos c1]
            unfold rwd wordsF wordsF
            by_cases k : isB (tokAt L E (r3 + 1)) [75, 69, 89] = true
            · rw [if_pos k, if_pos k]; rfl
            · rw [if_neg k, if_neg k]; rfl
          · rw [if_neg c1, if_neg c1]
            by_cases c2 : isB (tokAt L E r3) [78, 79, 84] = true
            · rw [if_pos c2, if_pos c2]
              unfold rwd wordsF wordsF
              by_cases k : isB (tokAt L E (r3 + 1)) [78, 85, 76, 76] = true
              · rw [if_pos k, if_pos k]; rfl
              · rw [if_neg k, if_neg k]; rfl
            · rw [if_neg c2, if_neg c2]; rfl)
theorem no_val (r : Nat) : No r (fun L E => some (valF L E r)) :=
  No.cast (X := fun L E => (fun t : Tk => if (t.kind == 4) = true then rok ((4 : Int), (0 : Int), t.text) (r + 1)
      else if isB t [84, 82, 85, 69] = true then rok (2, 1, []) (r + 1) else if isB t [70, 65, 76, 83, 69] = true then rok (2, 0, []) (r + 1)
      else if isB t [78, 85, 76, 76] = true then rok (1, 0, []) (r + 1) else if (t.kind == 3) = true then rok (3, t.num, []) (r + 1) else some (.error (210, r))) (tokAt L E r))
    (No.tok (F := fun t _ _ => if (t.kind == 4) = true then rok ((4 : Int), (0 : Int), t.text) (r + 1)
      else if isB t [84, 82, 85, 69] = true then rok (2, 1, []) (r + 1) else if isB t [70, 65, 76, 83, 69] = true then rok (2, 0, []) (r + 1)
      else if isB t [78, 85, 76, 76] = true then rok (1, 0, []) (r + 1) else if (t.kind == 3) = true then rok (3, t.num, []) (r + 1) else some (.error (210, r))) fun t =>
      No.ite (No.ok _ (Nat.le_succ r)) (No.ite (No.ok _ (Nat.le_succ r)) (No.ite (No.ok _ (Nat.le_succ r)) (No.ite (No.ok _ (Nat.le_succ r)) (No.ite (No.ok _ (Nat.le_succ r)) (No.err _ (Nat.le_refl r)))))))
    (fun L E => by
      unfold valF
      simp only
      repeat' split
      all_goals first | rfl | (rename_i h1 h2; exact absurd h1 h2) | contradiction)
theorem no_ex : ∀ (n : Nat) (g : Gx) (r o : Nat) (ns : List Nd), NoR r (fun L E => ex L E n g r o ns)
  | 0, g, r, o, ns => NoR.cast (X := fun _ _ => Option.none) NoR.none (fun L E => by unfold ex; rfl)
  | n + 1, .lv .or, r, o, ns => NoR.bnd (f := fun row r ns L E => ex L E n (.lp 1 .and row) r o ns) (no_ex n _ r o ns) (fun row r' ns' _ => no_ex n _ r' o ns')
  | n + 1, .lv .and, r, o, ns => NoR.bnd (f := fun row r ns L E => ex L E n (.lp 2 .not row) r o ns) (no_ex n _ r o ns) (fun row r' ns' _ => no_ex n _ r' o ns')
  | n + 1, .lv .sum, r, o, ns => NoR.bnd (f := fun row r ns L E => ex L E n (.lp 4 .prod row) r o ns) (no_ex n _ r o ns) (fun row r' ns' _ => no_ex n _ r' o ns')
  | n + 1, .lv .prod, r, o, ns => NoR.bnd (f := fun row r ns L E => ex L E n (.lp 5 .minus row) r o ns) (no_ex n _ r o ns) (fun row r' ns' _ => no_ex n _ r' o ns')
  | n + 1, .lv .not, r, o, ns => NoR.tok (F := fun t L E => if isB t NOTs = true then (if o = 16 then some (.error (211, r)) else bnd (ex L E n (.lv .not) (r + 1) (o + 1) ns) fun row r ns => one_ (nd1 3 row) r ns) else ex L E n (.lv .test) r o ns) fun t =>
      NoR.ite (NoR.ite (NoR.err _ (Nat.le_refl r)) ((NoR.bnd (f := fun row r ns _ _ => one_ (nd1 3 row) r ns) (no_ex n _ (r + 1) (o + 1) ns) (fun row r' ns' _ => NoR.one _ _ (Nat.le_refl r'))).weak (Nat.le_succ r))) (no_ex n _ r o ns)
  | n + 1, .lv .minus, r, o, ns => NoR.tok (F := fun t L E => if isB t [45] = true then (if o = 16 then some (.error (211, r)) else bnd (ex L E n (.lv .minus) (r + 1) (o + 1) ns) fun row r ns => one_ (nd1 4 row) r ns) else ex L E n (.lv .single) r o ns) fun t =>
      NoR.ite (NoR.ite (NoR.err _ (Nat.le_refl r)) ((NoR.bnd (f := fun row r ns _ _ => one_ (nd1 4 row) r ns) (no_ex n _ (r + 1) (o + 1) ns) (fun row r' ns' _ => NoR.one _ _ (Nat.le_refl r'))).weak (Nat.le_succ r))) (no_ex n _ r o ns)
  | n + 1, .lv .test, r, o, ns => NoR.cast (X := fun L E => bnd (ex L E n (.lv .sum) r o ns) fun row r ns =>
      (fun t : Tk => if (opG t 3).2 = true then bnd (ex L E n (.lv .sum) (r + 1) o ns) fun row2 r2 ns => one_ (nd2 (opG t 3).1 row row2) r2 ns
      else if isB t [73, 83] = true then (fun t2 : Tk => rbR (rwd L E (if isB t2 NOTs = true then r + 2 else r + 1) [NULLs]) fun _ r3 => one_ (nd1 (if isB t2 NOTs = true then 10 else 9) row) r3 ns) (tokAt L E (r + 1))
      else some (.ok (row, r, ns))) (tokAt L E r))
      (NoR.bnd (f := fun row r ns L E => (fun t : Tk => if (opG t 3).2 = true then bnd (ex L E n (.lv .sum) (r + 1) o ns) fun row2 r2 ns => one_ (nd2 (opG t 3).1 row row2) r2 ns
      else if isB t [73, 83] = true then (fun t2 : Tk => rbR (rwd L E (if isB t2 NOTs = true then r + 2 else r + 1) [NULLs]) fun _ r3 => one_ (nd1 (if isB t2 NOTs = true then 10 else 9) row) r3 ns) (tokAt L E (r + 1))
      else some (.ok (row, r, ns))) (tokAt L E r)) (no_ex n _ r o ns) fun row r' ns' _ =>
        NoR.tok (F := fun t L E => if (opG t 3).2 = true then bnd (ex L E n (.lv .sum) (r' + 1) o ns') fun row2 r2 ns => one_ (nd2 (opG t 3).1 row row2) r2 ns
      else if isB t [73, 83] = true then (fun t2 : Tk => rbR (rwd L E (if isB t2 NOTs = true then r' + 2 else r' + 1) [NULLs]) fun _ r3 => one_ (nd1 (if isB t2 NOTs = true then 10 else 9) row) r3 ns') (tokAt L E (r' + 1))
      else some (.ok (row, r', ns'))) fun t =>
          NoR.ite ((NoR.bnd (f := fun row2 r2 ns _ _ => one_ (nd2 (opG t 3).1 row row2) r2 ns) (no_ex n _ (r' + 1) o ns') (fun row2 r2 ns2 _ => NoR.one _ _ (Nat.le_refl r2))).weak (Nat.le_succ r'))
            (NoR.ite ((NoR.tok (r := r' + 1) (F := fun t2 L E => rbR (rwd L E (if isB t2 NOTs = true then r' + 2 else r' + 1) [NULLs]) fun _ r3 => one_ (nd1 (if isB t2 NOTs = true then 10 else 9) row) r3 ns') fun t2 =>
              (NoR.rbR (f := fun _ r3 _ _ => one_ (nd1 (if isB t2 NOTs = true then 10 else 9) row) r3 ns') (no_words _ _) (fun _ r3 _ => NoR.one _ _ (Nat.le_refl r3))).weak (by split <;> omega)).weak (Nat.le_succ r')) (NoR.ok _ _ (Nat.le_refl r'))))
      (fun L E => by
        show bnd (ex L E n (.lv .sum) r o ns) _ = bnd (ex L E n (.lv .sum) r o ns) _
        congr 1
        funext row r ns
        show (if (opX L E r 3).2 = true then _ else _) = if (opG (tokAt L E r) 3).2 = true then _ else _
        by_cases c1 : (opX L E r 3).2 = true
        · rw [if_pos c1, if_pos (show (opG (tokAt L E r) 3).2 = true from c1)]
          rfl
        · rw [if_neg c1, if_neg (show ¬ (opG (tokAt L E r) 3).2 = true from c1)]
          by_cases c2 : isB (tokAt L E r) [73, 83] = true
          · rw [if_pos c2, if_pos c2]
            show (match wordsF L E (if isB (tokAt L E (r + 1)) NOTs = true then r + 2 else r + 1) [NULLs] with | .error x => _ | .ok r3 => _) = rbR (rwd L E (if isB (tokAt L E (r + 1)) NOTs = true then r + 2 else r + 1) [NULLs]) _
            unfold rwd
            cases wordsF L E (if isB (tokAt L E (r + 1)) NOTs = true then r + 2 else r + 1) [NULLs] <;> rfl
          · rw [if_neg c2, if_neg c2])
  | n + 1, .lv .single, r, o, ns => NoR.cast (X := fun L E => (fun t : Tk => if isB t [40] = true then (if o = 16 then some (.error (211, r)) else bnd (ex L E n (.lv .or) (r + 1) (o + 1) ns) fun row r ns =>
        if isB (tokAt L E r) [41] = true then some (.ok (row, r + 1, ns)) else some (.error (210, r)))
      else if (t.kind == 2) = true then rbR (some (refF L E r)) fun u r2 => one_ (ndC u.1 u.2) r2 ns
      else rbR (some (valF L E r)) fun v r2 => one_ (ndV1 v.1 v.2.1 v.2.2) r2 ns) (tokAt L E r))
      (NoR.tok (F := fun t L E => if isB t [40] = true then (if o = 16 then some (.error (211, r)) else bnd (ex L E n (.lv .or) (r + 1) (o + 1) ns) fun row r ns =>
        if isB (tokAt L E r) [41] = true then some (.ok (row, r + 1, ns)) else some (.error (210, r)))
      else if (t.kind == 2) = true then rbR (some (refF L E r)) fun u r2 => one_ (ndC u.1 u.2) r2 ns
      else rbR (some (valF L E r)) fun v r2 => one_ (ndV1 v.1 v.2.1 v.2.2) r2 ns) fun t =>
        NoR.ite (NoR.ite (NoR.err _ (Nat.le_refl r)) ((NoR.bnd (f := fun row r ns L E => if isB (tokAt L E r) [41] = true then some (.ok (row, r + 1, ns)) else some (.error (210, r))) (no_ex n _ (r + 1) (o + 1) ns) (fun row r' ns' _ =>
            NoR.tok (F := fun t _ _ => if isB t [41] = true then some (.ok (row, r' + 1, ns')) else some (.error (210, r'))) fun t => NoR.ite (NoR.ok _ _ (Nat.le_succ r')) (NoR.err _ (Nat.le_refl r')))).weak (Nat.le_succ r)))
          (NoR.ite (NoR.rbR (f := fun u r2 _ _ => one_ (ndC u.1 u.2) r2 ns) (no_ref r) (fun u r2 _ => NoR.one _ _ (Nat.le_refl r2))) (NoR.rbR (f := fun v r2 _ _ => one_ (ndV1 v.1 v.2.1 v.2.2) r2 ns) (no_val r) (fun v r2 _ => NoR.one _ _ (Nat.le_refl r2)))))
      (fun L E => by
        show (if isB (tokAt L E r) [40] = true then _ else if ((tokAt L E r).kind == 2) = true then (match refF L E r with | .error x => _ | .ok ((u, v), r2) => _) else (match valF L E r with | .error x => _ | .ok ((k, v, t), r2) => _)) = if isB (tokAt L E r) [40] = true then _ else if ((tokAt L E r).kind == 2) = true then _ else _
        by_cases c1 : isB (tokAt L E r) [40] = true
        · rw [if_pos c1, if_pos c1]
        · rw [if_neg c1, if_neg c1]
          by_cases c2 : ((tokAt L E r).kind == 2) = true
          · rw [if_pos c2, if_pos c2]
            cases refF L E r <;> rfl
          · rw [if_neg c2, if_neg c2]
            cases valF L E r <;> rfl)
  | n + 1, .lp rank part row, r, o, ns => NoR.cast (X := fun L E => (fun t : Tk => if (opG t rank).2 = true then bnd (ex L E n (.lv part) (r + 1) o ns) fun row2 r2 ns => ex L E n (.lp rank part ns.length) r2 o (ns ++ [nd2 (opG t rank).1 row row2]) else some (.ok (row, r, ns))) (tokAt L E r))
      (NoR.tok (F := fun t L E => if (opG t rank).2 = true then bnd (ex L E n (.lv part) (r + 1) o ns) fun row2 r2 ns => ex L E n (.lp rank part ns.length) r2 o (ns ++ [nd2 (opG t rank).1 row row2]) else some (.ok (row, r, ns))) fun t =>
        NoR.ite ((NoR.bnd (f := fun row2 r2 ns L E => ex L E n (.lp rank part ns.length) r2 o (ns ++ [nd2 (opG t rank).1 row row2])) (no_ex n _ (r + 1) o ns) (fun row2 r2 ns2 _ => no_ex n _ r2 o _)).weak (Nat.le_succ r)) (NoR.ok _ _ (Nat.le_refl r)))
      (fun L E => rfl)
theorem no_exN (n r o : Nat) : No r (fun L E => exN L E n r o) := fun L E => by
  show exN L E n r o = exN (L.map nrm) 0 n r o
  unfold exN
  rw [show ex L E n (.lv .or) r o [] = ex (L.map nrm) 0 n (.lv .or) r o [] from no_ex n (.lv .or) r o [] L E]
theorem no_exB (n : Nat) (u : List UInt8) (r o : Nat) : No r (fun L E => exB L E n u r o) :=
  No.tok (F := fun t L E => if isB t u = true then exN L E n (r + 1) o else some (.ok ([], r))) fun t => No.ite ((no_exN n (r + 1) o).weak (Nat.le_succ r)) (No.ok [] (Nat.le_refl r))
theorem no_refB (u : List UInt8) (r : Nat) : No r (fun L E => some (refB L E u r)) :=
  No.cast (X := fun L E => if isB (tokAt L E r) u = true then rb (rwd L E (r + 1) [[66, 89]]) fun _ r2 => some (refF L E r2) else rok (([] : List UInt8), ([] : List UInt8)) r)
    (No.tok (F := fun t L E => if isB t u = true then rb (rwd L E (r + 1) [[66, 89]]) fun _ r2 => some (refF L E r2) else rok (([] : List UInt8), ([] : List UInt8)) r) fun t =>
      No.ite ((No.rb (f := fun _ r2 L E => some (refF L E r2)) (no_words _ _) fun _ r2 _ => no_ref r2).weak (Nat.le_succ r)) (No.ok _ (Nat.le_refl r)))
    (fun L E => by
      unfold refB
      by_cases c : isB (tokAt L E r) u = true
      · rw [if_pos c, if_pos c]
        unfold rwd wordsF wordsF
        by_cases k : isB (tokAt L E (r + 1)) [66, 89] = true
        · rw [if_pos k, if_pos k]; rfl
        · rw [if_neg k, if_neg k]; rfl
      · rw [if_neg c, if_neg c]; rfl)
theorem no_it (n r o : Nat) : No r (fun L E => itF L E n r o) :=
  No.cast (X := fun L E => (fun t : Tk => if isB t [67, 79, 85, 78, 84] = true then rb (rwd L E (r + 1) [[40], [42], [41]]) fun _ r2 => rok ((2 : Int), ([] : List Nd)) r2
      else if isB t [83, 85, 77] = true then rb (rwd L E (r + 1) [[40]]) fun _ r2 => rb (exN L E n r2 o) fun ns r3 => rb (rwd L E r3 [[41]]) fun _ r4 => rok (3, ns) r4
      else rb (exN L E n r o) fun ns r' => rok (1, ns) r') (tokAt L E r))
    (No.tok (F := fun t L E => if isB t [67, 79, 85, 78, 84] = true then rb (rwd L E (r + 1) [[40], [42], [41]]) fun _ r2 => rok ((2 : Int), ([] : List Nd)) r2
      else if isB t [83, 85, 77] = true then rb (rwd L E (r + 1) [[40]]) fun _ r2 => rb (exN L E n r2 o) fun ns r3 => rb (rwd L E r3 [[41]]) fun _ r4 => rok (3, ns) r4
      else rb (exN L E n r o) fun ns r' => rok (1, ns) r') fun t =>
      No.ite ((No.rb (f := fun _ r2 _ _ => rok ((2 : Int), ([] : List Nd)) r2) (no_words _ _) fun _ r2 _ => No.ok _ (Nat.le_refl r2)).weak (Nat.le_succ r))
        (No.ite ((No.rb (f := fun _ r2 L E => rb (exN L E n r2 o) fun ns r3 => rb (rwd L E r3 [[41]]) fun _ r4 => rok ((3 : Int), ns) r4) (no_words _ _) fun _ r2 _ =>
            No.rb (f := fun ns r3 L E => rb (rwd L E r3 [[41]]) fun _ r4 => rok ((3 : Int), ns) r4) (no_exN n r2 o) fun ns r3 _ => No.rb (f := fun _ r4 _ _ => rok ((3 : Int), ns) r4) (no_words _ _) fun _ r4 _ => No.ok _ (Nat.le_refl r4)).weak (Nat.le_succ r))
          (No.rb (f := fun ns r' _ _ => rok ((1 : Int), ns) r') (no_exN n r o) fun ns r' _ => No.ok _ (Nat.le_refl r'))))
    (fun L E => by
      unfold itF
      simp only
      by_cases c1 : isB (tokAt L E r) [67, 79, 85, 78, 84] = true
      · rw [if_pos c1, if_pos c1]
        unfold rwd
        cases wordsF L E (r + 1) [[40], [42], [41]] <;> rfl
      · rw [if_neg c1, if_neg c1]
        by_cases c2 : isB (tokAt L E r) [83, 85, 77] = true
        · rw [if_pos c2, if_pos c2]
          cases hw : wordsF L E (r + 1) [[40]] with
          | error e => rw [rb_err (a := rwd L E (r + 1) [[40]]) (by unfold rwd; rw [hw])]
          | ok r2 =>
            rw [rb_ok (a := rwd L E (r + 1) [[40]]) (v := ()) (r := r2) (by unfold rwd; rw [hw])]
            simp only
            cases hx : exN L E n r2 o with
            | none => rfl
            | some x =>
              rcases x with e | ⟨ns, r3⟩
              · rfl
              · show _ = rb (rwd L E r3 [[41]]) _
                unfold rwd
                simp only
                cases wordsF L E r3 [[41]] <;> rfl
        · rw [if_neg c2, if_neg c2]
          cases hx : exN L E n r o with
          | none => rfl
          | some x => rcases x with e | ⟨ns, r3⟩ <;> rfl)
theorem no_ls {α : Type} {step : List Tk → Nat → Nat → Nat → α → Rx α} (hs : ∀ n r a, No r (fun L E => step L E n r a)) : ∀ (n r : Nat) (a : α), No r (fun L E => lsF L E (step L E) n r a)
  | 0, r, a => No.cast (X := fun _ _ => Option.none) No.none (fun L E => rfl)
  | n + 1, r, a => No.rb (f := fun a r L E => if isB (tokAt L E r) [44] = true then lsF L E (step L E) n (r + 1) a else rok a r) (hs n r a) fun a r' _ =>
      No.tok (F := fun t L E => if isB t [44] = true then lsF L E (step L E) n (r' + 1) a else rok a r') fun t => No.ite ((no_ls hs n (r' + 1) a).weak (Nat.le_succ r')) (No.ok _ (Nat.le_refl r'))
theorem no_colS (n r : Nat) (s : Sm) : No r (fun L E => colS L E n r s) := No.rb (f := fun c r _ _ => rok (α := Sm) { s with cols := s.cols ++ [c] } r) (no_col r) fun _ r' _ => No.ok _ (Nat.le_refl r')
theorem no_insS (o n r : Nat) (s : Sm) : No r (fun L E => insS L E o n r s) := No.rb (f := fun ns r _ _ => rok (α := Sm) { s with sets := s.sets ++ [([], ns)] } r) (no_exN n r o) fun _ r' _ => No.ok _ (Nat.le_refl r')
theorem no_updS (o n r : Nat) (s : Sm) : No r (fun L E => updS L E o n r s) :=
  No.rb (f := fun u r L E => rb (rwd L E r [[61]]) fun _ r => rb (exN L E n r o) fun ns r => rok (α := Sm) { s with sets := s.sets ++ [(u, ns)] } r) (no_name r) fun u r _ =>
  No.rb (f := fun _ r L E => rb (exN L E n r o) fun ns r => rok (α := Sm) { s with sets := s.sets ++ [(u, ns)] } r) (no_words _ r) fun _ r _ =>
  No.rb (f := fun ns r _ _ => rok (α := Sm) { s with sets := s.sets ++ [(u, ns)] } r) (no_exN n r o) fun _ r' _ => No.ok _ (Nat.le_refl r')
theorem no_itS (o n r : Nat) (s : Sm) : No r (fun L E => itS L E o n r s) := No.rb (f := fun x r _ _ => rok (α := Sm) { s with items := s.items ++ [x] } r) (no_it n r o) fun _ r' _ => No.ok _ (Nat.le_refl r')
theorem no_cre (n r : Nat) (s : Sm) : No r (fun L E => creF L E n r s) :=
  No.rb (f := fun _ r L E => rb (some (nameF L E r)) fun u r => rb (rwd L E r [[40]]) fun _ r => rb (lsF L E (colS L E) n r { s with table := u }) fun s r => rb (rwd L E r [[41]]) fun _ r => rok s r) (no_words _ r) fun _ r _ =>
  No.rb (f := fun u r L E => rb (rwd L E r [[40]]) fun _ r => rb (lsF L E (colS L E) n r { s with table := u }) fun s r => rb (rwd L E r [[41]]) fun _ r => rok s r) (no_name r) fun u r _ =>
  No.rb (f := fun _ r L E => rb (lsF L E (colS L E) n r { s with table := u }) fun s r => rb (rwd L E r [[41]]) fun _ r => rok s r) (no_words _ r) fun _ r _ =>
  No.rb (f := fun (s : Sm) r L E => rb (rwd L E r [[41]]) fun _ r => rok s r) (no_ls (step := fun L E => colS L E) no_colS n r _) fun s r _ =>
  No.rb (f := fun _ r _ _ => rok s r) (no_words _ r) fun _ r' _ => No.ok _ (Nat.le_refl r')
theorem no_ins (o n r : Nat) (s : Sm) : No r (fun L E => insF L E o n r s) :=
  No.rb (f := fun _ r L E => rb (some (nameF L E r)) fun u r => rb (rwd L E r [[86, 65, 76, 85, 69, 83], [40]]) fun _ r => rb (lsF L E (insS L E o) n r { s with table := u }) fun s r => rb (rwd L E r [[41]]) fun _ r => rok s r) (no_words _ r) fun _ r _ =>
  No.rb (f := fun u r L E => rb (rwd L E r [[86, 65, 76, 85, 69, 83], [40]]) fun _ r => rb (lsF L E (insS L E o) n r { s with table := u }) fun s r => rb (rwd L E r [[41]]) fun _ r => rok s r) (no_name r) fun u r _ =>
  No.rb (f := fun _ r L E => rb (lsF L E (insS L E o) n r { s with table := u }) fun s r => rb (rwd L E r [[41]]) fun _ r => rok s r) (no_words _ r) fun _ r _ =>
  No.rb (f := fun (s : Sm) r L E => rb (rwd L E r [[41]]) fun _ r => rok s r) (no_ls (step := fun L E => insS L E o) (no_insS o) n r _) fun s r _ =>
  No.rb (f := fun _ r _ _ => rok s r) (no_words _ r) fun _ r' _ => No.ok _ (Nat.le_refl r')
theorem no_upd (o n r : Nat) (s : Sm) : No r (fun L E => updF L E o n r s) :=
  No.rb (f := fun u r L E => rb (rwd L E r [[83, 69, 84]]) fun _ r => rb (lsF L E (updS L E o) n r { s with table := u }) fun s r => rb (exB L E n [87, 72, 69, 82, 69] r o) fun ns r => rok (α := Sm) { s with wh := ns } r) (no_name r) fun u r _ =>
  No.rb (f := fun _ r L E => rb (lsF L E (updS L E o) n r { s with table := u }) fun s r => rb (exB L E n [87, 72, 69, 82, 69] r o) fun ns r => rok (α := Sm) { s with wh := ns } r) (no_words _ r) fun _ r _ =>
  No.rb (f := fun (s : Sm) r L E => rb (exB L E n [87, 72, 69, 82, 69] r o) fun ns r => rok (α := Sm) { s with wh := ns } r) (no_ls (step := fun L E => updS L E o) (no_updS o) n r _) fun s r _ =>
  No.rb (f := fun ns r _ _ => rok (α := Sm) { s with wh := ns } r) (no_exB n _ r o) fun _ r' _ => No.ok _ (Nat.le_refl r')
theorem no_chA (o n r : Nat) (s : Sm) : No r (fun L E => chA L E o n r s) :=
  No.rb (f := fun (s : Sm) r L E => rb (rwd L E r [[70, 82, 79, 77]]) fun _ r => rb (some (nameF L E r)) fun u r => rok (α := Sm) { s with table := u } r)
    (No.tok (F := fun t L E => if isB t [42] = true then rok (α := Sm) { s with star := true } (r + 1) else lsF L E (itS L E o) n r s) fun t => No.ite (No.ok _ (Nat.le_succ r)) (no_ls (step := fun L E => itS L E o) (no_itS o) n r s)) fun s r _ =>
  No.rb (f := fun _ r L E => rb (some (nameF L E r)) fun u r => rok (α := Sm) { s with table := u } r) (no_words _ r) fun _ r _ =>
  No.rb (f := fun u r _ _ => rok (α := Sm) { s with table := u } r) (no_name r) fun _ r' _ => No.ok _ (Nat.le_refl r')
theorem no_chB (o n r : Nat) (s : Sm) : No r (fun L E => chB L E o n r s) :=
  No.tok (F := fun t L E => if isB t [73, 78, 78, 69, 82] = true then rb (rwd L E (r + 1) [[74, 79, 73, 78]]) fun _ r => rb (some (nameF L E r)) fun u r => rb (rwd L E r [[79, 78]]) fun _ r => rb (exN L E n r o) fun ns r => rok (α := Sm) { s with join := u, on := ns } r else rok s r) fun t =>
    No.ite ((No.rb (f := fun _ r L E => rb (some (nameF L E r)) fun u r => rb (rwd L E r [[79, 78]]) fun _ r => rb (exN L E n r o) fun ns r => rok (α := Sm) { s with join := u, on := ns } r) (no_words _ (r + 1)) fun _ r _ =>
      No.rb (f := fun u r L E => rb (rwd L E r [[79, 78]]) fun _ r => rb (exN L E n r o) fun ns r => rok (α := Sm) { s with join := u, on := ns } r) (no_name r) fun u r _ =>
      No.rb (f := fun _ r L E => rb (exN L E n r o) fun ns r => rok (α := Sm) { s with join := u, on := ns } r) (no_words _ r) fun _ r _ =>
      No.rb (f := fun ns r _ _ => rok (α := Sm) { s with join := u, on := ns } r) (no_exN n r o) fun _ r' _ => No.ok _ (Nat.le_refl r')).weak (Nat.le_succ r)) (No.ok _ (Nat.le_refl r))
theorem no_chC (o n r : Nat) (s : Sm) : No r (fun L E => chC L E o n r s) :=
  No.rb (f := fun ns r L E => rb (some (refB L E [71, 82, 79, 85, 80] r)) fun g r => rb (some (refB L E [79, 82, 68, 69, 82] r)) fun d r => rok (α := Sm) { s with wh := ns, gt := g.1, gn := g.2, ot := d.1, on_ := d.2 } r) (no_exB n _ r o) fun ns r _ =>
  No.rb (f := fun g r L E => rb (some (refB L E [79, 82, 68, 69, 82] r)) fun d r => rok (α := Sm) { s with wh := ns, gt := g.1, gn := g.2, ot := d.1, on_ := d.2 } r) (no_refB _ r) fun g r _ =>
  No.rb (f := fun d r _ _ => rok (α := Sm) { s with wh := ns, gt := g.1, gn := g.2, ot := d.1, on_ := d.2 } r) (no_refB _ r) fun _ r' _ => No.ok _ (Nat.le_refl r')
theorem no_chD (r : Nat) (s : Sm) : No r (fun L E => chD L E r s) :=
  No.tok (F := fun t _ _ => if s.ot = [] ∧ s.on_ = [] then rok s r else if isB t [65, 83, 67] = true then rok s (r + 1) else if isB t [68, 69, 83, 67] = true then rok (α := Sm) { s with desc := true } (r + 1) else rok (α := Sm) { s with desc := false } r) fun t =>
    No.ite (No.ok _ (Nat.le_refl r)) (No.ite (No.ok _ (Nat.le_succ r)) (No.ite (No.ok _ (Nat.le_succ r)) (No.ok _ (Nat.le_refl r))))
theorem no_chE (r : Nat) (s : Sm) : No r (fun L E => chE L E r s) :=
  No.tok (F := fun t L E => if isB t [76, 73, 77, 73, 84] = true then (fun t2 : Tk => if (t2.kind == 3) = true then rok (α := Sm) { s with limit := t2.num } (r + 2) else some (.error (210, r + 1))) (tokAt L E (r + 1)) else rok s r) fun t =>
    No.ite ((No.tok (r := r + 1) (F := fun t2 _ _ => if (t2.kind == 3) = true then rok (α := Sm) { s with limit := t2.num } (r + 2) else some (.error (210, r + 1))) fun t2 => No.ite (No.ok _ (by omega)) (No.err _ (Nat.le_refl (r + 1)))).weak (Nat.le_succ r)) (No.ok _ (Nat.le_refl r))
theorem no_ch (o n r : Nat) (s : Sm) : No r (fun L E => chF L E o n r s) :=
  No.rb (f := fun (s : Sm) r L E => rb (chB L E o n r s) fun s r => rb (chC L E o n r s) fun s r => rb (chD L E r s) fun s r => chE L E r s) (no_chA o n r s) fun s r _ =>
  No.rb (f := fun (s : Sm) r L E => rb (chC L E o n r s) fun s r => rb (chD L E r s) fun s r => chE L E r s) (no_chB o n r s) fun s r _ =>
  No.rb (f := fun (s : Sm) r L E => rb (chD L E r s) fun s r => chE L E r s) (no_chC o n r s) fun s r _ =>
  No.rb (f := fun (s : Sm) r L E => chE L E r s) (no_chD r s) fun s r _ => no_chE r s
theorem no_st (o n a r : Nat) : No r (fun L E => stF L E o n a r) :=
  No.cast (X := fun L E => rb (some (kindF L E r)) fun k r => if a = 8 then some (.error (212, r)) else stK L E o k n r)
    (No.rb (f := fun k r L E => if a = 8 then some (.error (212, r)) else stK L E o k n r) (no_kind r) fun k r _ =>
      No.ite (No.err _ (Nat.le_refl r))
        (No.rb (f := fun _ r L E => if k = 1 then creF L E n r (sm0 k)
    else if k = 2 then rb (rwd L E r [[84, 65, 66, 76, 69]]) fun _ r => rb (some (nameF L E r)) fun u r => rok (α := Sm) { sm0 k with table := u } r
    else if k = 3 then insF L E o n r (sm0 k)
    else if k = 4 then updF L E o n r (sm0 k)
    else if k = 5 then rb (rwd L E r [[70, 82, 79, 77]]) fun _ r => rb (some (nameF L E r)) fun u r => rb (exB L E n [87, 72, 69, 82, 69] r o) fun ns r => rok (α := Sm) { sm0 k with table := u, wh := ns } r
    else if k = 6 then chF L E o n r (sm0 k)
    else rok (sm0 k) r) (no_words _ r) fun _ r _ =>
          No.ite (no_cre n r _) (No.ite
            (No.rb (f := fun _ r L E => rb (some (nameF L E r)) fun u r => rok (α := Sm) { sm0 k with table := u } r) (no_words _ r) fun _ r _ => No.rb (f := fun u r _ _ => rok (α := Sm) { sm0 k with table := u } r) (no_name r) fun _ r' _ => No.ok _ (Nat.le_refl r'))
            (No.ite (no_ins o n r _) (No.ite (no_upd o n r _) (No.ite
              (No.rb (f := fun _ r L E => rb (some (nameF L E r)) fun u r => rb (exB L E n [87, 72, 69, 82, 69] r o) fun ns r => rok (α := Sm) { sm0 k with table := u, wh := ns } r) (no_words _ r) fun _ r _ => No.rb (f := fun u r L E => rb (exB L E n [87, 72, 69, 82, 69] r o) fun ns r => rok (α := Sm) { sm0 k with table := u, wh := ns } r) (no_name r) fun u r _ => No.rb (f := fun ns r _ _ => rok (α := Sm) { sm0 k with table := u, wh := ns } r) (no_exB n _ r o) fun _ r' _ => No.ok _ (Nat.le_refl r'))
              (No.ite (no_ch o n r _) (No.ok _ (Nat.le_refl r)))))))))
    (fun L E => rfl)
end Go.Proofs.YtiipglmbfgmbbaaGreatDoor

namespace Go.Proofs.YtiipglmbfgmbbaaGreatDoor
open Go.RowKit Go.Shelf

theorem wordsF_no (us : List (List UInt8)) (L : List Tk) (E r : Nat) : wordsF L E r us = wordsF (L.map nrm) 0 r us := by
  have h : rwd L E r us = rwd (L.map nrm) 0 r us := no_words us r L E
  unfold rwd at h
  cases h1 : wordsF L E r us with
  | error x =>
    rw [h1] at h
    cases h2 : wordsF (L.map nrm) 0 r us with
    | error y => rw [h2] at h; simpa using h
    | ok y => rw [h2] at h; simp at h
  | ok x =>
    rw [h1] at h
    cases h2 : wordsF (L.map nrm) 0 r us with
    | error y => rw [h2] at h; simp at h
    | ok y => rw [h2] at h; simpa using h
theorem sts_no (L : List Tk) (E o : Nat) : ∀ (n r : Nat) (ss : List Sm), stsF L E o n r ss = stsF (L.map nrm) 0 o n r ss
  | 0, _, _ => rfl
  | n + 1, r, ss => by
    unfold stsF
    rw [show stF L E o n ss.length r = stF (L.map nrm) 0 o n ss.length r from no_st o n ss.length r L E, List.length_map]
    by_cases hc : ss.length = 0 ∨ r < L.length
    · rw [if_pos hc, if_pos hc]
      cases stF (L.map nrm) 0 o n ss.length r with
      | none => rfl
      | some z =>
        rcases z with x | ⟨s, r'⟩
        · rfl
        · simp only
          by_cases hl : r' < L.length
          · rw [if_pos hl, if_pos hl, ← wordsF_no]
            cases wordsF L E r' [[59]] with
            | error x => rfl
            | ok r2 => exact sts_no L E o n r2 (ss ++ [s])
          · rw [if_neg hl, if_neg hl]
            exact sts_no L E o n r' (ss ++ [s])
    · rw [if_neg hc, if_neg hc]
theorem nrm_sh (k : Nat) (L : List Tk) : (L.map (fun t => t.sh k)).map nrm = L.map nrm := by
  rw [List.map_map]
  rfl
theorem at_sh (k : Nat) (L : List Tk) (E i : Nat) : (tokAt (L.map (fun t => t.sh k)) (E + k) i).at_ = (tokAt L E i).at_ + k := by
  unfold tokAt
  rw [List.getD_eq_getElem?_getD, List.getD_eq_getElem?_getD, List.getElem?_map]
  cases L[i]? <;> rfl
theorem psF_ahead {n : Nat} {a s : List UInt8} {ss : List Sm} {er : Int} {p : Nat} (h : blkN false (a ++ s) = a.length + blkN false s) (hl : a.length + s.length ≤ 1024)
    (hy : psF n s = some (ss, er, p)) : ∃ p', psF n (a ++ s) = some (ss, er, p') ∧ (er ≠ 0 → p' = p + a.length) := by
  have hx := lexF_ahead h hl
  unfold psF at hy ⊢
  rw [hx]
  obtain ⟨⟨ts, e, q⟩, hX⟩ : ∃ X, lexF s = X := ⟨_, rfl⟩
  rw [hX] at hy ⊢
  unfold lexSh
  simp only at hy ⊢
  by_cases he : e = 0
  · subst he
    rw [if_neg (by simp)] at hy ⊢
    have hE : (a ++ s).length = s.length + a.length := by rw [List.length_append]; omega
    rw [hE]
    rw [sts_no] at hy
    rw [sts_no, show ((ts.map (Tk.sh a.length)).map nrm) = ts.map nrm from nrm_sh a.length ts]
    cases hs : stsF (ts.map nrm) 0 0 n 0 [] with
    | none => rw [hs] at hy; cases hy
    | some z =>
      rw [hs] at hy
      rcases z with ⟨x, i⟩ | ls
      · simp only [Option.some.injEq, Prod.mk.injEq] at hy
        obtain ⟨rfl, rfl, rfl⟩ := hy
        exact ⟨_, rfl, fun _ => at_sh a.length ts s.length i⟩
      · simp only [Option.some.injEq, Prod.mk.injEq] at hy
        obtain ⟨rfl, rfl, rfl⟩ := hy
        exact ⟨_, rfl, fun h => absurd rfl h⟩
  · rw [if_pos he] at hy ⊢
    simp only [Option.some.injEq, Prod.mk.injEq] at hy
    obtain ⟨rfl, rfl, rfl⟩ := hy
    exact ⟨_, rfl, fun _ => by rw [if_neg he]⟩
end Go.Proofs.YtiipglmbfgmbbaaGreatDoor
