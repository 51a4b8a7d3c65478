/-
  What is read of expressions and statements hangs on no token behind the last one.
-/
import Derived.Test.YtiipglmbfgmbbaaGreatDoorP49
namespace Go.Proofs.YtiipglmbfgmbbaaGreatDoor
open Go.RowKit Go.Shelf

def lastR : Except (Int × Nat) (Nat × Nat × List Nd) → Nat
  | .error x => x.2
  | .ok x => x.2.1
def LoR (r : Nat) (X : List Tk → Nat → Rs) : Prop :=
  ∀ (L L' : List Tk) (E E' : Nat) (y : Except (Int × Nat) (Nat × Nat × List Nd)), X L E = some y → r ≤ lastR y ∧ ((∀ j, j ≤ lastR y → tokAt L E j = tokAt L' E' j) → X L' E' = some y)
theorem LoR.weak {r r' : Nat} {X : List Tk → Nat → Rs} (h : LoR r X) (hr : r' ≤ r) : LoR r' X := fun L L' E E' y hy => ⟨Nat.le_trans hr (h L L' E E' y hy).1, (h L L' E E' y hy).2⟩
theorem LoR.ok {r r' : Nat} (row : Nat) (ns : List Nd) (h : r ≤ r') : LoR r (fun _ _ => some (.ok (row, r', ns))) := fun L L' E E' y hy => by
  injection hy with hy
  subst hy
  exact ⟨h, fun _ => rfl⟩
theorem LoR.one {r r' : Nat} (nd : Nd) (ns : List Nd) (h : r ≤ r') : LoR r (fun _ _ => one_ nd r' ns) := LoR.ok _ _ h
theorem LoR.err {r i : Nat} (e : Int) (h : r ≤ i) : LoR r (fun _ _ => some (.error (e, i))) := fun L L' E E' y hy => by
  injection hy with hy
  subst hy
  exact ⟨h, fun _ => rfl⟩
theorem LoR.none {r : Nat} : LoR r (fun _ _ => Option.none) := fun _ _ _ _ _ hy => by cases hy
theorem LoR.tok {r : Nat} {F : Tk → List Tk → Nat → Rs} (h : ∀ t, LoR r (F t)) : LoR r (fun L E => F (tokAt L E r) L E) := fun L L' E E' y hy => by
  have k := h (tokAt L E r) L L' E E' y hy
  refine ⟨k.1, fun ha => ?_⟩
  show F (tokAt L' E' r) L' E' = some y
  rw [← ha r k.1]
  exact k.2 ha
theorem LoR.ite {r : Nat} {c : Prop} [Decidable c] {X Y : List Tk → Nat → Rs} (hx : LoR r X) (hy : LoR r Y) : LoR r (fun L E => if c then X L E else Y L E) := by
  by_cases h : c
  · simpa [h] using hx
  · simpa [h] using hy
theorem LoR.cast {r : Nat} {X Y : List Tk → Nat → Rs} (h : LoR r X) (e : ∀ L E, Y L E = X L E) : LoR r Y := fun L L' E E' y hy => by
  rw [e] at hy
  have k := h L L' E E' y hy
  exact ⟨k.1, fun ha => by rw [e]; exact k.2 ha⟩
theorem LoR.bnd {r : Nat} {a : List Tk → Nat → Rs} {f : Nat → Nat → List Nd → List Tk → Nat → Rs} (ha : LoR r a) (hf : ∀ row r' ns, r ≤ r' → LoR r' (f row r' ns)) : LoR r (fun L E => Go.Proofs.YtiipglmbfgmbbaaGreatDoor.bnd (a L E) (fun row r' ns => f row r' ns L E)) := fun L L' E E' y hy => by
  replace hy : Go.Proofs.YtiipglmbfgmbbaaGreatDoor.bnd (a L E) (fun row r' ns => f row r' ns L E) = some y := hy
  unfold Go.Proofs.YtiipglmbfgmbbaaGreatDoor.bnd at hy ⊢
  cases hx : a L E with
  | none => rw [hx] at hy; cases hy
  | some x =>
    have k := ha L L' E E' x hx
    rw [hx] at hy
    rcases x with ⟨e, i⟩ | ⟨row, r', ns⟩
    · injection hy with hy
      subst hy
      exact ⟨k.1, fun hh => by simp only [k.2 hh]⟩
    · have k2 := hf row r' ns k.1 L L' E E' y hy
      refine ⟨Nat.le_trans k.1 k2.1, fun hh => ?_⟩
      have := k.2 fun j hj => hh j (Nat.le_trans hj k2.1)
      simp only [this]
      exact k2.2 hh
/-- What follows something else that is read. -/
def rbR {α : Type} (a : Rx α) (f : α → Nat → Rs) : Rs :=
  match a with
  | none => none
  | some (.error x) => some (.error x)
  | some (.ok (v, r)) => f v r
theorem LoR.rbR {α : Type} {r : Nat} {a : List Tk → Nat → Rx α} {f : α → Nat → List Tk → Nat → Rs} (ha : Lo r a) (hf : ∀ v r', r ≤ r' → LoR r' (f v r')) : LoR r (fun L E => Go.Proofs.YtiipglmbfgmbbaaGreatDoor.rbR (a L E) (fun v r' => f v r' L E)) := fun L L' E E' y hy => by
  replace hy : Go.Proofs.YtiipglmbfgmbbaaGreatDoor.rbR (a L E) (fun v r' => f v r' L E) = some y := hy
  unfold Go.Proofs.YtiipglmbfgmbbaaGreatDoor.rbR at hy ⊢
  cases hx : a L E with
  | none => rw [hx] at hy; cases hy
  | some x =>
    have k := ha L L' E E' x hx
    rw [hx] at hy
    rcases x with ⟨e, i⟩ | ⟨v, r'⟩
    · injection hy with hy
      subst hy
      exact ⟨k.1, fun hh => by simp only [k.2 hh]⟩
    · have k2 := hf v r' k.1 L L' E E' y hy
      refine ⟨Nat.le_trans k.1 k2.1, fun hh => ?_⟩
      have := k.2 fun j hj => hh j (Nat.le_trans hj k2.1)
      simp only [this]
      exact k2.2 hh
def opG (t : Tk) (rank : Nat) : (Nat × Nat × Nat) × Bool := (opF t.text, decide ((opF t.text).1 = rank) && (t.kind == 1 || t.kind == 5))
theorem lo_ex : ∀ (n : Nat) (g : Gx) (r o : Nat) (ns : List Nd), LoR r (fun L E => ex L E n g r o ns)
  | 0, g, r, o, ns => LoR.cast (X := fun _ _ => Option.none) LoR.none (fun L E => by unfold ex; rfl)
  | n + 1, .lv .or, r, o, ns => LoR.bnd (f := fun row r ns L E => ex L E n (.lp 1 .and row) r o ns) (lo_ex n _ r o ns) (fun row r' ns' _ => lo_ex n _ r' o ns')
  | n + 1, .lv .and, r, o, ns => LoR.bnd (f := fun row r ns L E => ex L E n (.lp 2 .not row) r o ns) (lo_ex n _ r o ns) (fun row r' ns' _ => lo_ex n _ r' o ns')
  | n + 1, .lv .sum, r, o, ns => LoR.bnd (f := fun row r ns L E => ex L E n (.lp 4 .prod row) r o ns) (lo_ex n _ r o ns) (fun row r' ns' _ => lo_ex n _ r' o ns')
  | n + 1, .lv .prod, r, o, ns => LoR.bnd (f := fun row r ns L E => ex L E n (.lp 5 .minus row) r o ns) (lo_ex n _ r o ns) (fun row r' ns' _ => lo_ex n _ r' o ns')
  | n + 1, .lv .not, r, o, ns => LoR.tok (F := fun t L E => if isB t NOTs = true then (if o = 16 then some (.error (211, r)) else bnd (ex L E n (.lv .not) (r + 1) (o + 1) ns) fun row r ns => one_ (nd1 3 row) r ns) else ex L E n (.lv .test) r o ns) fun t =>
      LoR.ite (LoR.ite (LoR.err _ (Nat.le_refl r)) ((LoR.bnd (f := fun row r ns _ _ => one_ (nd1 3 row) r ns) (lo_ex n _ (r + 1) (o + 1) ns) (fun row r' ns' _ => LoR.one _ _ (Nat.le_refl r'))).weak (Nat.le_succ r))) (lo_ex n _ r o ns)
  | n + 1, .lv .minus, r, o, ns => LoR.tok (F := fun t L E => if isB t [45] = true then (if o = 16 then some (.error (211, r)) else bnd (ex L E n (.lv .minus) (r + 1) (o + 1) ns) fun row r ns => one_ (nd1 4 row) r ns) else ex L E n (.lv .single) r o ns) fun t =>
      LoR.ite (LoR.ite (LoR.err _ (Nat.le_refl r)) ((LoR.bnd (f := fun row r ns _ _ => one_ (nd1 4 row) r ns) (lo_ex n _ (r + 1) (o + 1) ns) (fun row r' ns' _ => LoR.one _ _ (Nat.le_refl r'))).weak (Nat.le_succ r))) (lo_ex n _ r o ns)
  | n + 1, .lv .test, r, o, ns => LoR.cast (X := fun L E => bnd (ex L E n (.lv .sum) r o ns) fun row r ns =>
      (fun t : Tk => if (opG t 3).2 = true then bnd (ex L E n (.lv .sum) (r + 1) o ns) fun row2 r2 ns => one_ (nd2 (opG t 3).1 row row2) r2 ns
      else if isB t [73, 83] = true then (fun t2 : Tk => rbR (rwd L E (if isB t2 NOTs = true then r + 2 else r + 1) [NULLs]) fun _ r3 => one_ (nd1 (if isB t2 NOTs = true then 10 else 9) row) r3 ns) (tokAt L E (r + 1))
      else some (.ok (row, r, ns))) (tokAt L E r))
      (LoR.bnd (f := fun row r ns L E => (fun t : Tk => if (opG t 3).2 = true then bnd (ex L E n (.lv .sum) (r + 1) o ns) fun row2 r2 ns => one_ (nd2 (opG t 3).1 row row2) r2 ns
      else if isB t [73, 83] = true then (fun t2 : Tk => rbR (rwd L E (if isB t2 NOTs = true then r + 2 else r + 1) [NULLs]) fun _ r3 => one_ (nd1 (if isB t2 NOTs = true then 10 else 9) row) r3 ns) (tokAt L E (r + 1))
      else some (.ok (row, r, ns))) (tokAt L E r)) (lo_ex n _ r o ns) fun row r' ns' _ =>
        LoR.tok (F := fun t L E => if (opG t 3).2 = true then bnd (ex L E n (.lv .sum) (r' + 1) o ns') fun row2 r2 ns => one_ (nd2 (opG t 3).1 row row2) r2 ns
      else if isB t [73, 83] = true then (fun t2 : Tk => rbR (rwd L E (if isB t2 NOTs = true then r' + 2 else r' + 1) [NULLs]) fun _ r3 => one_ (nd1 (if isB t2 NOTs = true then 10 else 9) row) r3 ns') (tokAt L E (r' + 1))
      else some (.ok (row, r', ns'))) fun t =>
          LoR.ite ((LoR.bnd (f := fun row2 r2 ns _ _ => one_ (nd2 (opG t 3).1 row row2) r2 ns) (lo_ex n _ (r' + 1) o ns') (fun row2 r2 ns2 _ => LoR.one _ _ (Nat.le_refl r2))).weak (Nat.le_succ r'))
            (LoR.ite ((LoR.tok (r := r' + 1) (F := fun t2 L E => rbR (rwd L E (if isB t2 NOTs = true then r' + 2 else r' + 1) [NULLs]) fun _ r3 => one_ (nd1 (if isB t2 NOTs = true then 10 else 9) row) r3 ns') fun t2 =>
              (LoR.rbR (f := fun _ r3 _ _ => one_ (nd1 (if isB t2 NOTs = true then 10 else 9) row) r3 ns') (lo_words _ _) (fun _ r3 _ => LoR.one _ _ (Nat.le_refl r3))).weak (by split <;> omega)).weak (Nat.le_succ r')) (LoR.ok _ _ (Nat.le_refl r'))))
      (fun L E => by
        show bnd (ex L E n (.lv .sum) r o ns) _ = bnd (ex L E n (.lv .sum) r o ns) _
        congr 1
        funext row r ns
        show (if (opX L E r 3).2 = true then _ else _) = if (opG (tokAt L E r) 3).2 = true then _ else _
        by_cases c1 : (opX L E r 3).2 = true
        · rw [if_pos c1, if_pos (show (opG (tokAt L E r) 3).2 = true from c1)]
          rfl
        · rw [if_neg c1, if_neg (show ¬ (opG (tokAt L E r) 3).2 = true from c1)]
          by_cases c2 : isB (tokAt L E r) [73, 83] = true
          · rw [if_pos c2, if_pos c2]
            show (match wordsF L E (if isB (tokAt L E (r + 1)) NOTs = true then r + 2 else r + 1) [NULLs] with | .error x => _ | .ok r3 => _) = rbR (rwd L E (if isB (tokAt L E (r + 1)) NOTs = true then r + 2 else r + 1) [NULLs]) _
            unfold rwd
            cases wordsF L E (if isB (tokAt L E (r + 1)) NOTs = true then r + 2 else r + 1) [NULLs] <;> rfl
          · rw [if_neg c2, if_neg c2])
  | n + 1, .lv .single, r, o, ns => LoR.cast (X := fun L E => (fun t : Tk => if isB t [40] = true then (if o = 16 then some (.error (211, r)) else bnd (ex L E n (.lv .or) (r + 1) (o + 1) ns) fun row r ns =>
        if isB (tokAt L E r) [41] = true then some (.ok (row, r + 1, ns)) else some (.error (210, r)))
      else if (t.kind == 2) = true then rbR (some (refF L E r)) fun u r2 => one_ (ndC u.1 u.2) r2 ns
      else rbR (some (valF L E r)) fun v r2 => one_ (ndV1 v.1 v.2.1 v.2.2) r2 ns) (tokAt L E r))
      (LoR.tok (F := fun t L E => if isB t [40] = true then (if o = 16 then some (.error (211, r)) else bnd (ex L E n (.lv .or) (r + 1) (o + 1) ns) fun row r ns =>
        if isB (tokAt L E r) [41] = true then some (.ok (row, r + 1, ns)) else some (.error (210, r)))
      else if (t.kind == 2) = true then rbR (some (refF L E r)) fun u r2 => one_ (ndC u.1 u.2) r2 ns
      else rbR (some (valF L E r)) fun v r2 => one_ (ndV1 v.1 v.2.1 v.2.2) r2 ns) fun t =>
        LoR.ite (LoR.ite (LoR.err _ (Nat.le_refl r)) ((LoR.bnd (f := fun row r ns L E => if isB (tokAt L E r) [41] = true then some (.ok (row, r + 1, ns)) else some (.error (210, r))) (lo_ex n _ (r + 1) (o + 1) ns) (fun row r' ns' _ =>
            LoR.tok (F := fun t _ _ => if isB t [41] = true then some (.ok (row, r' + 1, ns')) else some (.error (210, r'))) fun t => LoR.ite (LoR.ok _ _ (Nat.le_succ r')) (LoR.err _ (Nat.le_refl r')))).weak (Nat.le_succ r)))
          (LoR.ite (LoR.rbR (f := fun u r2 _ _ => one_ (ndC u.1 u.2) r2 ns) (lo_ref r) (fun u r2 _ => LoR.one _ _ (Nat.le_refl r2))) (LoR.rbR (f := fun v r2 _ _ => one_ (ndV1 v.1 v.2.1 v.2.2) r2 ns) (lo_val r) (fun v r2 _ => LoR.one _ _ (Nat.le_refl r2)))))
      (fun L E => by
        show (if isB (tokAt L E r) [40] = true then _ else if ((tokAt L E r).kind == 2) = true then (match refF L E r with | .error x => _ | .ok ((u, v), r2) => _) else (match valF L E r with | .error x => _ | .ok ((k, v, t), r2) => _)) = if isB (tokAt L E r) [40] = true then _ else if ((tokAt L E r).kind == 2) = true then _ else _
        by_cases c1 : isB (tokAt L E r) [40] = true
        · rw [if_pos c1, if_pos c1]
        · rw [if_neg c1, if_neg c1]
          by_cases c2 : ((tokAt L E r).kind == 2) = true
          · rw [if_pos c2, if_pos c2]
            cases refF L E r <;> rfl
          · rw [if_neg c2, if_neg c2]
            cases valF L E r <;> rfl)
  | n + 1, .lp rank part row, r, o, ns => LoR.cast (X := fun L E => (fun t : Tk => if (opG t rank).2 = true then bnd (ex L E n (.lv part) (r + 1) o ns) fun row2 r2 ns => ex L E n (.lp rank part ns.length) r2 o (ns ++ [nd2 (opG t rank).1 row row2]) else some (.ok (row, r, ns))) (tokAt L E r))
      (LoR.tok (F := fun t L E => if (opG t rank).2 = true then bnd (ex L E n (.lv part) (r + 1) o ns) fun row2 r2 ns => ex L E n (.lp rank part ns.length) r2 o (ns ++ [nd2 (opG t rank).1 row row2]) else some (.ok (row, r, ns))) fun t =>
        LoR.ite ((LoR.bnd (f := fun row2 r2 ns L E => ex L E n (.lp rank part ns.length) r2 o (ns ++ [nd2 (opG t rank).1 row row2])) (lo_ex n _ (r + 1) o ns) (fun row2 r2 ns2 _ => lo_ex n _ r2 o _)).weak (Nat.le_succ r)) (LoR.ok _ _ (Nat.le_refl r)))
      (fun L E => rfl)
theorem lo_exN (n r o : Nat) : Lo r (fun L E => exN L E n r o) := fun L L' E E' y hy => by
  replace hy : exN L E n r o = some y := hy
  show r ≤ lastE y ∧ ((∀ j, j ≤ lastE y → tokAt L E j = tokAt L' E' j) → exN L' E' n r o = some y)
  unfold exN at hy ⊢
  cases hx : ex L E n (.lv .or) r o [] with
  | none => rw [hx] at hy; cases hy
  | some x =>
    have k := lo_ex n (.lv .or) r o [] L L' E E' x hx
    rw [hx] at hy
    rcases x with ⟨e, i⟩ | ⟨row, r', ns⟩
    · injection hy with hy
      subst hy
      exact ⟨k.1, fun hh => by simp only [k.2 hh]⟩
    · injection hy with hy
      subst hy
      exact ⟨k.1, fun hh => by simp only [k.2 hh]⟩
theorem lo_exB (n : Nat) (u : List UInt8) (r o : Nat) : Lo r (fun L E => exB L E n u r o) :=
  Lo.tok (F := fun t L E => if isB t u = true then exN L E n (r + 1) o else some (.ok ([], r))) fun t => Lo.ite ((lo_exN n (r + 1) o).weak (Nat.le_succ r)) (Lo.ok [] (Nat.le_refl r))
theorem lo_refB (u : List UInt8) (r : Nat) : Lo r (fun L E => some (refB L E u r)) :=
  Lo.cast (X := fun L E => if isB (tokAt L E r) u = true then rb (rwd L E (r + 1) [[66, 89]]) fun _ r2 => some (refF L E r2) else rok (([] : List UInt8), ([] : List UInt8)) r)
    (Lo.tok (F := fun t L E => if isB t u = true then rb (rwd L E (r + 1) [[66, 89]]) fun _ r2 => some (refF L E r2) else rok (([] : List UInt8), ([] : List UInt8)) r) fun t =>
      Lo.ite ((Lo.rb (f := fun _ r2 L E => some (refF L E r2)) (lo_words _ _) fun _ r2 _ => lo_ref r2).weak (Nat.le_succ r)) (Lo.ok _ (Nat.le_refl r)))
    (fun L E => by
      unfold refB
      by_cases c : isB (tokAt L E r) u = true
      · rw [if_pos c, if_pos c]
        unfold rwd wordsF wordsF
        by_cases k : isB (tokAt L E (r + 1)) [66, 89] = true
        · rw [if_pos k, if_pos k]; rfl
        · rw [if_neg k, if_neg k]; rfl
      · rw [if_neg c, if_neg c]; rfl)
theorem lo_it (n r o : Nat) : Lo r (fun L E => itF L E n r o) :=
  Lo.cast (X := fun L E => (fun t : Tk => if isB t [67, 79, 85, 78, 84] = true then rb (rwd L E (r + 1) [[40], [42], [41]]) fun _ r2 => rok ((2 : Int), ([] : List Nd)) r2
      else if isB t [83, 85, 77] = true then rb (rwd L E (r + 1) [[40]]) fun _ r2 => rb (exN L E n r2 o) fun ns r3 => rb (rwd L E r3 [[41]]) fun _ r4 => rok (3, ns) r4
      else rb (exN L E n r o) fun ns r' => rok (1, ns) r') (tokAt L E r))
    (Lo.tok (F := fun t L E => if isB t [67, 79, 85, 78, 84] = true then rb (rwd L E (r + 1) [[40], [42], [41]]) fun _ r2 => rok ((2 : Int), ([] : List Nd)) r2
      else if isB t [83, 85, 77] = true then rb (rwd L E (r + 1) [[40]]) fun _ r2 => rb (exN L E n r2 o) fun ns r3 => rb (rwd L E r3 [[41]]) fun _ r4 => rok (3, ns) r4
      else rb (exN L E n r o) fun ns r' => rok (1, ns) r') fun t =>
      Lo.ite ((Lo.rb (f := fun _ r2 _ _ => rok ((2 : Int), ([] : List Nd)) r2) (lo_words _ _) fun _ r2 _ => Lo.ok _ (Nat.le_refl r2)).weak (Nat.le_succ r))
        (Lo.ite ((Lo.rb (f := fun _ r2 L E => rb (exN L E n r2 o) fun ns r3 => rb (rwd L E r3 [[41]]) fun _ r4 => rok ((3 : Int), ns) r4) (lo_words _ _) fun _ r2 _ =>
            Lo.rb (f := fun ns r3 L E => rb (rwd L E r3 [[41]]) fun _ r4 => rok ((3 : Int), ns) r4) (lo_exN n r2 o) fun ns r3 _ => Lo.rb (f := fun _ r4 _ _ => rok ((3 : Int), ns) r4) (lo_words _ _) fun _ r4 _ => Lo.ok _ (Nat.le_refl r4)).weak (Nat.le_succ r))
          (Lo.rb (f := fun ns r' _ _ => rok ((1 : Int), ns) r') (lo_exN n r o) fun ns r' _ => Lo.ok _ (Nat.le_refl r'))))
    (fun L E => by
      unfold itF
      simp only
      by_cases c1 : isB (tokAt L E r) [67, 79, 85, 78, 84] = true
      · rw [if_pos c1, if_pos c1]
        unfold rwd
        cases wordsF L E (r + 1) [[40], [42], [41]] <;> rfl
      · rw [if_neg c1, if_neg c1]
        by_cases c2 : isB (tokAt L E r) [83, 85, 77] = true
        · rw [if_pos c2, if_pos c2]
          cases hw : wordsF L E (r + 1) [[40]] with
          | error e => rw [rb_err (a := rwd L E (r + 1) [[40]]) (by unfold rwd; rw [hw])]
          | ok r2 =>
            rw [rb_ok (a := rwd L E (r + 1) [[40]]) (v := ()) (r := r2) (by unfold rwd; rw [hw])]
            simp only
            cases hx : exN L E n r2 o with
            | none => rfl
            | some x =>
              rcases x with e | ⟨ns, r3⟩
              · rfl
              · show _ = rb (rwd L E r3 [[41]]) _
                unfold rwd
                simp only
                cases wordsF L E r3 [[41]] <;> rfl
        · rw [if_neg c2, if_neg c2]
          cases hx : exN L E n r o with
          | none => rfl
          | some x => rcases x with e | ⟨ns, r3⟩ <;> rfl)
theorem lo_ls {α : Type} {step : List Tk → Nat → Nat → Nat → α → Rx α} (hs : ∀ n r a, Lo r (fun L E => step L E n r a)) : ∀ (n r : Nat) (a : α), Lo r (fun L E => lsF L E (step L E) n r a)
  | 0, r, a => Lo.cast (X := fun _ _ => Option.none) Lo.none (fun L E => rfl)
  | n + 1, r, a => Lo.rb (f := fun a r L E => if isB (tokAt L E r) [44] = true then lsF L E (step L E) n (r + 1) a else rok a r) (hs n r a) fun a r' _ =>
      Lo.tok (F := fun t L E => if isB t [44] = true then lsF L E (step L E) n (r' + 1) a else rok a r') fun t => Lo.ite ((lo_ls hs n (r' + 1) a).weak (Nat.le_succ r')) (Lo.ok _ (Nat.le_refl r'))
end Go.Proofs.YtiipglmbfgmbbaaGreatDoor
