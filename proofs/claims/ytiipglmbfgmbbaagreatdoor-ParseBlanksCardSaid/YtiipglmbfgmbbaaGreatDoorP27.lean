/-
  Statements, read: in plain words.
-/
import Derived.Test.YtiipglmbfgmbbaaGreatDoorP26
namespace Go.Proofs.YtiipglmbfgmbbaaGreatDoor
open Go.RowKit Go.Shelf

/-- What is read: nothing yet, in too few steps; what is wrong, and where; or a thing, and where it ends. -/
abbrev Rx (α : Type) := Option (Except (Int × Nat) (α × Nat))
def rb {α β : Type} (a : Rx α) (f : α → Nat → Rx β) : Rx β :=
  match a with
  | none => none
  | some (.error x) => some (.error x)
  | some (.ok (v, r)) => f v r
/-- Words that must stand there. -/
def rwd (L : List Tk) (E r : Nat) (us : List (List UInt8)) : Rx Unit :=
  match wordsF L E r us with
  | .error x => some (.error x)
  | .ok r' => some (.ok ((), r'))
def rok {α : Type} (v : α) (r : Nat) : Rx α := some (.ok (v, r))
theorem rb_ok {α β : Type} {a : Rx α} {f : α → Nat → Rx β} {v : α} {r : Nat} (h : a = some (.ok (v, r))) : rb a f = f v r := by rw [h]; rfl
theorem rb_err {α β : Type} {a : Rx α} {f : α → Nat → Rx β} {x : Int × Nat} (h : a = some (.error x)) : rb a f = some (.error x) := by rw [h]; rfl
/-- More steps give the same. -/
def Mono {α : Type} (X : Nat → Rx α) : Prop := ∀ n m x, n ≤ m → X n = some x → X m = some x
theorem Mono.const {α : Type} (x : Rx α) : Mono (fun _ => x) := fun _ _ _ _ h => h
theorem Mono.rb {α β : Type} {a : Nat → Rx α} {f : Nat → α → Nat → Rx β} (ha : Mono a) (hf : ∀ v r, Mono (fun n => f n v r)) : Mono (fun n => rb (a n) (f n)) := by
  intro n m x hnm h
  replace h : Go.Proofs.YtiipglmbfgmbbaaGreatDoor.rb (a n) (f n) = some x := h
  cases hy : a n with
  | none => rw [show Go.Proofs.YtiipglmbfgmbbaaGreatDoor.rb (a n) (f n) = none from by rw [hy]; rfl] at h; cases h
  | some y =>
    have hy' := ha n m y hnm hy
    rcases y with e | ⟨v, r⟩
    · rw [rb_err hy] at h
      show Go.Proofs.YtiipglmbfgmbbaaGreatDoor.rb (a m) (f m) = _
      rw [rb_err hy', h]
    · rw [rb_ok hy] at h
      show Go.Proofs.YtiipglmbfgmbbaaGreatDoor.rb (a m) (f m) = _
      rw [rb_ok hy']
      exact hf v r n m x hnm h
theorem Mono.ite {α : Type} {c : Prop} [Decidable c] {a b : Nat → Rx α} (ha : Mono a) (hb : Mono b) : Mono (fun n => if c then a n else b n) := by
  by_cases h : c
  · simpa [h] using ha
  · simpa [h] using hb
theorem exN_mono (L : List Tk) (E r o : Nat) : Mono (fun n => exN L E n r o) := by
  intro n m x hnm h
  replace h : exN L E n r o = some x := h
  show exN L E m r o = some x
  unfold exN at h ⊢
  cases hy : ex L E n (.lv .or) r o [] with
  | none => rw [hy] at h; cases h
  | some y =>
    rw [hy] at h
    rw [ex_mono L E n m _ _ _ _ _ hnm hy]
    exact h
theorem exB_mono (L : List Tk) (E : Nat) (u : List UInt8) (r o : Nat) : Mono (fun n => exB L E n u r o) := by
  unfold exB
  exact Mono.ite (exN_mono _ _ _ _) (Mono.const _)
theorem itF_mono (L : List Tk) (E r o : Nat) : Mono (fun n => itF L E n r o) := by
  intro n m x hnm h
  replace h : itF L E n r o = some x := h
  show itF L E m r o = some x
  unfold itF at h ⊢
  by_cases c1 : isB (tokAt L E r) [67, 79, 85, 78, 84] = true
  · rw [if_pos c1] at h ⊢; exact h
  · rw [if_neg c1] at h ⊢
    by_cases c2 : isB (tokAt L E r) [83, 85, 77] = true
    · rw [if_pos c2] at h ⊢
      cases hw : wordsF L E (r + 1) [[40]] with
      | error e => rw [hw] at h; exact h
      | ok r2 =>
        rw [hw] at h
        simp only at h ⊢
        cases hy : exN L E n r2 o with
        | none => rw [hy] at h; cases h
        | some y => rw [hy] at h; rw [show exN L E m r2 o = some y from exN_mono L E r2 o n m y hnm hy]; exact h
    · rw [if_neg c2] at h ⊢
      cases hy : exN L E n r o with
      | none => rw [hy] at h; cases h
      | some y => rw [hy] at h; rw [show exN L E m r o = some y from exN_mono L E r o n m y hnm hy]; exact h
/-- A list, with commas: what is read so far, and one more. -/
def lsF {α : Type} (L : List Tk) (E : Nat) (step : Nat → Nat → α → Rx α) : Nat → Nat → α → Rx α
  | 0, _, _ => none
  | n + 1, r, a => rb (step n r a) fun a r => if isB (tokAt L E r) [44] = true then lsF L E step n (r + 1) a else rok a r
theorem lsF_mono {α : Type} (L : List Tk) (E : Nat) (step : Nat → Nat → α → Rx α) (hs : ∀ r a, Mono (fun n => step n r a)) : ∀ r a, Mono (fun n => lsF L E step n r a) := by
  have H : ∀ (n m : Nat) (r : Nat) (a : α) (x : Except (Int × Nat) (α × Nat)), n ≤ m → lsF L E step n r a = some x → lsF L E step m r a = some x := by
    intro n
    induction n with
    | zero => intro m r a x _ h; cases h
    | succ n ih =>
      intro m r a x hm h
      cases m with
      | zero => omega
      | succ m =>
        unfold lsF at h ⊢
        cases hy : step n r a with
        | none => rw [hy] at h; cases h
        | some y =>
          have hy' := hs r a n m y (by omega) hy
          rcases y with e | ⟨v, r1⟩
          · rw [rb_err hy] at h
            rw [rb_err hy']
            exact h
          · rw [rb_ok hy] at h
            rw [rb_ok hy']
            by_cases c : isB (tokAt L E r1) [44] = true
            · rw [if_pos c] at h ⊢
              exact ih m _ _ _ (by omega) h
            · rw [if_neg c] at h ⊢
              exact h
  exact fun r a n m x => H n m r a x
/-- A statement. -/
structure Sm where
  kind : Nat
  table : List UInt8
  join : List UInt8
  cols : List (List UInt8 × Nat × Bool × Bool)
  sets : List (List UInt8 × List Nd)
  star : Bool
  items : List (Int × List Nd)
  on : List Nd
  wh : List Nd
  gt : List UInt8
  gn : List UInt8
  ot : List UInt8
  on_ : List UInt8
  desc : Bool
  limit : Int
def sm0 (k : Nat) : Sm := ⟨k, [], [], [], [], false, [], [], [], [], [], [], [], false, -1⟩
section
variable (L : List Tk) (E : Nat) (o : Nat)
def colS (_n r : Nat) (s : Sm) : Rx Sm := rb (some (colF L E r)) fun c r => rok { s with cols := s.cols ++ [c] } r
def insS (n r : Nat) (s : Sm) : Rx Sm := rb (exN L E n r o) fun ns r => rok { s with sets := s.sets ++ [([], ns)] } r
def updS (n r : Nat) (s : Sm) : Rx Sm := rb (some (nameF L E r)) fun u r => rb (rwd L E r [[61]]) fun _ r => rb (exN L E n r o) fun ns r => rok { s with sets := s.sets ++ [(u, ns)] } r
def itS (n r : Nat) (s : Sm) : Rx Sm := rb (itF L E n r o) fun x r => rok { s with items := s.items ++ [x] } r
theorem colS_mono (r : Nat) (s : Sm) : Mono (fun n => colS L E n r s) := Mono.const _
theorem insS_mono (r : Nat) (s : Sm) : Mono (fun n => insS L E o n r s) := Mono.rb (exN_mono _ _ _ _) (fun _ _ => Mono.const _)
theorem updS_mono (r : Nat) (s : Sm) : Mono (fun n => updS L E o n r s) := Mono.rb (Mono.const _) (fun _ _ => Mono.rb (Mono.const _) (fun _ _ => Mono.rb (exN_mono _ _ _ _) (fun _ _ => Mono.const _)))
theorem itS_mono (r : Nat) (s : Sm) : Mono (fun n => itS L E o n r s) := Mono.rb (itF_mono _ _ _ _) (fun _ _ => Mono.const _)
/-- CREATE, behind that word. -/
def creF (n r : Nat) (s : Sm) : Rx Sm :=
  rb (rwd L E r [[84, 65, 66, 76, 69]]) fun _ r => rb (some (nameF L E r)) fun u r => rb (rwd L E r [[40]]) fun _ r =>
  rb (lsF L E (colS L E) n r { s with table := u }) fun s r => rb (rwd L E r [[41]]) fun _ r => rok s r
/-- INSERT, behind that word. -/
def insF (n r : Nat) (s : Sm) : Rx Sm :=
  rb (rwd L E r [[73, 78, 84, 79]]) fun _ r => rb (some (nameF L E r)) fun u r => rb (rwd L E r [[86, 65, 76, 85, 69, 83], [40]]) fun _ r =>
  rb (lsF L E (insS L E o) n r { s with table := u }) fun s r => rb (rwd L E r [[41]]) fun _ r => rok s r
/-- UPDATE, behind that word. -/
def updF (n r : Nat) (s : Sm) : Rx Sm :=
  rb (some (nameF L E r)) fun u r => rb (rwd L E r [[83, 69, 84]]) fun _ r =>
  rb (lsF L E (updS L E o) n r { s with table := u }) fun s r => rb (exB L E n [87, 72, 69, 82, 69] r o) fun ns r => rok { s with wh := ns } r
/-- SELECT, behind that word: what is told, and of which table. -/
def chA (n r : Nat) (s : Sm) : Rx Sm :=
  rb (if isB (tokAt L E r) [42] = true then rok { s with star := true } (r + 1) else lsF L E (itS L E o) n r s) fun s r =>
  rb (rwd L E r [[70, 82, 79, 77]]) fun _ r => rb (some (nameF L E r)) fun u r => rok { s with table := u } r
/-- The second table. -/
def chB (n r : Nat) (s : Sm) : Rx Sm :=
  if isB (tokAt L E r) [73, 78, 78, 69, 82] = true then
    rb (rwd L E (r + 1) [[74, 79, 73, 78]]) fun _ r => rb (some (nameF L E r)) fun u r => rb (rwd L E r [[79, 78]]) fun _ r =>
    rb (exN L E n r o) fun ns r => rok { s with join := u, on := ns } r
  else rok s r
/-- WHERE, GROUP and ORDER. -/
def chC (n r : Nat) (s : Sm) : Rx Sm :=
  rb (exB L E n [87, 72, 69, 82, 69] r o) fun ns r => rb (some (refB L E [71, 82, 79, 85, 80] r)) fun g r =>
  rb (some (refB L E [79, 82, 68, 69, 82] r)) fun d r => rok { s with wh := ns, gt := g.1, gn := g.2, ot := d.1, on_ := d.2 } r
/-- ASC and DESC. -/
def chD (r : Nat) (s : Sm) : Rx Sm :=
  if s.ot = [] ∧ s.on_ = [] then rok s r
  else if isB (tokAt L E r) [65, 83, 67] = true then rok s (r + 1)
  else if isB (tokAt L E r) [68, 69, 83, 67] = true then rok { s with desc := true } (r + 1)
  else rok { s with desc := false } r
/-- LIMIT. -/
def chE (r : Nat) (s : Sm) : Rx Sm :=
  if isB (tokAt L E r) [76, 73, 77, 73, 84] = true then
    (if ((tokAt L E (r + 1)).kind == 3) = true then rok { s with limit := (tokAt L E (r + 1)).num } (r + 2) else some (.error (210, r + 1)))
  else rok s r
def chF (n r : Nat) (s : Sm) : Rx Sm :=
  rb (chA L E o n r s) fun s r => rb (chB L E o n r s) fun s r => rb (chC L E o n r s) fun s r => rb (chD L E r s) fun s r => chE L E r s
/-- A statement; so many are ahead of it. -/
def stF (n ahead r : Nat) : Rx Sm :=
  rb (some (kindF L E r)) fun k r =>
    if ahead = 8 then some (.error (212, r)) else
    rb (rwd L E r [fwL.getD k []]) fun _ r =>
    if k = 1 then creF L E n r (sm0 k)
    else if k = 2 then rb (rwd L E r [[84, 65, 66, 76, 69]]) fun _ r => rb (some (nameF L E r)) fun u r => rok { sm0 k with table := u } r
    else if k = 3 then insF L E o n r (sm0 k)
    else if k = 4 then updF L E o n r (sm0 k)
    else if k = 5 then rb (rwd L E r [[70, 82, 79, 77]]) fun _ r => rb (some (nameF L E r)) fun u r => rb (exB L E n [87, 72, 69, 82, 69] r o) fun ns r => rok { sm0 k with table := u, wh := ns } r
    else if k = 6 then chF L E o n r (sm0 k)
    else rok (sm0 k) r
/-- All statements; these are read. -/
def stsF : Nat → Nat → List Sm → Option (Except (Int × Nat) (List Sm))
  | 0, _, _ => none
  | n + 1, r, ss => if ss.length = 0 ∨ r < L.length then
      (match stF L E o n ss.length r with
      | none => none
      | some (.error x) => some (.error x)
      | some (.ok (s, r')) => if r' < L.length then (match wordsF L E r' [[59]] with
        | .error x => some (.error x)
        | .ok r'' => stsF n r'' (ss ++ [s])) else stsF n r' (ss ++ [s]))
    else some (.ok ss)
theorem creF_mono (r : Nat) (s : Sm) : Mono (fun n => creF L E n r s) :=
  Mono.rb (Mono.const _) fun _ _ => Mono.rb (Mono.const _) fun _ _ => Mono.rb (Mono.const _) fun _ _ => Mono.rb (lsF_mono L E _ (colS_mono L E) _ _) fun _ _ => Mono.const _
theorem insF_mono (r : Nat) (s : Sm) : Mono (fun n => insF L E o n r s) :=
  Mono.rb (Mono.const _) fun _ _ => Mono.rb (Mono.const _) fun _ _ => Mono.rb (Mono.const _) fun _ _ => Mono.rb (lsF_mono L E _ (insS_mono L E o) _ _) fun _ _ => Mono.const _
theorem updF_mono (r : Nat) (s : Sm) : Mono (fun n => updF L E o n r s) :=
  Mono.rb (Mono.const _) fun _ _ => Mono.rb (Mono.const _) fun _ _ => Mono.rb (lsF_mono L E _ (updS_mono L E o) _ _) fun _ _ => Mono.rb (exB_mono _ _ _ _ _) fun _ _ => Mono.const _
theorem chF_mono (r : Nat) (s : Sm) : Mono (fun n => chF L E o n r s) :=
  Mono.rb (Mono.rb (Mono.ite (Mono.const _) (lsF_mono L E _ (itS_mono L E o) _ _)) fun _ _ => Mono.const _) fun _ _ =>
  Mono.rb (Mono.ite (Mono.rb (Mono.const _) fun _ _ => Mono.rb (Mono.const _) fun _ _ => Mono.rb (Mono.const _) fun _ _ => Mono.rb (exN_mono _ _ _ _) fun _ _ => Mono.const _) (Mono.const _)) fun _ _ =>
  Mono.rb (Mono.rb (exB_mono _ _ _ _ _) fun _ _ => Mono.const _) fun _ _ => Mono.const _
theorem stF_mono (ahead r : Nat) : Mono (fun n => stF L E o n ahead r) :=
  Mono.rb (Mono.const _) fun _ _ => Mono.ite (Mono.const _) (Mono.rb (Mono.const _) fun _ _ => Mono.ite (creF_mono L E _ _) (Mono.ite (Mono.const _) (Mono.ite (insF_mono L E o _ _) (Mono.ite (updF_mono L E o _ _) (Mono.ite
    (Mono.rb (Mono.const _) fun _ _ => Mono.rb (Mono.const _) fun _ _ => Mono.rb (exB_mono _ _ _ _ _) fun _ _ => Mono.const _) (Mono.ite (chF_mono L E o _ _) (Mono.const _)))))))
end
end Go.Proofs.YtiipglmbfgmbbaaGreatDoor
