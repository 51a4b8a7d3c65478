/-
  Plain words on logs: spots, which entries may stand behind a Term, which logs may be. Nothing of the program is looked at here.
-/
import Derived.Below
namespace Go.Proofs.Ytmgaihdepglahaa

/-- An entry: its Term, its Kind, its Data. -/
structure En where
  t : Int
  k : Int
  d : List Int
deriving DecidableEq
/-- A log: Base's Index and Term, and the entries. -/
structure Lg where
  bi : Int
  bt : Int
  es : List En
deriving DecidableEq

def e0 : En := ⟨0, 0, []⟩
def lg0 : Lg := ⟨0, 0, []⟩

/-- The Index of the spot behind n entries, and its Term. -/
def spI (bi : Int) (n : Nat) : Int := (bi + n) % 18446744073709551616
def spT (bt : Int) (es : List En) : Nat → Int
  | 0 => bt
  | n + 1 => (es.getD n e0).t
/-- Behind how many entries the spot of that Index is. -/
def numB (bi : Int) (n : Nat) (i : Int) : Option Nat := if ((i - bi) % 18446744073709551616).toNat ≤ n then some ((i - bi) % 18446744073709551616).toNat else none

theorem spI_lt (bi : Int) (n : Nat) : 0 ≤ spI bi n ∧ spI bi n < 18446744073709551616 := by unfold spI; omega
theorem spI_zero (bi : Int) (h : 0 ≤ bi) (h' : bi < 18446744073709551616) : spI bi 0 = bi := by unfold spI; omega
theorem spI_succ (bi : Int) (n : Nat) : (spI bi n + 1) % 18446744073709551616 = spI bi (n + 1) := by unfold spI; omega
theorem numB_hit {bi i : Int} {n k : Nat} (hk : k ≤ n) (hn : n ≤ 1000000) (h : spI bi k = i) : numB bi n i = some k := by
  unfold numB
  unfold spI at h
  have : ((i - bi) % 18446744073709551616).toNat = k := by omega
  rw [this, if_pos hk]
theorem numB_miss {bi i : Int} {n : Nat} (h0 : 0 ≤ i) (h1 : i < 18446744073709551616) (h : ∀ k, k ≤ n → spI bi k ≠ i) : numB bi n i = none := by
  unfold numB
  by_cases hc : ((i - bi) % 18446744073709551616).toNat ≤ n
  · exact absurd (by unfold spI; omega) (h _ hc)
  · rw [if_neg hc]
theorem numB_some {bi i : Int} {n k : Nat} (h0 : 0 ≤ i) (h1 : i < 18446744073709551616) (h : numB bi n i = some k) : k ≤ n ∧ spI bi k = i := by
  unfold numB at h
  by_cases hc : ((i - bi) % 18446744073709551616).toNat ≤ n
  · rw [if_pos hc] at h
    injection h with h
    unfold spI
    omega
  · rw [if_neg hc] at h
    cases h

/-- May an entry be? -/
def rightE (e : En) : Bool := decide (e.t ≠ 0) && (decide (e.d.length ≤ 1024) && (if e.k = 1 then decide (e.d.length = 0) else decide (e.k = 2 ∨ e.k = 3)))
/-- May entries stand behind a Term? -/
def behind (t : Int) : List En → Bool
  | [] => true
  | e :: r => rightE e && (decide (t ≤ e.t) && behind e.t r)
/-- Is there an Index for each of so many behind one? -/
def room (i : Int) (n : Nat) : Bool := decide (i + n ≤ 18446744073709551614)
/-- May a log be? -/
def right (l : Lg) : Bool := (decide (l.bi = 0) == decide (l.bt = 0)) && (decide (l.es.length ≤ 16) && (behind l.bt l.es && room l.bi l.es.length))

theorem right_parts {l : Lg} (h : right l = true) : (l.bi = 0 ↔ l.bt = 0) ∧ l.es.length ≤ 16 ∧ behind l.bt l.es = true ∧ l.bi + l.es.length ≤ 18446744073709551614 := by
  unfold right room at h
  simp only [Bool.and_eq_true, beq_iff_eq, decide_eq_true_eq, decide_eq_decide] at h
  exact h
theorem right_mk {l : Lg} (h1 : l.bi = 0 ↔ l.bt = 0) (h2 : l.es.length ≤ 16) (h3 : behind l.bt l.es = true) (h4 : l.bi + l.es.length ≤ 18446744073709551614) : right l = true := by
  unfold right room
  simp only [Bool.and_eq_true, beq_iff_eq, decide_eq_true_eq, decide_eq_decide]
  exact ⟨h1, h2, h3, h4⟩
theorem spI_right {l : Lg} (h : right l = true) (h0 : 0 ≤ l.bi) {k : Nat} (hk : k ≤ l.es.length) : spI l.bi k = l.bi + k := by
  have := (right_parts h).2.2.2
  unfold spI
  omega
theorem numB_right {l : Lg} (h : right l = true) (h0 : 0 ≤ l.bi) {i : Int} (hi : 0 ≤ i) (hi' : i < 18446744073709551616) : numB l.bi l.es.length i = if l.bi ≤ i ∧ i ≤ l.bi + l.es.length then some (i - l.bi).toNat else none := by
  have hp := right_parts h
  by_cases hc : l.bi ≤ i ∧ i ≤ l.bi + l.es.length
  · rw [if_pos hc]
    exact numB_hit (by omega) (by omega) (by unfold spI; omega)
  · rw [if_neg hc]
    exact numB_miss hi hi' fun k hk => by unfold spI; omega

/-- What a log tells of an Index: the number of the spot. -/
def Lg.num (l : Lg) (i : Int) : Option Nat := numB l.bi l.es.length i
def Lg.T (l : Lg) (n : Nat) : Int := spT l.bt l.es n
def Lg.I (l : Lg) (n : Nat) : Int := spI l.bi n
def Lg.lastI (l : Lg) : Int := l.I l.es.length
def Lg.lastT (l : Lg) : Int := l.T l.es.length

/-- The document's answers, of whatever log. -/
def rTerm (l : Lg) (i : Int) : Int × Bool := match l.num i with | some k => (l.T k, true) | none => (0, false)
def rHas (l : Lg) (i t : Int) : Bool := match l.num i with | some k => decide (l.T k = t) | none => false
def rNewer (ai at_ bi bt : Int) : Bool := if at_ ≠ bt then decide (bt < at_) else decide (bi < ai)
/-- Extend: the log, its end, the error. -/
def rExtE (l : Lg) (more : List En) : Int := if behind l.lastT more = false then 2 else if 16 < l.es.length + more.length ∨ room l.lastI more.length = false then 6 else 0
def rExtL (l : Lg) (more : List En) : Lg := if rExtE l more = 0 then ⟨l.bi, l.bt, l.es ++ more⟩ else lg0
def rExtI (l : Lg) (more : List En) : Int := if rExtE l more = 0 then (⟨l.bi, l.bt, l.es ++ more⟩ : Lg).lastI else 0
def rExtT (l : Lg) (more : List En) : Int := if rExtE l more = 0 then (⟨l.bi, l.bt, l.es ++ more⟩ : Lg).lastT else 0
/-- Behind how many entries the spot ahead of that Index is. -/
def Lg.ahead (l : Lg) (i : Int) : Option Nat := if i = 0 then none else l.num (i - 1)
def rCutE (l : Lg) (i : Int) : Int := if (l.ahead i).isSome then 0 else 4
def rCutL (l : Lg) (i : Int) : Lg := match l.ahead i with | some k => ⟨l.bi, l.bt, l.es.take k⟩ | none => lg0
def rComL (l : Lg) (i : Int) : Lg := match l.num i with | some k => ⟨i, l.T k, l.es.drop k⟩ | none => lg0
def rComB (l : Lg) (i : Int) : Bool := (l.num i).isSome
/-- From: the spot, the entries, the error. -/
def rFromE (l : Lg) (i n : Int) : Int := if (l.ahead i).isNone then 4 else if n < 0 then 2 else 0
def rFromI (l : Lg) (i n : Int) : Int := if rFromE l i n = 0 then i - 1 else 0
def rFromT (l : Lg) (i n : Int) : Int := if rFromE l i n = 0 then l.T ((l.ahead i).getD 0) else 0
def rFromL (l : Lg) (i n : Int) : List En := if rFromE l i n = 0 then (l.es.drop ((l.ahead i).getD 0)).take n.toNat else []
/-- Conf: which entry, of the first n. -/
def confN (l : Lg) (i : Int) : Nat → Option Nat
  | 0 => none
  | n + 1 => if (l.es.getD n e0).k = 3 ∧ l.I (n + 1) ≤ i then some n else confN l i n
def rConfI (l : Lg) (i : Int) : Int := match confN l i l.es.length with | some n => l.I (n + 1) | none => 0
def rConfD (l : Lg) (i : Int) : List Int := match confN l i l.es.length with | some n => (l.es.getD n e0).d | none => []
def rConfB (l : Lg) (i : Int) : Bool := (confN l i l.es.length).isSome
/-- Does a log meet an entry of that spot? -/
def met1 (l : Lg) (i t : Int) : Bool := decide (i ≤ l.bi) || rHas l i t
/-- How many of the entries behind a spot's Index are met. -/
def metN (l : Lg) (i : Int) : List En → Nat
  | [] => 0
  | e :: r => if met1 l ((i + 1) % 18446744073709551616) e.t = true then metN l ((i + 1) % 18446744073709551616) r + 1 else 0
def rMeetE (l : Lg) (pi pt : Int) (es : List En) : Int := if (behind pt es && room pi es.length) = false then 2 else if l.bi ≤ pi ∧ rHas l pi pt = false then 4 else 0
def rMeetN (l : Lg) (pi pt : Int) (es : List En) : Nat := if rMeetE l pi pt es = 0 then metN l pi es else 0
/-- Take: the log cut at the first that is not met, with it and all behind it. -/
def takeC (l : Lg) (pi pt : Int) (es : List En) : Lg := rCutL l (spI pi (rMeetN l pi pt es + 1))
def rTakeE (l : Lg) (pi pt : Int) (es : List En) : Int :=
  if rMeetE l pi pt es ≠ 0 then rMeetE l pi pt es else if rMeetN l pi pt es = es.length then 0
  else if rCutE l (spI pi (rMeetN l pi pt es + 1)) ≠ 0 then rCutE l (spI pi (rMeetN l pi pt es + 1)) else rExtE (takeC l pi pt es) (es.drop (rMeetN l pi pt es))
def rTakeL (l : Lg) (pi pt : Int) (es : List En) : Lg := if rTakeE l pi pt es ≠ 0 then lg0 else if rMeetN l pi pt es = es.length then l else rExtL (takeC l pi pt es) (es.drop (rMeetN l pi pt es))
def rTakeI (l : Lg) (pi pt : Int) (es : List En) : Int := if rTakeE l pi pt es ≠ 0 then 0 else spI pi es.length

theorem metN_le (l : Lg) : ∀ (es : List En) (i : Int), metN l i es ≤ es.length
  | [], _ => Nat.le_refl _
  | e :: r, i => by
    rw [metN]
    have := metN_le l r ((i + 1) % 18446744073709551616)
    split
    · simp; omega
    · exact Nat.zero_le _

/-- What the program answers: the document's answer of a log that may be. -/
def pw {α : Type} (l : Lg) (x y : α) : α := if right l = true then x else y

end Go.Proofs.Ytmgaihdepglahaa
