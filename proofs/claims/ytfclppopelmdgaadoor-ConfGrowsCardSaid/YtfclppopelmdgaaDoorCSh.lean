/-
  Plain: two sets that have more than half of members a step apart share a member.
-/
import Derived.Test.YtfclppopelmdgaaDoorC6
namespace Go.Proofs.YtfclppopelmdgaaDoor
open Go.RowKit

def tn (b : Bool) : Nat := if b then 1 else 0
def sum5 (p : Int → Bool) : Nat := tn (p 1) + tn (p 2) + tn (p 3) + tn (p 4) + tn (p 5)
theorem row_sum (p q : Int → Bool) : ([1, 2, 3, 4, 5].filter p |>.filter q).length = sum5 (fun m => p m && q m) := by
  unfold sum5
  simp only [List.filter_cons, List.filter_nil]
  cases p 1 <;> cases p 2 <;> cases p 3 <;> cases p 4 <;> cases p 5 <;> simp only [Bool.false_and, Bool.true_and, if_true, if_false, List.filter_cons, List.filter_nil, Bool.false_eq_true] <;>
    cases q 1 <;> cases q 2 <;> cases q 3 <;> cases q 4 <;> cases q 5 <;> rfl
theorem cntB_sum (G : Nat) (q : Int → Bool) : cntB G q = sum5 (fun m => inG G m && q m) := row_sum (inG G) q
theorem pop_sum (G : Nat) : pop G = sum5 (inG G) := by
  have := cntB_sum G (fun _ => true)
  unfold cntB at this
  rw [List.filter_eq_self.2 (fun _ _ => rfl)] at this
  simpa [pop] using this
theorem inG_xor : ∀ a b : Fin 32, ∀ k : Fin 5, inG (Nat.xor a.val b.val) ((k.val : Int) + 1) = (inG a.val ((k.val : Int) + 1) ^^ inG b.val ((k.val : Int) + 1)) := by decide +kernel
theorem xor_at (A B : Nat) (hA : A < 32) (hB : B < 32) (m : Int) (h1 : 1 ≤ m) (h5 : m ≤ 5) : inG (Nat.xor A B) m = (inG A m ^^ inG B m) := by
  have h := inG_xor ⟨A, hA⟩ ⟨B, hB⟩
  rcases five h1 h5 with rfl | rfl | rfl | rfl | rfl
  · exact h 0
  · exact h 1
  · exact h 2
  · exact h 3
  · exact h 4
theorem one_place : ∀ a b s t : Bool, (s && t && (a || b)) = false → 2 * tn (a && s) + 2 * tn (b && t) ≤ tn a + tn b + tn (a ^^ b) := by decide
theorem share_some {X Y S T : List Int} (h : stepE X Y = 0) (h1 : majB X S = true) (h2 : majB Y T = true) : ∃ m, S.contains m = true ∧ (T.contains m = true ∧ (inG (grp X) m || inG (grp Y) m) = true) := by
  have hx : pop (Nat.xor (grp X) (grp Y)) ≤ 1 := by
    unfold stepE at h
    split at h
    · cases h
    · split at h
      · cases h
      · omega
  unfold majB mostB at h1 h2
  simp only [decide_eq_true_eq] at h1 h2
  rw [cntB_sum, pop_sum] at h1 h2
  rw [pop_sum] at hx
  have hxa := fun m h1 h5 => xor_at (grp X) (grp Y) (grp_lt X) (grp_lt Y) m h1 h5
  have key : ∀ m, 1 ≤ m → m ≤ 5 → (¬ ∃ m, S.contains m = true ∧ (T.contains m = true ∧ (inG (grp X) m || inG (grp Y) m) = true)) →
      2 * tn (inG (grp X) m && inG (amg S) m) + 2 * tn (inG (grp Y) m && inG (amg T) m) ≤ tn (inG (grp X) m) + tn (inG (grp Y) m) + tn (inG (Nat.xor (grp X) (grp Y)) m) := fun m a b hn => by
    rw [hxa m a b]
    refine one_place _ _ _ _ ?_
    rw [Bool.eq_false_iff]
    intro hc
    simp only [Bool.and_eq_true] at hc
    obtain ⟨⟨hs, ht⟩, hm⟩ := hc
    rw [inG_amg, decide_eq_true a, decide_eq_true b, Bool.true_and, Bool.true_and] at hs ht
    exact hn ⟨m, hs, ht, hm⟩
  refine Classical.byContradiction fun hn => ?_
  have k1 := key 1 (by decide) (by decide) hn
  have k2 := key 2 (by decide) (by decide) hn
  have k3 := key 3 (by decide) (by decide) hn
  have k4 := key 4 (by decide) (by decide) hn
  have k5 := key 5 (by decide) (by decide) hn
  simp only [sum5] at h1 h2 hx
  omega
/-- The round that finds it. -/
def hitS (X Y T : List Int) (m : Int) : Bool := T.contains m && (inG (grp X) m || inG (grp Y) m)
theorem share_at {X Y S T : List Int} (h : stepE X Y = 0) (h1 : majB X S = true) (h2 : majB Y T = true) : ∃ k, k < S.length ∧ hitS X Y T (S.getD k 0) = true := by
  obtain ⟨m, hs, ht, hm⟩ := share_some h h1 h2
  obtain ⟨k, hk, e⟩ := List.getElem_of_mem (List.contains_iff_mem.1 hs)
  refine ⟨k, hk, ?_⟩
  have : S.getD k 0 = m := by simp [List.getD, hk, e]
  rw [this]
  unfold hitS
  rw [ht, hm]
  rfl
end Go.Proofs.YtfclppopelmdgaaDoor
