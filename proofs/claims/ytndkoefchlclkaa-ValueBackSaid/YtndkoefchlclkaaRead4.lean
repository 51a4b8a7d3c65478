/-
  What a Reader answers, whatever its state: U8, U16, U32, U64, Raw, Go.
-/
import Derived.Test.YtndkoefchlclkaaClone
namespace Go.Proofs.Ytndkoefchlclkaa
open Go.RowKit

/-- Behind a step the Reader stands so, and of what was there nothing but the Reader has turned. -/
def Moved (w : World) (p : Nat) (k' er' : Int) (A : Option Addr) (n c : Nat) (w' : World) : Prop := Rd w' p k' er' A n c ∧ w.grownBy w' (some p)

/-- The document's reader: is there something to take? where it stands then, its error, what it took. -/
def okN (L k : Nat) (er m : Int) : Bool := (er == 0) && (decide (0 ≤ m) && decide (m ≤ (L : Int) - k))
def nAt (L k : Nat) (er m : Int) : Nat := if okN L k er m = true then k + m.toNat else k
def nErr (L k : Nat) (er m : Int) : Int := if (er == 0) = true then (if m < 0 then 2 else if (L : Int) - k < m then 7 else 0) else er
def nBytes (zs : List Int) (k : Nat) (er m : Int) : List Int := if okN zs.length k er m = true then (zs.drop k).take m.toNat else []
def okG (L k : Nat) (er m : Int) : Bool := (er == 0) && (decide (-(k : Int) ≤ m) && decide (m ≤ (L : Int) - k))
def gAt (L k : Nat) (er m : Int) : Nat := if okG L k er m = true then (k + m).toNat else k
def gErr (L k : Nat) (er m : Int) : Int := if (er == 0) = true then (if okG L k er m = true then 0 else 2) else er

theorem nAt_le (L k : Nat) (er m : Int) (h : k ≤ L) : nAt L k er m ≤ L := by
  unfold nAt okN
  split
  · rename_i h1
    simp at h1
    omega
  · exact h
theorem gAt_le (L k : Nat) (er m : Int) (h : k ≤ L) : gAt L k er m ≤ L := by
  unfold gAt okG
  split
  · rename_i h1
    simp at h1
    omega
  · exact h

section
variable {w w' : World} {p n c : Nat} {k er : Int} {A : Option Addr}
theorem Moved.same (h : Rd w p k er A n c) : Moved w p k er A n c w := ⟨h, World.grownBy.refl _ _⟩
theorem Moved.set0 (h : Rd w p k er A n c) (k' : Int) (q : Nat) : Moved w p k' er A n c ((w.setCell ⟨p, 0, none⟩ (.int .i64 k')).drewN q) :=
  ⟨Blk.drewN (Blk.set_ h 0 (.int .i64 k')) q, ⟨rfl, rfl, rfl, by simp [World.setCell, World.drewN], fun i _ hne => Below.heap_setCell w _ _ i (fun e => hne (by rw [e]))⟩⟩
theorem Moved.set1 (h : Rd w p k er A n c) (e' : Int) (q : Nat) : Moved w p k e' A n c ((w.setCell ⟨p, 1, none⟩ (.int .i64 e')).drewN q) :=
  ⟨Blk.drewN (Blk.set_ h 1 (.int .i64 e')) q, ⟨rfl, rfl, rfl, by simp [World.setCell, World.drewN], fun i _ hne => Below.heap_setCell w _ _ i (fun e => hne (by rw [e]))⟩⟩
theorem By.moved {zs : List Int} {k' er' : Int} (h : By w p A n zs) (hp : p < w.heap.size) (hm : Moved w p k' er' A n c w') : By w' p A n zs :=
  h.keep fun q hq => World.cell?_of_block (hm.2.block q.block (by omega) (fun e => by injection e with e; omega))
end

theorem number_any (p k m : Nat) (er : Int) (A : Option Addr) (n c : Nat) (zs : List Int) (w : World) (h : Rd w p k er A n c) (hb : By w p A n zs) (hk : k ≤ n) (hnc : n ≤ c) (hn : n ≤ 140737488355328) :
    Calls Try.prog 85 #[.pointer (some ⟨p, 0, none⟩), .int .i64 m] w fun e w' => e = .returned (.int .u64 (num (nBytes zs k er m))) ∧ Moved w p (nAt n k er m) (nErr n k er m) A n c w' := by
  by_cases he : (er == 0) = true
  · obtain rfl : er = 0 := by simpa using he
    by_cases hm : m ≤ n - k
    · refine (number_ok p k m A n c zs w h hb hk hnc hn hm).mono ?_
      rintro e w' ⟨rfl, q, rfl⟩
      have h1 : okN n k 0 m = true := by simp [okN]; omega
      have h2 : nAt n k 0 m = k + m := by simp [nAt, h1]
      have h3 : nErr n k 0 m = 0 := by simp only [nErr]; rw [if_pos (by decide), if_neg (by omega), if_neg (by omega)]
      have h4 : nBytes zs k 0 m = (zs.drop k).take m := by simp [nBytes, hb.1, h1]
      rw [h2, h3, h4]
      exact ⟨rfl, Moved.set0 h _ q⟩
    · refine (number_short p k m A n c w h hk hn (by omega)).mono ?_
      rintro e w' ⟨rfl, q, rfl⟩
      have h1 : okN n k 0 m = false := by simp [okN]; omega
      have h2 : nAt n k 0 m = k := by simp [nAt, h1]
      have h3 : nErr n k 0 m = 7 := by simp only [nErr]; rw [if_pos (by decide), if_neg (by omega), if_pos (by omega)]
      have h4 : nBytes zs k 0 m = [] := by simp [nBytes, hb.1, h1]
      rw [h2, h3, h4]
      exact ⟨rfl, Moved.set1 h _ q⟩
  · have he' : (er == 0) = false := by simpa using he
    refine (number_bad p k er m A n c w h he').mono ?_
    rintro e w' ⟨rfl, rfl⟩
    have h1 : okN n k er m = false := by simp [okN, he']
    have h2 : nAt n k er m = k := by simp [nAt, h1]
    have h3 : nErr n k er m = er := by simp only [nErr]; rw [if_neg (by simp [he'])]
    have h4 : nBytes zs k er m = [] := by simp [nBytes, hb.1, h1]
    rw [h2, h3, h4]
    exact ⟨rfl, Moved.same h⟩

end Go.Proofs.Ytndkoefchlclkaa
