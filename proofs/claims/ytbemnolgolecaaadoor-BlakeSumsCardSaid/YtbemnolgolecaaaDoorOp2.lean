/-
  Digests and numbers as arguments, in plain words.
-/
import Derived.Test.YtbemnolgolecaaaDoorOp
import Derived.Test.YtbemnolgolecaaaDoorS0
namespace Go.Proofs.YtbemnolgolecaaaDoor
open Go.RowKit

theorem bs_of {zs : List Int} (h : ∀ z ∈ zs, (Lit.int .u8 z).wf = true) : Bs zs := fun j => by
  by_cases hj : j < zs.length
  · have e : zs.getD j 0 = zs[j] := by simp [List.getD, hj]
    rw [e]
    exact bounds_u8 (h _ (List.getElem_mem hj))
  · rw [List.getD_eq_getElem?_getD, List.getElem?_eq_none (by omega)]
    decide
theorem nums_of {zs : List Int} {n : Nat} (hl : zs.length = n) (h : ∀ z ∈ zs, (Lit.int .u32 z).wf = true) : ∃ xs : List (BitVec 32), xs.length = n ∧ zs = xs.map fun x => (tn x : Int) := by
  refine ⟨zs.map bv, by rw [List.length_map, hl], ?_⟩
  rw [List.map_map]
  refine (List.map_id _).symm.trans (List.map_congr_left fun z hz => ?_)
  have hb := bounds_u32 (h z hz)
  have := mod_tn z
  show z = (tn (bv z) : Int)
  omega

end Go.Proofs.YtbemnolgolecaaaDoor
