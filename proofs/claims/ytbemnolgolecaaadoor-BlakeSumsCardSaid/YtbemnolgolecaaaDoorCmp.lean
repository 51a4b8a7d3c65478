/-
  What bytes.Compare answers (out of octet's texts).
-/
import Derived.Test.YtbemnolgolecaaaDoorBL
import Derived.Lib.BytesEntry
import Derived.Laws.Externs
namespace Go.Proofs.YtbemnolgolecaaaDoor
open Go.RowKit

theorem run_compareSlice (w : World) (g g' n c m d : Nat) (xs ys : List Int) (hx : xs.length = n) (hy : ys.length = m)
    (h : ∀ j, j < n → w.cell? ⟨g, j, none⟩ = some (.int .u8 (xs.getD j 0))) (h' : ∀ j, j < m → w.cell? ⟨g', j, none⟩ = some (.int .u8 (ys.getD j 0))) :
    (Extern.BytealgCompare.compare #[.slice (some ⟨g, 0, none⟩) n c, .slice (some ⟨g', 0, none⟩) m d]).run Tryd.prog w = .ok (.int .i64 (Lib.compareBytes (Lib.bytesOf xs) (Lib.bytesOf ys))) w := by
  have at_ : ∀ (b j : Nat), (⟨b, 0, none⟩ : Addr).add j = ⟨b, j, none⟩ := fun b j => by by_cases h0 : j = 0 <;> simp [Addr.add, h0]
  have l1 := Lib.run_loadBytesX (P := Tryd.prog) w xs ⟨g, 0, none⟩ .empty (fun j x hj => by
    have hjl : j < xs.length := (List.getElem?_eq_some_iff.1 hj).1
    rw [at_, h j (by omega), List.getD_eq_getElem?_getD, hj]
    rfl)
  have l2 := Lib.run_loadBytesX (P := Tryd.prog) w ys ⟨g', 0, none⟩ .empty (fun j x hj => by
    have hjl : j < ys.length := (List.getElem?_eq_some_iff.1 hj).1
    rw [at_, h' j (by omega), List.getD_eq_getElem?_getD, hj]
    rfl)
  have he : ∀ l : List UInt8, (⟨ByteArray.empty.data ++ l.toArray⟩ : ByteArray) = ⟨l.toArray⟩ := fun l => by
    apply ByteArray.ext
    show (#[] : Array UInt8) ++ l.toArray = l.toArray
    simp
  rw [hx, he] at l1
  rw [hy, he] at l2
  change Sem.run Tryd.prog (do pure (goInt (Extern.BytealgCompare.cmp (← Extern.Bytes.bytesOf (.slice (some ⟨g, 0, none⟩) n c)) (← Extern.Bytes.bytesOf (.slice (some ⟨g', 0, none⟩) m d))))) w = _
  simp only [Extern.Bytes.bytesOf, Sem.run_bind, Sem.run_pure, l1, l2, Result.andThen]
  rw [Lib.cmp_eq]
  rfl

set_option maxHeartbeats 400000 in
theorem bcompare_any (w : World) (g g' n c m d : Nat) (xs ys : List Int) (hx : xs.length = n) (hy : ys.length = m)
    (h : ∀ j, j < n → w.cell? ⟨g, j, none⟩ = some (.int .u8 (xs.getD j 0))) (h' : ∀ j, j < m → w.cell? ⟨g', j, none⟩ = some (.int .u8 (ys.getD j 0))) :
    Calls Tryd.prog 39 #[.slice (some ⟨g, 0, none⟩) n c, .slice (some ⟨g', 0, none⟩) m d] w fun e w' => e = .returned (.int .i64 (Lib.compareBytes (Lib.bytesOf xs) (Lib.bytesOf ys))) ∧ w = w' := by
  have hr := Lib.hid (run_compareSlice w g g' n c m d xs ys hx hy h h')
  clear h h' hx hy
  go_enter Tryd.func39, Tryd.ntmps39
  go_wp2
  rw [run_callFunc_extern Tryd.func48 (by kernel_rfl) (by kernel_rfl) (by kernel_rfl) (e := Extern.BytealgCompare.compare) (by kernel_rfl), hr.out]
  simp only [Result.andThen]
  rw [Oper.upon_value]
  go_wp2
  go_ret
  exact ⟨rfl, rfl⟩


end Go.Proofs.YtbemnolgolecaaaDoor
