/-
  The layer does something: the laws' wakes.
-/
import Derived.Test.YtfclppopelmdgaaDoorC9
namespace Go.Proofs.YtfclppopelmdgaaDoor
open Go.RowKit
attribute [local go_sem ↓] field27

theorem Is.lit {w : World} {n : Nat} {cs : Array Value} {xs : List Int} (hc : cs = (xs.map (Value.int .i64)).toArray) (hn : xs.length = n) : Is (w.alloc (.cells cs 3)) (w.heap.size + 1) (some ⟨w.heap.size, 0, none⟩) n xs := by
  subst hc
  refine ⟨hn, fun _ => ⟨w.heap.size, 0, rfl, by omega, fun j hj => ?_⟩⟩
  rw [Nat.zero_add, (Blk.new w 3 _).cell]
  simp [List.getD, show j < xs.length by omega]
theorem wk_add : addL [2, 4] 3 = [2, 3, 4] ∧ addE [2, 4] 3 = 0 := by decide +kernel
theorem wk_enc : (encL [2, 3, 4]).length = 4 ∧ chkE [2, 3, 4] = 0 := by decide +kernel
theorem wk_maj : majB [2, 3, 4] [4, 2] = true ∧ majB [2, 3, 4] [4, 4] = false := by decide +kernel

set_option maxRecDepth 100000 in
set_option maxHeartbeats 2000000 in
theorem wakes_any (w : World) (hG : Gl w) : Calls Tryd.prog 10 #[] w fun e w' => e = .returned (.bool true) ∧ Below w.heap.size w w' := by
  have hb1 : Below w.heap.size w (w.alloc (.cells #[.int .i64 2, .int .i64 4] 3)) := (Below.refl _ _).alloc (Nat.le_refl _) _
  have AD := add_any 3 (some ⟨w.heap.size, 0, none⟩) 2 2 (w.heap.size + 1) [2, 4] (w.alloc (.cells #[.int .i64 2, .int .i64 4] 3)) (Is.lit rfl rfl) (by omega) (by simp) (hG.low hb1)
  rw [wk_add.1, wk_add.2] at AD
  have AD' := Lib.hid AD
  have HB1 := Lib.hid hb1
  have HG := Lib.hid hG
  have F1 : Hid True := Lib.hid trivial
  clear AD hb1 hG
  go_enter Tryd.func10, Tryd.ntmps10
  go_wp2_with (first
    | (go_at_call 26
       refine AD'.out.mono ?_
       rintro e w2 ⟨A3, n3, c3, rfl, hm, hn3, hb2⟩
       have HB2 := Lib.hid (HB1.out.trans (hb2.mono HB1.out.size))
       have hbx : Below w2.heap.size w2 (w2.alloc (.cells #[.slice A3 n3 c3] 27)) := (Below.refl _ _).alloc (Nat.le_refl _) _
       have HB3 : Hid (Below w.heap.size w (w2.alloc (.cells #[.slice A3 n3 c3] 27))) := Lib.hid (HB2.out.trans (hbx.mono HB2.out.size))
       have I3 : Hid (Is (w2.alloc (.cells #[.slice A3 n3 c3] 27)) w2.heap.size A3 n3 [2, 3, 4]) := Lib.hid (hm.is_.below hbx)
       have X3 : Hid (Blk (w2.alloc (.cells #[.slice A3 n3 c3] 27)) w2.heap.size 27 #[.slice A3 n3 c3]) := Lib.hid (Blk.new _ _ _)
       have EN := encode_any A3 n3 c3 w2.heap.size [2, 3, 4] _ I3.out (by omega) (by simp) (HG.out.low HB3.out)
       rw [wk_enc.2] at EN
       have EN' := Lib.hid EN
       have N3 := Lib.hid hn3
       clear hm hn3 hb2 hbx EN AD')
    | (go_at_call 30
       refine EN'.out.mono ?_
       rintro e w4 ⟨A5, n5, c5, rfl, ho5, hb5⟩
       have hl5 := ho5.len
       rw [wk_enc.1] at hl5
       subst hl5
       have I4 := Lib.hid (I3.out.below (hb5.mono (Nat.le_of_lt X3.out.lt)))
       have HB4 := Lib.hid (HB3.out.trans (hb5.mono HB3.out.size))
       have X4 := Lib.hid (X3.out.below hb5 X3.out.lt)
       have x4 : w4.cell? ⟨w2.heap.size, 0, none⟩ = some (.slice A3 n3 c3) := X4.out.cell 0
       have hby : Below w4.heap.size w4 (w4.alloc (.cells #[.int .i64 2, .int .i64 3, .int .i64 4] 3)) := (Below.refl _ _).alloc (Nat.le_refl _) _
       have EQ := equal_ints A3 (some ⟨w4.heap.size, 0, none⟩) n3 c3 3 3 w2.heap.size (w4.heap.size + 1) [2, 3, 4] [2, 3, 4] (w4.alloc (.cells #[.int .i64 2, .int .i64 3, .int .i64 4] 3)) (I4.out.below (hby.mono (Nat.le_of_lt X4.out.lt))) (Is.lit rfl rfl) (by have := N3.out; omega) (by omega)
       have EQ' := Lib.hid EQ
       have HB5 := Lib.hid (HB4.out.trans (hby.mono HB4.out.size))
       have I5 := Lib.hid (I4.out.below (hby.mono (Nat.le_of_lt X4.out.lt)))
       have X5 := Lib.hid (X4.out.below hby X4.out.lt)
       clear ho5 hb5 EQ hby EN')
    | (go_at_call 21
       refine EQ'.out.mono ?_
       rintro e w6 ⟨rfl, hb6⟩
       rw [show (([2, 3, 4] : List Int) == [2, 3, 4]) = true by decide]
       have HB6 := Lib.hid (HB5.out.trans (hb6.mono HB5.out.size))
       have I6 := Lib.hid (I5.out.below (hb6.mono (Nat.le_of_lt X5.out.lt)))
       have X6 := Lib.hid (X5.out.below hb6 X5.out.lt)
       have x6 : w6.cell? ⟨w2.heap.size, 0, none⟩ = some (.slice A3 n3 c3) := X6.out.cell 0
       have hby : Below w6.heap.size w6 (w6.alloc (.cells #[.int .i64 4, .int .i64 2] 3)) := (Below.refl _ _).alloc (Nat.le_refl _) _
       have HB7 := Lib.hid (HB6.out.trans (hby.mono HB6.out.size))
       have I7 := Lib.hid (I6.out.below (hby.mono (Nat.le_of_lt X6.out.lt)))
       have X7 := Lib.hid (X6.out.below hby X6.out.lt)
       have MA := majority_any (some ⟨w6.heap.size, 0, none⟩) 2 2 (w6.heap.size + 1) [4, 2] A3 n3 c3 w2.heap.size [2, 3, 4] (w6.alloc (.cells #[.int .i64 4, .int .i64 2] 3)) I7.out (by have := N3.out; omega) (Nat.le_of_lt X7.out.lt) (HG.out.low HB7.out) (Is.lit rfl rfl) (by omega) (by simp)
       rw [wk_maj.1] at MA
       have MA' := Lib.hid MA
       clear hb6 hby MA EQ')
    | (go_at_call 19
       refine MA'.out.mono ?_
       rintro e w8 ⟨rfl, hb8⟩
       have HB8 := Lib.hid (HB7.out.trans (hb8.mono HB7.out.size))
       have I8 := Lib.hid (I7.out.below (hb8.mono (Nat.le_of_lt X7.out.lt)))
       have X8 := Lib.hid (X7.out.below hb8 X7.out.lt)
       have x8 : w8.cell? ⟨w2.heap.size, 0, none⟩ = some (.slice A3 n3 c3) := X8.out.cell 0
       have hby : Below w8.heap.size w8 (w8.alloc (.cells #[.int .i64 4, .int .i64 4] 3)) := (Below.refl _ _).alloc (Nat.le_refl _) _
       have HB9 := Lib.hid (HB8.out.trans (hby.mono HB8.out.size))
       have I9 := Lib.hid (I8.out.below (hby.mono (Nat.le_of_lt X8.out.lt)))
       have X9 := Lib.hid (X8.out.below hby X8.out.lt)
       have MB := majority_any (some ⟨w8.heap.size, 0, none⟩) 2 2 (w8.heap.size + 1) [4, 4] A3 n3 c3 w2.heap.size [2, 3, 4] (w8.alloc (.cells #[.int .i64 4, .int .i64 4] 3)) I9.out (by have := N3.out; omega) (Nat.le_of_lt X9.out.lt) (HG.out.low HB9.out) (Is.lit rfl rfl) (by omega) (by simp)
       rw [wk_maj.2] at MB
       have MB' := Lib.hid MB
       clear hb8 hby MB MA')
    | (go_at_call 19
       refine MB'.out.mono ?_
       rintro e wa ⟨rfl, hba⟩
       have HBA := Lib.hid (HB9.out.trans (hba.mono HB9.out.size))
       clear hba MB'))
  go_ret
  exact ⟨rfl, HBA.out⟩
end Go.Proofs.YtfclppopelmdgaaDoor
