/-
  A log in memory of its own, of what came in: own; the layer does something: wakes.
-/
import Derived.Test.YtmgaihdepglahaaK1
namespace Go.Proofs.Ytmgaihdepglahaa
open Go.RowKit

def fewG (bi bt : Int) (es : List En) : Lg := ⟨bi, bt, fewL es⟩

set_option linter.unusedSimpArgs false in
set_option maxRecDepth 100000 in
set_option maxHeartbeats 2000000 in
theorem own_any (bi bt : Int) (A : Option Addr) (n c B : Nat) (xs : List Ec) (w : World) (h : Ein w B A n xs) (hB : B ≤ w.heap.size) :
    Calls Try.prog 11 #[.agg #[.int .u64 bi, .int .u64 bt, .slice A n c]] w (Lgd w (fewG bi bt (xs.map Ec.en))) := by
  have H := Lib.hid h
  have B01 := Lib.hid (show Blk ((w.alloc (.cells #[.int .u64 bi, .int .u64 bt, .slice A n c] 27)).alloc (.cells #[.int .u64 0, .int .u64 0, .slice none 0 0] 27)).drew w.heap.size 27 #[.int .u64 bi, .int .u64 bt, .slice A n c] from ((Blk.new w 27 _).alloc _).drewN 1)
  have B11 := Lib.hid (show Blk ((w.alloc (.cells #[.int .u64 bi, .int .u64 bt, .slice A n c] 27)).alloc (.cells #[.int .u64 0, .int .u64 0, .slice none 0 0] 27)).drew (w.heap.size + 1) 27 #[.int .u64 0, .int .u64 0, .slice none 0 0] from (Blk.fresh (by simp)).drewN 1)
  have HB1 := Lib.hid (show Below w.heap.size w ((w.alloc (.cells #[.int .u64 bi, .int .u64 bt, .slice A n c] 27)).alloc (.cells #[.int .u64 0, .int .u64 0, .slice none 0 0] 27)).drew from (((Below.refl _ _).alloc (Nat.le_refl _) _).alloc (by simp) _).drew)
  have C3 : Hid (∀ W, Blk W w.heap.size 27 #[.int .u64 bi, .int .u64 bt, .slice A n c] → W.cell? ⟨w.heap.size, 0, none⟩ = some (.int .u64 bi) ∧ W.cell? ⟨w.heap.size, 1, none⟩ = some (.int .u64 bt) ∧ W.cell? ⟨w.heap.size, 2, none⟩ = some (.slice A n c)) := fun W hb => ⟨hb.cell 0, hb.cell 1, hb.cell 2⟩
  have hS0 := C3.out _ B01.out
  clear h
  go_enter Try.func11, Try.ntmps11
  go_wp2
  refine wp_region_noPanic ?_
  refine wp_region_held_drew (S := fun w' => w'.cell? ⟨w.heap.size, 0, none⟩ = some (.int .u64 bi) ∧ w'.cell? ⟨w.heap.size, 1, none⟩ = some (.int .u64 bt) ∧ w'.cell? ⟨w.heap.size, 2, none⟩ = some (.slice A n c)) (by kernel_rfl) hS0 (fun hHeld => ?_)
  generalize ((w.alloc (.cells #[.int .u64 bi, .int .u64 bt, .slice A n c] 27)).alloc (.cells #[.int .u64 0, .int .u64 0, .slice none 0 0] 27)).drew = w1 at *
  refine take_d (i := 0) (d := 3) (v := ?c3) rfl rfl (by kernel_rfl) (by kernel_rfl) (by kernel_rfl) (fun _ _ _ h => h) (Or.inl ⟨by kernel_rfl, ?c3h⟩) hHeld ?c3n
  case c3h => (intro w hSw; (try dsimp only at hSw); go_split_ands; go_simp; (try exact rfl))
  try simp only [Act.put, List.setIfInBounds_toArray, List.set_cons_zero, List.set_cons_succ]
  refine take_d (i := 1) (d := 4) (v := ?c4) rfl rfl (by kernel_rfl) (by kernel_rfl) (by kernel_rfl) (fun _ _ _ h => h) (Or.inl ⟨by kernel_rfl, ?c4h⟩) hHeld ?c4n
  case c4h => (intro w hSw; (try dsimp only at hSw); go_split_ands; go_simp; (try exact rfl))
  try simp only [Act.put, List.setIfInBounds_toArray, List.set_cons_zero, List.set_cons_succ]
  refine take_d (i := 2) (d := 5) (v := ?c5) rfl rfl (by kernel_rfl) (by kernel_rfl) (by kernel_rfl) (fun _ _ _ h => h) (Or.inl ⟨by kernel_rfl, ?c5h⟩) hHeld ?c5n
  case c5h => (intro w hSw; (try dsimp only at hSw); go_split_ands; go_simp; (try exact rfl))
  try simp only [Act.put, List.setIfInBounds_toArray, List.set_cons_zero, List.set_cons_succ]
  refine take_d (i := 3) (d := 6) (v := ?c6) rfl rfl (by kernel_rfl) (by kernel_rfl) (by kernel_rfl) (fun _ _ _ h => h) (Or.inl ⟨by kernel_rfl, ?c6h⟩) hHeld ?c6n
  case c6h => (intro w hSw; (try dsimp only at hSw); go_split_ands; go_simp; (try exact rfl))
  try simp only [Act.put, List.setIfInBounds_toArray, List.set_cons_zero, List.set_cons_succ]
  refine wpAnyH_ready (rs := [4]) (by kernel_rfl) (by simp) ?_
  refine AllReadyH.cons rfl (fun K hK => ?_) AllReadyH.nil
  go_simp
  refine (few_any A n c B xs _ (H.out.below (HB1.out.mono hB)) (Nat.le_trans hB HB1.out.size)).mono ?_
  rintro e w2 ⟨A2, c2, rfl, ho2, hb2⟩
  have B02 := Lib.hid (B01.out.below hb2 B01.out.lt)
  have B12 := Lib.hid (B11.out.below hb2 B11.out.lt)
  have HO2 := Lib.hid (ho2.down HB1.out.size)
  have HB2 := Lib.hid (HB1.out.trans (hb2.mono HB1.out.size))
  clear ho2 hb2
  refine hK.out _ _ (C3.out _ B02.out) (fun hHeld => ?_)
  clear hK K
  try simp only [Act.put, List.setIfInBounds_toArray, List.set_cons_zero, List.set_cons_succ]
  refine take_d (i := 5) (d := 8) (v := ?c8) rfl rfl (by kernel_rfl) (by kernel_rfl) (by kernel_rfl) (fun _ _ _ h => h) (Or.inl ⟨by kernel_rfl, ?c8h⟩) hHeld ?c8n
  case c8h => (intro w hSw; (try dsimp only at hSw); go_split_ands; go_simp; (try exact rfl))
  try simp only [Act.put, List.setIfInBounds_toArray, List.set_cons_zero, List.set_cons_succ]
  refine wpAnyH_ready (rs := [6]) (by kernel_rfl) (by simp) ?_
  refine AllReadyH.cons rfl (fun K hK => ?_) AllReadyH.nil
  refine wp_store_blk 27 _ _ rfl (w.heap.size + 1) #[.int .u64 0, .int .u64 0, .slice none 0 0] 27 [.int .u64 bi, .int .u64 bt, .slice A2 (min n 32) c2] rfl rfl B12.out rfl Try.i27 (by simp [Value.oneCell']) ?_
  intro w3 hb3 ho3
  have B13 := Lib.hid hb3
  have B03 := Lib.hid (ho3.keep B02.out (by omega))
  have HB3 := Lib.hid (HB2.out.trans (ho3.below (by omega)))
  have HO3 := Lib.hid (HO2.out.only27 B12.out ho3)
  clear hb3 ho3
  refine hK.out _ _ (C3.out _ B03.out) (fun hHeld => ?_)
  clear hK K
  try simp only [Act.put, List.setIfInBounds_toArray, List.set_cons_zero, List.set_cons_succ]
  refine wpAnyH_done (by kernel_rfl) ?_ _
  refine NoPanic.normal ?_
  go_wp2
  all_goals exact bodyPost_ret (ret27 rfl _ _ _ _ _ _ rfl B13.out) rfl ⟨A2, min n 32, c2, rfl, HO3.out, HB3.out⟩

/-- The three entries of wakes. -/
def wk3 : List En := [⟨1, 1, []⟩, ⟨1, 2, [7]⟩, ⟨2, 1, []⟩]
theorem wk_ext : pExtE lg0 wk3 = 0 ∧ pExtL lg0 wk3 = ⟨0, 0, wk3⟩ ∧ pExtI lg0 wk3 = 3 ∧ pExtT lg0 wk3 = 2 := by decide
theorem wk_meet : meetN ⟨0, 0, wk3⟩ 1 1 (wk3.drop 1) = 2 ∧ meetE ⟨0, 0, wk3⟩ 1 1 (wk3.drop 1) = 0 := by decide
theorem wk_cut : spotE ⟨0, 0, wk3⟩ (subw 2) = 0 ∧ pCutL ⟨0, 0, wk3⟩ (subw 2) = ⟨0, 0, [⟨1, 1, []⟩]⟩ := by decide
theorem wk_has : hasB ⟨0, 0, wk3⟩ 3 2 = true ∧ hasB ⟨0, 0, [⟨1, 1, []⟩]⟩ 3 2 = false := by decide

end Go.Proofs.Ytmgaihdepglahaa
