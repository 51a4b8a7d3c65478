/-
  New.
-/
import Derived.Test.YtdhompiapklnaaaD3
import Derived.Deep.RegionHeld3
import Derived.Deep.DrawnRows
namespace Go.Proofs.Ytdhompiapklnaaa
open Go.RowKit
attribute [local go_sem ↓] Try.z39 Try.z86 Go.wp_at_zero Go.wp_at_succ

theorem noCounts_new (w : World) : Calls Try.prog 34 #[] w fun e w' => e = .returned (.agg #[.int .i64 (-1), .int .i64 (-1)]) ∧ w' = w.alloc (.cells #[.int .i64 (-1), .int .i64 (-1)] 68) := by
  go_enter Try.func34, Try.ntmps34
  go_wp2
  exact bodyPost_ret (v := .agg #[.int .i64 (-1), .int .i64 (-1)]) (by simp [results, Try.results34, go_sem]) rfl ⟨rfl, rfl⟩

theorem madeZ : ∀ n : Nat, (madeCells Z0.toArray (n * 64)).toList = (List.replicate n Z0).flatten := by
  intro n
  apply List.ext_getElem?
  intro j
  have hp : Parts 64 (List.replicate n Z0) := fun b hb => by rw [(List.mem_replicate.1 hb).2]; rfl
  by_cases hj : j < n * 64
  · have e := hp.get (j / 64) (j % 64) (by rw [List.length_replicate]; omega) (by omega)
    have hm : j / 64 * 64 + j % 64 = j := by omega
    rw [hm] at e
    rw [e]
    have e2 : (List.replicate n Z0).getD (j / 64) [] = Z0 := by
      have : j / 64 < n := by omega
      simp [List.getD, this]
    rw [e2, Array.getElem?_toList]
    have h64 : j % 64 < 64 := by omega
    have hz : Z0[j % 64]? = some (.int .u8 0) := by rw [Z0, List.getElem?_replicate, if_pos h64]
    have hs : Z0.toArray.size = 64 := rfl
    have hr : (Array.range (n * 64))[j]? = some j := by simp [hj]
    rw [hz, madeCells, Array.getElem?_map, hr, hs]
    simp only [Option.map_some, Option.some.injEq]
    rw [Array.getElem!_eq_getD, Array.getD_eq_getD_getElem?, List.getElem?_toArray, hz]
    rfl
  · have h1 : (madeCells Z0.toArray (n * 64)).toList.length = n * 64 := by rw [Array.length_toList, size_madeCells]
    rw [List.getElem?_eq_none (by omega), List.getElem?_eq_none (by rw [hp.len, List.length_replicate]; omega)]

theorem makeBlocks (n : Nat) (hn : n ≤ 1000000) (W : World) : (Instr.makeSlice 29 (.int .i64 (n : Int)) (.int .i64 (n : Int))).run Try.prog W = .ok (.slice (some ⟨W.heap.size, 0, none⟩) n n) (W.alloc (.cells (madeCells Z0.toArray (n * 64)) 39)) := by
  obtain ⟨i0, hi, hz0, hz1, hz2⟩ := info_parts (show (Try.prog.info? 39).map (fun i => (i.zero, i.size, i.bytes)) = some (some (.agg Z0.toArray), 64, 64) by kernel_rfl)
  have h := run_make (P := Try.prog) W 29 39 i0 (.agg Z0.toArray) Try.underlying29 hi hz0 .i64 .i64 n n (by omega) (by omega) (by rw [hz2]; omega) (by omega)
  simpa [hz1, Value.cells] using h

theorem Blk.new' (w : World) (t : TypeId) (cs : Array Value) {n : Nat} (hn : n = w.heap.size) : Blk (w.alloc (.cells cs t)) n t cs := by subst hn; exact Blk.new w t cs

def Newed (w : World) (n : Nat) (e : Ending) (w' : World) : Prop := ∃ p gs, e = .returned (.tuple #[.pointer (some ⟨p, 0, none⟩), .int .i64 0]) ∧ Dk w' w.heap.size p gs (made n) ∧ Below w.heap.size w w'

theorem Newed.mk {w W : World} {n p gs : Nat} (hn : n ≤ 2048) (hg : Blk W gs 39 (madeCells Z0.toArray (n * 64))) (hp : Blk W p 73 #[.slice (some ⟨gs, 0, none⟩) n n, .slice none 0 0, .int .i64 (-1), .int .i64 (-1), .bool false, .int .i64 0]) (h1 : w.heap.size ≤ gs) (h2 : w.heap.size ≤ p) (hB : Below w.heap.size w W) :
    Newed w n (.returned (.tuple #[.pointer (some ⟨p, 0, none⟩), .int .i64 0])) W := by
  have hl : (made n).has.length = n := List.length_replicate
  refine ⟨p, gs, rfl, ⟨⟨n, .slice none 0 0, by rw [hl]; exact hp, ?_, Own.nil _ _ _ _⟩, h2, made_ok n⟩, hB⟩
  have hp' : Parts 64 (made n).has := (made_ok n).parts
  refine ⟨⟨by rw [hp'.len], .inr ⟨gs, n, _, by rw [hl], h1, hg, by rw [hl]; exact Nat.le_refl _, by unfold maxLen; omega, size_madeCells _ _, ?_⟩⟩, hp'⟩
  rw [hl, madeZ, List.take_of_length_le (Nat.le_of_eq (by have := hp'.len; rw [hl] at this; exact this))]
  rfl

set_option maxRecDepth 100000 in
set_option maxHeartbeats 1000000 in
theorem new_any (n : Nat) (w : World) (h1 : 1 ≤ n) (h2 : n ≤ 2048) : Calls Try.prog 10 #[.int .i64 (n : Int)] w (Newed w n) := by
  have hmk := makeBlocks n (by omega)
  have e1 : ¬ ((n : Int) < 1) := by omega
  have e2 : ¬ ((n : Int) > 2048) := by omega
  go_enter Try.func10, Try.ntmps10
  go_wp2_with fail
  go_region_with (go_at_call 34; refine (noCounts_new _).mono ?_; rintro e w' ⟨rfl, rfl⟩)
  all_goals go_wp2
  all_goals go_ret2
  · exact Newed.mk (p := w.heap.size + 1 + 1) (gs := w.heap.size) h2 (((Blk.new w 39 _).alloc _).alloc _) (Blk.new' _ _ _ (by simp)) (Nat.le_refl _) (by omega) ((((Below.refl _ w).alloc (Nat.le_refl _) _).alloc (by simp) _).alloc (by simp; omega) _).drew
  · exact Newed.mk (p := w.heap.size + 1 + 1) (gs := w.heap.size + 1) h2 ((Blk.new' (w.alloc _) 39 _ (by simp)).alloc _) (Blk.new' _ _ _ (by simp)) (by omega) (by omega) ((((Below.refl _ w).alloc (Nat.le_refl _) _).alloc (by simp) _).alloc (by simp; omega) _).drew

theorem new_no (n : Int) (w : World) (h : n < 1 ∨ 2048 < n) : Calls Try.prog 10 #[.int .i64 n] w fun e w' => e = .returned (.tuple #[.pointer none, .int .i64 2]) ∧ w = w' := by
  rcases h with h | h
  · go_enter Try.func10, Try.ntmps10
    go_wp2
    go_ret2
    exact ⟨rfl, rfl⟩
  · have h' : ¬ n < 1 := by omega
    go_enter Try.func10, Try.ntmps10
    go_wp2
    go_ret2
    exact ⟨rfl, rfl⟩

end Go.Proofs.Ytdhompiapklnaaa
