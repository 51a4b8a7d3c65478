/-
  The document's Reads.
-/
import Derived.Test.YtdhompiapklnaaaE2
namespace Go.Proofs.Ytdhompiapklnaaa
open Go.RowKit
attribute [local go_sem ↓] Try.z39 Try.z86 Try.z75 Try.z32

theorem has_at {S : DSt} (ok : S.ok) {k : Nat} (hk : k < S.has.length) : B64 (S.has.getD k []) := by
  have e : S.has.getD k [] = S.has[k] := by simp [List.getD, hk]
  rw [e]
  exact ok.has _ (List.getElem_mem hk)
theorem Own.someRange {w wr : World} {t : TypeId} {k : Nat} {A : Option Addr} {n c : Nat} {l : List (List Value)} (h : Own w 0 t k (.slice A n c) l) (hB : Below w.heap.size w wr) {i : Nat} (hi : i < l.length) : ∃ g, A = some ⟨g, 0, none⟩ ∧ wr.rangeAt g (i * k) (l.getD i []) := by
  rcases h.form with ⟨_, rfl⟩ | ⟨g, c', cur, hv, _, hb, _⟩
  · simp at hi
  · injection hv with hv
    subst hv
    refine ⟨g, rfl, fun j v hj => ?_⟩
    exact (hB.cell (p := ⟨g, i * k + j, none⟩) hb.lt).trans (h.range (g := g) rfl hi j v hj)

set_option maxRecDepth 100000 in
set_option maxHeartbeats 1500000 in
theorem refreads_any (Ah : Option Addr) (ch : Nat) (Aq : Option Addr) (cq : Nat) (S : DSt) (ok : S.ok) (hq : S.q.length ≤ 1000000) (ar dm : Int) (dd : Bool) (ops : Int) (k : Nat) (hk : k < S.has.length) (w : World)
    (oh : Own w 0 39 64 (.slice Ah S.has.length ch) S.has) (oq : Own w 0 75 65 (.slice Aq S.q.length cq) (S.q.map put1)) :
    Calls Try.prog 40 #[.agg (rrow Ah S.has.length ch Aq S.q.length cq ar dm dd ops).toArray, .int .i64 (k : Int)] w fun e w' => e = .returned (.agg (readAs S k).toArray) ∧ Below w.heap.size w w' := by
  have b0 : Blk ((w.alloc (.cells (rrow Ah S.has.length ch Aq S.q.length cq ar dm dd ops).toArray 32)).alloc (.cells Z0.toArray 39)) w.heap.size 32 (rrow Ah S.has.length ch Aq S.q.length cq ar dm dd ops).toArray := (Blk.new w 32 _).alloc _
  have b1 : Blk ((w.alloc (.cells (rrow Ah S.has.length ch Aq S.q.length cq ar dm dd ops).toArray 32)).alloc (.cells Z0.toArray 39)) (w.heap.size + 1) 39 Z0.toArray := Blk.new' _ 39 _ (by simp)
  have hB : Below w.heap.size w ((w.alloc (.cells (rrow Ah S.has.length ch Aq S.q.length cq ar dm dd ops).toArray 32)).alloc (.cells Z0.toArray 39)) := ((Below.refl _ w).alloc (Nat.le_refl _) _).alloc (by simp) _
  have c0 : ((w.alloc (.cells (rrow Ah S.has.length ch Aq S.q.length cq ar dm dd ops).toArray 32)).alloc (.cells Z0.toArray 39)).cell? ⟨w.heap.size, 0, none⟩ = some (.slice Ah S.has.length ch) := b0.cell 0
  have c1 : ((w.alloc (.cells (rrow Ah S.has.length ch Aq S.q.length cq ar dm dd ops).toArray 32)).alloc (.cells Z0.toArray 39)).cell? ⟨w.heap.size, 1, none⟩ = some (.slice Aq S.q.length cq) := b0.cell 1
  go_enter Try.func40, Try.ntmps40
  go_upto_region 1 with (fail)
  generalize (w.alloc (.cells (rrow Ah S.has.length ch Aq S.q.length cq ar dm dd ops).toArray 32)).alloc (.cells Z0.toArray 39) = W0 at *
  have HY := Lib.hid b1
  have HB := Lib.hid hB
  have HQ := Lib.hid oq
  have HH := Lib.hid oh
  have OK := Lib.hid ok
  clear b0 b1 hB oq oh ok
  have kI0 : (0 : Int) ≤ (k : Nat) := by omega
  have kI1 : (k : Int) < (S.has.length : Int) := by omega
  have fin : Hid (∀ (b : List Value) (w9 : World), b = readAs S k → Only (w.heap.size + 1) W0 w9 → (Ending.returned (Value.agg b.toArray) = .returned (.agg (readAs S k).toArray)) ∧ Below w.heap.size w w9) := fun b w9 hb ho => ⟨by rw [hb], HB.out.trans (ho.below (by omega))⟩
  go_wp2_with fail
  go_loop [5] (fun t => ∃ (j : Nat) (v : Int), j ≤ S.q.length ∧ v = (j : Int) - 1 ∧ t = .int .i64 v ∧ readAs S k = readN S k j) (fun t => (intOf t + 1).toNat)
  case atStart => exact ⟨S.q.length, _, Nat.le_refl _, rfl, rfl, rfl⟩
  case round =>
    obtain ⟨j, v, hj, hv, rfl, hr⟩ := hrel
    have HR := Lib.hid hr
    have HV := Lib.hid hv
    have v1 : v ≤ (j : Int) - 1 := by omega
    have v2 : (j : Int) - 1 ≤ v := by omega
    clear hr hv
    rcases j with _ | m
    · have vn : v < 0 := by omega
      obtain ⟨g, hA, hrg⟩ := HH.out.someRange HB.out hk
      have hb := has_at OK.out hk
      have RE : Hid (S.has.getD k [] = readAs S k) := show _ = _ by rw [HR.out]; simp [readN]
      have hA0 := Lib.hid hA
      subst hA
      have RG := Lib.hid hrg
      have i39 : Hid ((Try.prog.info? 39).map (·.size) = some (S.has.getD k []).length) := show _ = _ by rw [hb.1]; exact Try.i39
      have i39A : Hid ((Try.prog.info? 39).map (·.size) = some (S.has.getD k []).toArray.size) := show _ = _ by rw [List.size_toArray, hb.1]; exact Try.i39
      have z39 : Hid (Z0.toArray.size = (S.has.getD k []).length) := show _ = _ by rw [hb.1]; rfl
      have o39 := Lib.hid hb.one
      clear hb hrg
      generalize S.has.getD k [] = b at *
      go_wp2_with (first
        | ((with_reducible refine at_load (t := 39) ?_); refine wpList_load_mid rfl 39 _ rfl g (k * 64) rfl b _ RG.out Try.underlying39 rfl i39.out ?_)
        | ((with_reducible refine at_store (t := 39) ?_); refine wpList_store_blk _ rfl 39 _ _ rfl (w.heap.size + 1) Z0.toArray 39 b rfl rfl HY.out z39.out i39.out o39.out ?_; intro w9 hb9 ho9))
      refine bodyPost_ret (results_cell_row (p := 4) (ty := 39) rfl _ _ (w.heap.size + 1) 39 _ (0, 0) _ rfl hb9 Try.underlying39 rfl i39A.out) rfl ?_
      exact fin.out b w9 RE.out ho9
    · have vn : 0 ≤ v := by omega
      have vl : v < (S.q.length : Int) := by omega
      have et : v.toNat = m := by omega
      obtain ⟨g, hA, hrg⟩ := HQ.out.someRange HB.out (i := m) (by rw [List.length_map]; omega)
      have hbe := (OK.out.at_ (show m < S.q.length by omega)).1
      have eq1 : (S.q.map put1).getD m [] = put1 (S.q.getD m (0, [])) := by simp [List.getD, show m < S.q.length by omega]
      rw [eq1] at hrg
      have RN : Hid (readN S k (m + 1) = if (S.q.getD m (0, [])).1 = (k : Int) then (S.q.getD m (0, [])).2 else readN S k m) := show _ = _ from rfl
      have hc : W0.cell? ⟨g, m * 65, none⟩ = some (.int .i64 (S.q.getD m (0, [])).1) := hrg 0 _ rfl
      have rg1 : W0.rangeAt g (m * 65 + 1) (S.q.getD m (0, [])).2 := fun j u hj => by
        have := hrg (j + 1) u (by simpa [put1] using hj)
        rwa [show m * 65 + (j + 1) = m * 65 + 1 + j by omega] at this
      have hA0 := Lib.hid hA
      subst hA
      have RG := Lib.hid rg1
      clear hrg rg1 eq1
      generalize S.q.getD m (0, []) = x at *
      obtain ⟨to, b⟩ := x
      dsimp only at hc hbe
      by_cases ht : to = (k : Int)
      · have tb : (to == (k : Int)) = true := beq_iff_eq.2 ht
        have RE : Hid (b = readAs S k) := show _ = _ by rw [HR.out, RN.out]; exact (if_pos ht).symm
        have i39 : Hid ((Try.prog.info? 39).map (·.size) = some b.length) := show _ = _ by rw [hbe.1]; exact Try.i39
        have i39A : Hid ((Try.prog.info? 39).map (·.size) = some b.toArray.size) := show _ = _ by rw [List.size_toArray, hbe.1]; exact Try.i39
        have z39 : Hid (Z0.toArray.size = b.length) := show _ = _ by rw [hbe.1]; rfl
        have o39 := Lib.hid hbe.one
        clear hbe ht
        go_wp2_with (first
          | ((with_reducible refine at_load (t := 39) ?_); refine wpList_load_mid rfl 39 _ rfl g (m * 65 + 1) rfl b _ RG.out Try.underlying39 rfl i39.out ?_)
          | ((with_reducible refine at_store (t := 39) ?_); refine wpList_store_blk _ rfl 39 _ _ rfl (w.heap.size + 1) Z0.toArray 39 b rfl rfl HY.out z39.out i39.out o39.out ?_; intro w9 hb9 ho9))
        refine bodyPost_ret (results_cell_row (p := 4) (ty := 39) rfl _ _ (w.heap.size + 1) 39 _ (0, 0) _ rfl hb9 Try.underlying39 rfl i39A.out) rfl ?_
        exact fin.out b w9 RE.out ho9
      · have tb : (to == (k : Int)) = false := beq_eq_false_iff_ne.2 ht
        have RM : Hid (readAs S k = readN S k m) := show _ = _ by rw [HR.out, RN.out]; exact if_neg ht
        clear ht
        go_wp2_with fail
        go_round
        case rel => exact ⟨m, v - 1, by omega, by have := HV.out; omega, rfl, RM.out⟩
        case measure => simp [intOf]; omega

end Go.Proofs.Ytdhompiapklnaaa
