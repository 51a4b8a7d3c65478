/-
  The sectors of a queue.
-/
import Derived.Test.YtdhompiapklnaaaArr
namespace Go.Proofs.Ytdhompiapklnaaa
open Go.RowKit
attribute [local go_sem ↓] Try.z39 Try.z86

/-- Block g holds the numbers of the queue's sectors. -/
def Secs (w : World) (g n : Nat) (q : List (Int × List Value)) (j : Nat) : Prop := ∃ cur, Blk w g 3 cur ∧ cur.size = n ∧ ∀ i, i < j → cur[i]? = some (.int .i64 (q.getD i (0, [])).1)

theorem Secs.step {w : World} {g n j : Nat} {q : List (Int × List Value)} (h : Secs w g n q j) (hj : j < n) (o : Obj) : Secs ((w.setCell ⟨g, j, none⟩ (.int .i64 (q.getD j (0, [])).1)).alloc o) g n q (j + 1) := by
  obtain ⟨cur, hb, hs, hc⟩ := h
  refine ⟨_, (hb.set_ j _).alloc o, by simpa using hs, fun i hi => ?_⟩
  rw [Array.getElem?_setIfInBounds]
  by_cases e : j = i
  · subst e
    rw [if_pos rfl, if_pos (by omega)]
  · rw [if_neg e]
    exact hc i (by omega)

theorem Secs.cell {w : World} {g n j : Nat} {q : List (Int × List Value)} (h : Secs w g n q j) (hj : j < n) : ∃ u, w.cell? ⟨g, j, none⟩ = some u ∧ w.frozen? ⟨g, j, none⟩ = false ∧ g < w.heap.size := by
  obtain ⟨cur, hb, hs, _⟩ := h
  exact ⟨cur[j]'(by omega), by rw [hb.cell j]; simp [hs, hj], hb.frozen j, hb.lt⟩

/-- A write of the queue, where it lies. -/
theorem qAt {w wr : World} {base : Nat} {t : TypeId} {A : Option Addr} {n c j : Nat} {q : List (Int × List Value)} (h : Own w base t 65 (.slice A n c) (q.map put1)) (hb : ∀ e ∈ q, B64 e.2) (hj : j < q.length) (hB : Below w.heap.size w wr) :
    ∃ g, A = some ⟨g, 0, none⟩ ∧ wr.rangeAt g (j * 65) (put1 (q.getD j (0, []))) ∧ B64 (q.getD j (0, [])).2 := by
  have h' := h.below hB
  have e : (q.map put1).getD j [] = put1 (q.getD j (0, [])) := by simp [List.getD, hj]
  have e' : q.getD j (0, []) = q[j] := by simp [List.getD, hj]
  rcases h'.form with ⟨_, h0⟩ | ⟨g, c', cur, hv, _⟩
  · rw [List.map_eq_nil_iff] at h0
    subst h0
    simp at hj
  · injection hv with hA
    subst hA
    exact ⟨g, rfl, by rw [← e]; exact h'.range rfl (by simpa using hj), by rw [e']; exact hb _ (List.getElem_mem hj)⟩

set_option maxRecDepth 100000 in
set_option maxHeartbeats 1000000 in
theorem sectors_any (vq : Value) (q : List (Int × List Value)) (w : World) (base : Nat) (h : Own w base 86 65 vq (q.map put1)) (hq : q.length ≤ 1000000) (hb : ∀ e ∈ q, B64 e.2) :
    Calls Try.prog 43 #[vq] w fun e w' => e = .returned (.slice (some ⟨w.heap.size, 0, none⟩) q.length q.length) ∧ Secs w' w.heap.size q.length q q.length ∧ Below w.heap.size w w' := by
  obtain ⟨A, c, hv⟩ := h.val
  rw [List.length_map] at hv
  subst hv
  have hmk := makeInts q.length (by omega)
  have hl : Hid (Own w base 86 65 (.slice A q.length c) (q.map put1)) := h
  have hb' : Hid (∀ e ∈ q, B64 e.2) := hb
  clear h hb
  generalize hn : q.length = n at *
  have hN := Lib.hid hn
  clear hn
  go_enter Try.func43, Try.ntmps43
  go_wp2
  clear hmk
  go_loopw [11] (fun i wr => ∃ j : Nat, j ≤ n ∧ i = .int .i64 j ∧ Secs wr w.heap.size n q j ∧ Below w.heap.size w wr) (fun i _ => n - (intOf i).toNat)
  case atStart =>
    refine ⟨0, Nat.zero_le _, rfl, ⟨_, Blk.new w 3 _, size_madeCells _ _, fun i hi => absurd hi (by omega)⟩, (Below.refl _ _).alloc (Nat.le_refl _) _⟩
  case round =>
    obtain ⟨j, hj, rfl, hS, hB⟩ := hrel
    by_cases hlt : j < n
    · obtain ⟨g, rfl, hr, hbe⟩ := qAt hl.out hb'.out (by rw [hN.out]; exact hlt) hB
      obtain ⟨u3, hc3, hf, hsz⟩ := hS.cell hlt
      have hS' := Lib.hid hS
      generalize hx : q.getD j (0, []) = x at *
      obtain ⟨s, b⟩ := x
      have hX := Lib.hid hx
      have hlen := put1_len hbe
      have hone := Lib.hid (put1_one hbe)
      have hi86 := Lib.hid (show (Try.prog.info? 86).map (·.size) = some (put1 (s, b)).length by rw [hlen]; exact Try.i86)
      have hz := Lib.hid (show (Value.int .i64 0 :: Z0).toArray.size = (put1 (s, b)).length by rw [hlen]; rfl)
      have hR := Lib.hid hr
      clear hx hS hlen hr hbe
      have hp0 : (put1 (s, b))[0]? = some (.int .i64 s) := rfl
      go_wp2_with (first
        | ((with_reducible refine at_load (t := 86) ?_); refine wpList_load_mid rfl 86 _ rfl g (j * 65) rfl (put1 (s, b)) _ hR.out Try.underlying86 rfl hi86.out ?_)
        | ((with_reducible refine at_store (t := 86) ?_); refine wpList_store_new wr rfl 86 _ _ rfl _ _ _ (put1 (s, b)) rfl rfl rfl hz.out hi86.out hone.out ?_))
      go_roundw
      case rel =>
        refine ⟨j + 1, by omega, by go_num, ?_, (hB.setCell (Nat.le_refl _) _).alloc (by simp [World.setCell]; exact hB.size) _⟩
        have := hS'.out.step hlt (.cells (put1 (s, b)).toArray 86)
        rw [hX.out] at this
        exact this
      case measure => simp [intOf]; omega
    · obtain rfl : j = n := by omega
      go_wp2
      go_ret
      exact ⟨rfl, hS, hB⟩

theorem pending_any {w : World} {base p gs : Nat} {S : DSt} (h : Dk w base p gs S) (hq : S.q.length ≤ 1000000) :
    Calls Try.prog 19 #[.pointer (some ⟨p, 0, none⟩)] w fun e w' => e = .returned (.slice (some ⟨w.heap.size, 0, none⟩) S.q.length S.q.length) ∧ Secs w' w.heap.size S.q.length S.q S.q.length ∧ Below w.heap.size w w' := by
  obtain ⟨cs, vq, hb, _, hw⟩ := h.own
  have h0 : w.cell? ⟨p, 1, none⟩ = some vq := hb.cell 1
  have hk : Hid (∀ e ∈ S.q, B64 e.2) := fun e he => (h.ok.q e he).1
  clear h hb
  go_enter Try.func19, Try.ntmps19
  go_wp2_with (go_at_call 43; refine (sectors_any vq S.q _ base hw hq hk.out).mono ?_; rintro e w' ⟨rfl, hs, hB⟩)
  go_ret
  exact ⟨rfl, hs, hB⟩

end Go.Proofs.Ytdhompiapklnaaa

