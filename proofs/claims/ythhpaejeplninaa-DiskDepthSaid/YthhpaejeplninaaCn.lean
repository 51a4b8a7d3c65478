/-
  slices.Contains of a row of numbers, slices.Clone of a row of answers.
-/
import Derived.Test.YthhpaejeplninaaSn
namespace Go.Proofs.Ythhpaejeplninaa
open Go.RowKit

/-- Where a number stands first, from place j on: -1 if nowhere. -/
def In (q : List (Int × List Value)) (n : Nat) (s : Int) : Prop := ∃ k, k < n ∧ (q.getD k (0, [])).1 = s
instance (q : List (Int × List Value)) (n : Nat) (s : Int) : Decidable (In q n s) := by unfold In; infer_instance

set_option maxHeartbeats 1000000 in
theorem index_any (g n : Nat) (q : List (Int × List Value)) (s : Int) (w : World) (h : Secs w g n q n) (hn : n ≤ 1000000) :
    Calls Try.prog 45 #[.slice (some ⟨g, 0, none⟩) n n, .int .i64 s] w fun e w' => ∃ r : Int, e = .returned (.int .i64 r) ∧ w = w' ∧ (0 ≤ r ↔ In q n s) := by
  obtain ⟨cur, hb, hs, hc⟩ := h
  go_enter Try.func45, Try.ntmps45
  go_wp2_with fail
  go_loopw [8] (fun i wr => ∃ j : Nat, j ≤ n ∧ i = .int .i64 j ∧ wr = w ∧ ∀ k, k < j → (q.getD k (0, [])).1 ≠ s) (fun i _ => n - (intOf i).toNat)
  case atStart => exact ⟨0, Nat.zero_le _, rfl, rfl, fun k hk => absurd hk (by omega)⟩
  case round =>
    obtain ⟨j, hj, rfl, rfl, hno⟩ := hrel
    by_cases hlt : j < n
    · have hlt' : (j : Int) < n := by omega
      have hcell : wr.cell? ⟨g, j, none⟩ = some (.int .i64 (q.getD j (0, [])).1) := (hb.cell j).trans (hc j hlt)
      obtain ⟨z, hz⟩ : ∃ z, z = (q.getD j (0, [])).1 := ⟨_, rfl⟩
      rw [← hz] at hcell
      have HZ := Lib.hid hz
      have HNO := Lib.hid hno
      clear hz hno hc hb
      by_cases he : s = z
      · subst he
        go_wp2
        go_ret
        exact ⟨_, rfl, rfl, fun _ => ⟨j, hlt, HZ.out.symm⟩, fun _ => by omega⟩
      · have he' : (s == z) = false := by simpa using he
        go_wp2
        exact ⟨⟨j + 1, by omega, by go_num, trivial, fun k hk => by
          by_cases hkj : k = j
          · subst hkj; rw [← HZ.out]; exact fun e => he e.symm
          · exact HNO.out k (by omega)⟩, by simp [intOf]; omega⟩
    · have hjn : j = n := by omega
      subst hjn
      have HNO := Lib.hid hno
      clear hno hc
      go_wp2
      go_ret
      exact ⟨_, rfl, rfl, fun h => absurd h (by omega), fun ⟨k, hk, e⟩ => absurd e (HNO.out k hk)⟩

theorem contains_any (g n : Nat) (q : List (Int × List Value)) (s : Int) (w : World) (h : Secs w g n q n) (hn : n ≤ 1000000) :
    Calls Try.prog 26 #[.slice (some ⟨g, 0, none⟩) n n, .int .i64 s] w fun e w' => e = .returned (.bool (decide (In q n s))) ∧ w = w' := by
  have HI := Lib.hid (index_any g n q s w h hn)
  go_enter Try.func26, Try.ntmps26
  go_wp2_with fail
  refine HI.out.mono ?_
  rintro e w' ⟨r, rfl, rfl, hr⟩
  have HR := Lib.hid (show decide (0 ≤ r) = decide (In q n s) from decide_eq_decide.2 hr)
  clear hr HI
  go_wp2_with fail
  go_ret
  exact ⟨ret_bool HR.out, rfl⟩

theorem buildN23 (w : World) : (Instr.buildSlice 35 0 #[]).run Try.prog w = .ok (.slice (some ⟨w.heap.size, 0, none⟩) 0 0) (w.alloc (.cells #[] 4)) := by
  simp [go_sem]

set_option maxRecDepth 100000 in
set_option maxHeartbeats 2000000 in
theorem clone23 (A : Option Addr) (c : Nat) (ks : List Bool) (w : World) (h : Bs w w.heap.size A ks) (hl : ks.length ≤ 1000000) : Calls Try.prog 23 #[.slice A ks.length c] w (Keept w ks) := by
  have q : ∀ (w : World) (a : Option Addr) (n c n' c' : Nat), (binOp .eql 35 (.slice a n c) (.slice none n' c')).run Try.prog w = .ok (.bool a.isNone) w := fun w a n c n' c' => Lib.run_eql_slice_nil w _ _ a n c n' c' Try.underlying35
  cases A with
  | none =>
    have h0 : ks = [] := by
      by_cases hp : 0 < ks.length
      · obtain ⟨b, o, hA, _⟩ := h hp; cases hA
      · exact List.eq_nil_of_length_eq_zero (by omega)
    subst h0
    clear h
    go_enter Try.func23, Try.ntmps23
    go_wp2
    go_ret
    exact ⟨_, rfl, World.ownsRow_nil _ _ _ _, Below.refl _ _⟩
  | some ad =>
    obtain ⟨i0, hi, hz0, hz1, hz2⟩ := info_parts Try.info4
    have hbn := buildN23
    have hnews : ∀ j u, (ks.map Value.bool)[j]? = some u → (w.alloc (.cells #[] 4)).cell? (ad.add j) = some u := by
      intro j u hj
      obtain ⟨hj1, hj2⟩ := List.getElem?_eq_some_iff.1 hj
      have hj' : j < ks.length := by simpa using hj1
      obtain ⟨b, o, hA, _, hc⟩ := h (by omega)
      injection hA with hA
      subst hA
      refine Lib.cell?_alloc_some _ ?_
      have e : (⟨b, o, none⟩ : Addr).add j = ⟨b, o + j, none⟩ := by by_cases h0 : j = 0 <;> simp [Addr.add, h0]
      rw [e, hc j hj', ← hj2]
      simp [List.getD, hj']
    have h1c : ∀ u ∈ ks.map Value.bool, u.oneCell' = true := by
      intro u hu
      obtain ⟨z, _, rfl⟩ := List.mem_map.1 hu
      rfl
    have HN := Lib.hid hnews
    have H1 := Lib.hid h1c
    have HL := Lib.hid (show (ks.map Value.bool).length = ks.length * 1 by simp)
    clear h hnews h1c
    obtain ⟨F, hF⟩ : ∃ F, F = ks.map Value.bool := ⟨_, rfl⟩
    rw [← hF] at HN H1 HL
    have HF := Lib.hid hF
    obtain ⟨n, hn⟩ : ∃ n, n = ks.length := ⟨_, rfl⟩
    rw [← hn] at HL hl ⊢
    have HNN := Lib.hid hn
    clear hF hn
    go_enter Try.func23, Try.ntmps23
    go_wp2_with (at_builtin; refine wpList_append_own _ rfl _ _ 35 rfl w.heap.size 4 i0 (.bool false) 1 1 Try.underlying35 hi hz0 hz1 hz2 (by rfl) (by decide) _ _ _ rfl (World.ownsRow_made w #[] 0 (Nat.le_refl _) (Nat.zero_le _) rfl) ad n c F rfl HL.out HN.out H1.out (by unfold maxLen; omega) (by omega) (by simp) ?_; intro v' w1 hown hgrow hnil)
    have hB : Below w.heap.size w w1 := ((Below.refl _ w).alloc (Nat.le_refl _) _).grown hgrow (by simp) (fun k hk => by cases hk; exact Nat.le_refl _)
    have ho : Krow w1 w.heap.size v' ks := by
      unfold Krow
      rw [← HF.out, ← HNN.out]
      simpa using hown
    have HO := Lib.hid ho
    clear hown ho hnil hgrow
    go_wp2
    go_ret
    exact ⟨_, rfl, HO.out, hB⟩

end Go.Proofs.Ythhpaejeplninaa
