/-
  What the document's Count and Same, and the program's Equal, answer.
-/
import Derived.Test.YtndkoefchlclkaaWakes
import Derived.Shelf.Bytes.SlEqualAll
namespace Go.Proofs.Ytndkoefchlclkaa
open Go.RowKit


/-- The first k bytes are the same. -/
theorem same_step {xs ys : List Int} {k : Nat} (h : xs.take k = ys.take k) (hx : k < xs.length) (hy : k < ys.length) (he : xs.getD k 0 = ys.getD k 0) : xs.take (k + 1) = ys.take (k + 1) := by
  rw [List.take_succ_eq_append_getElem hx, List.take_succ_eq_append_getElem hy, h]
  simp [List.getD, hx, hy] at he
  rw [he]

set_option maxHeartbeats 400000 in
theorem same_any (A A' : Option Addr) (n c m d : Nat) (xs ys : List Int) (w : World) (B B' : Nat) (h : By w B A n xs) (h' : By w B' A' m ys) (hn : n ≤ 140737488355328) (hm : m ≤ 140737488355328) :
    Calls Try.prog 34 #[.slice A n c, .slice A' m d] w fun e w' => e = .returned (.bool (xs == ys)) ∧ ∃ q, w' = w.drewN q := by
  by_cases hnm : n = m
  · subst hnm
    have hl := Lib.hid h.1
    have hl' := Lib.hid h'.1
    have H := Lib.hid h
    have H' := Lib.hid h'
    clear h h'
    have hne : ((n : Int) != (n : Int)) = false := by simp
    go_enter Try.func34, Try.ntmps34
    go_wp2
    go_loopw [13] (fun i wr => ∃ k : Nat, k ≤ n ∧ i = .int .i64 k ∧ Hid (xs.take k = ys.take k) ∧ ∃ q, wr = w.drewN q) (fun i _ => n - (intOf i).toNat)
    case atStart => exact ⟨0, Nat.zero_le _, rfl, rfl, 0, rfl⟩
    case round =>
      obtain ⟨k, hk, rfl, hs, q, rfl⟩ := hrel
      by_cases hlt : k < n
      · obtain ⟨b, o, rfl, hb, hc⟩ := H.out.2.2 (by omega)
        obtain ⟨b', o', rfl, hb', hc'⟩ := H'.out.2.2 (by omega)
        have c1 := hc k hlt
        have c2 := hc' k hlt
        have k0 : (0 : Int) ≤ k := by omega
        clear hc hc'
        by_cases he : xs.getD k 0 = ys.getD k 0
        · have hst := Lib.hid (same_step hs.out (by rw [hl.out]; exact hlt) (by rw [hl'.out]; exact hlt) he)
          rw [he] at c1
          generalize ys.getD k 0 = z at c1 c2
          clear he
          have hz : (z != z) = false := by simp
          go_wp2
          go_quiet (fail)
          go_wp2
          go_roundw
          case rel => exact ⟨k + 1, by omega, by go_num, hst.out, _, rfl⟩
          case measure => simp [intOf]; omega
        · have hf : (xs == ys) = false := by
            rw [beq_eq_false_iff_ne]
            rintro rfl
            exact he rfl
          have hz : (xs.getD k 0 != ys.getD k 0) = true := by simpa using he
          generalize xs.getD k 0 = z at c1 hz
          generalize ys.getD k 0 = y at c2 hz
          clear he
          go_wp2
          go_quiet (fail)
          go_wp2
          go_ret
          exact ⟨ret_bool hf.symm, _, World.drewN_drewN _ _ _⟩
      · have ht : Hid ((xs == ys) = true) := by
          have := hs.out
          rw [List.take_of_length_le (by rw [hl.out]; omega), List.take_of_length_le (by rw [hl'.out]; omega)] at this
          exact beq_iff_eq.2 this
        go_wp2
        go_ret
        exact ⟨ret_bool ht.out.symm, _, rfl⟩
  · have hf : (xs == ys) = false := by
      rw [beq_eq_false_iff_ne]
      rintro rfl
      exact hnm (h.1.symm.trans h'.1)
    have hne : ((n : Int) != (m : Int)) = true := by simp; omega
    go_enter Try.func34, Try.ntmps34
    go_wp2
    go_ret
    exact ⟨ret_bool hf.symm, 0, rfl⟩

theorem By.bytesIn {w : World} {B : Nat} {A : Option Addr} {n : Nat} {zs : List Int} (h : By w B A n zs) : Lib.BytesIn w A n zs := by
  rcases Nat.eq_zero_or_pos n with h0 | h0
  · subst h0; exact Lib.BytesIn.nil _ _ _
  · obtain ⟨b, o, rfl, _, hc⟩ := h.2.2 h0
    exact Lib.BytesIn.of_cells (fun i hi => by
      have e : (⟨b, o, none⟩ : Addr).add i = ⟨b, o + i, none⟩ := by by_cases h0 : i = 0 <;> simp [Addr.add, h0]
      rw [e]; exact hc i hi)

theorem bytesOf_inj : ∀ {xs ys : List Int}, Bs xs → Bs ys → Lib.bytesOf xs = Lib.bytesOf ys → xs = ys
  | [], [], _, _, _ => rfl
  | [], _ :: _, _, _, h => by simp [Lib.bytesOf] at h
  | _ :: _, [], _, _, h => by simp [Lib.bytesOf] at h
  | x :: xs, y :: ys, hx, hy, h => by
    simp only [Lib.bytesOf, List.map_cons, List.cons.injEq] at h
    have h1 : 0 ≤ x ∧ x ≤ 255 := hx 0
    have h2 : 0 ≤ y ∧ y ≤ 255 := hy 0
    have e := congrArg UInt8.toNat h.1
    simp only [UInt8.toNat_ofNat'] at e
    have exy : x = y := by omega
    rw [exy, bytesOf_inj (fun j => hx (j + 1)) (fun j => hy (j + 1)) h.2]

theorem bequal_any (A A' : Option Addr) (n c m d : Nat) (xs ys : List Int) (w : World) (B B' : Nat) (h : By w B A n xs) (h' : By w B' A' m ys) :
    Calls Try.prog 36 #[.slice A n c, .slice A' m d] w fun e w' => e = .returned (.bool (xs == ys)) ∧ w = w' := by
  have c1 := h.bytesIn.convert (P := Try.prog) h.1 c 44 5 9 Try.underlying44 Try.underlying5 Try.underlying9
  have c2 := h'.bytesIn.convert (P := Try.prog) h'.1 d 44 5 9 Try.underlying44 Try.underlying5 Try.underlying9
  have he : ((strOfNums xs).toList == (strOfNums ys).toList) = (xs == ys) := by
    rw [Lib.strOfNums_toList, Lib.strOfNums_toList, Bool.eq_iff_iff, beq_iff_eq, beq_iff_eq]
    exact ⟨bytesOf_inj h.bs h'.bs, fun e => by rw [e]⟩
  have HE := Lib.hid he
  clear he h h'
  go_enter Try.func36, Try.ntmps36
  go_wp2
  go_ret
  exact ⟨ret_bool HE.out, rfl⟩


end Go.Proofs.Ytndkoefchlclkaa
