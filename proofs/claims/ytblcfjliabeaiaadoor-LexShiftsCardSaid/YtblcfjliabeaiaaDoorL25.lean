/-
  Which tokens are the same: the document's Equal and Same, the program's Same.
-/
import Derived.Test.YtblcfjliabeaiaaDoorL17
import Derived.BigQuiet
namespace Go.Proofs.YtblcfjliabeaiaaDoor
open Go.RowKit Go.Shelf
attribute [local go_sem] Oper.semAt_some

instance : DecidableEq Tq := fun ⟨k, t, n, a, o⟩ ⟨k', t', n', a', o'⟩ =>
  if h : k = k' ∧ t = t' ∧ n = n' ∧ a = a' ∧ o = o' then isTrue (by obtain ⟨rfl, rfl, rfl, rfl, rfl⟩ := h; rfl)
  else isFalse (fun e => h (by injection e with e1 e2 e3 e4 e5; exact ⟨e1, e2, e3, e4, e5⟩))
theorem list_eq_of_getD {ts us : List Tq} (hl : ts.length = us.length) (h : ∀ j, j < ts.length → ts.getD j errQ = us.getD j errQ) : ts = us := by
  refine List.ext_getElem hl fun j h1 h2 => ?_
  have := h j h1
  simpa [List.getD, h1, h2] using this

set_option maxRecDepth 100000 in
set_option maxHeartbeats 4000000 in
theorem requal_any (A A' : Option Addr) (n n' c c' B : Nat) (ts us : List Tq) (w : World) (h : Trd w B A n ts) (h' : Trd w B A' n' us) (hn : n ≤ 1000000) (hn' : n' ≤ 1000000) (hB : B ≤ w.heap.size) :
    Calls Tryd.prog 14 #[.slice A n c, .slice A' n' c'] w fun e w' => e = .returned (.bool (decide (ts = us))) ∧ Below w.heap.size w w' := by
  by_cases hlen : n = n'
  · subst hlen
    have Y : Hid ((∀ j, j < n → ts.getD j errQ = us.getD j errQ) → decide (ts = us) = true) := Lib.hid (fun ha => decide_eq_true (list_eq_of_getD (h.len.trans h'.len.symm) (fun j hj => ha j (by rw [← h.len]; exact hj))))
    have N : Hid (∀ j, j < n → ¬ ts.getD j errQ = us.getD j errQ → decide (ts = us) = false) := Lib.hid (fun j hj ha => decide_eq_false (fun e => ha (by rw [e])))
    have H := Lib.hid h
    have H' := Lib.hid h'
    generalize decide (ts = us) = R at *
    clear h h'
    go_enter Tryd.func14, Tryd.ntmps14
    go_upto_region 4 with fail
    go_loopw [13] (fun iv wr => ∃ i : Nat, i ≤ n ∧ iv = .int .i64 (i : Int) ∧ Hid (∀ j, j < i → ts.getD j errQ = us.getD j errQ) ∧ Hid (Below w.heap.size w wr)) (fun iv _ => n - (intOf iv).toNat)
    case atStart => exact ⟨0, Nat.zero_le _, rfl, Lib.hid (fun j hj => absurd hj (by omega)), Lib.hid (Below.refl _ _)⟩
    case round =>
      obtain ⟨i, hi, rfl, HA, HB⟩ := hrel
      by_cases hlt : i < n
      · have i0 : (0 : Int) ≤ (i : Int) := by omega
        have i1 : (i : Int) < (n : Int) := by omega
        obtain ⟨b, o, rfl, hbB, x0, x1, x2, x3, x4⟩ := (H.out.below (HB.out.mono hB)).at_ hlt
        obtain ⟨b', o', rfl, hbB', y0, y1, y2, y3, y4⟩ := (H'.out.below (HB.out.mono hB)).at_ hlt
        have N1 := Lib.hid (N.out i hlt)
        have HA1 : Hid (ts.getD i errQ = us.getD i errQ → ∀ j, j < i + 1 → ts.getD j errQ = us.getD j errQ) := Lib.hid (fun e j hj => by
          by_cases hji : j = i
          · subst hji; exact e
          · exact HA.out j (by omega))
        generalize ts.getD i errQ = t at *
        generalize us.getD i errQ = u at *
        by_cases he : t = u
        · subst he
          have HA2 := Lib.hid (HA1.out rfl)
          clear N1 HA1
          obtain ⟨kind, text, num, aa, to_⟩ := t
          simp only at x0 x1 x2 x3 x4 y0 y1 y2 y3 y4
          go_upto_region 6 with fail
          go_quiet (fail)
          go_wp2_with fail
          go_roundw
          case rel => exact ⟨i + 1, by omega, by go_num, HA2, Lib.hid ⟨HB.out.os, HB.out.tape, HB.out.output, HB.out.size, HB.out.block⟩⟩
          case measure => simp [intOf]; omega
        · have hR := Lib.hid (N1.out he)
          clear N1 HA1 HA
          obtain ⟨kind, text, num, aa, to_⟩ := t
          obtain ⟨kind', text', num', aa', to'⟩ := u
          simp only at x0 x1 x2 x3 x4 y0 y1 y2 y3 y4
          by_cases h1 : kind = kind'
          · subst h1
            by_cases h2 : text = text'
            · subst h2
              by_cases h3 : num = num'
              · subst h3
                by_cases h4 : aa = aa'
                · subst h4
                  have h5 : ¬ (to_ : Int) = (to' : Int) := fun e => he (by rw [show to_ = to' by omega])
                  have f5 : ((to_ : Int) == (to' : Int)) = false := beq_eq_false_iff_ne.2 h5
                  clear he
                  go_upto_region 6 with fail
                  go_quiet (fail)
                  go_wp2_with fail
                  go_ret
                  exact ⟨by rw [hR.out]; rfl, ⟨HB.out.os, HB.out.tape, HB.out.output, HB.out.size, HB.out.block⟩⟩
                · have h5 : ¬ (aa : Int) = (aa' : Int) := fun e => h4 (by omega)
                  have f5 : ((aa : Int) == (aa' : Int)) = false := beq_eq_false_iff_ne.2 h5
                  clear he h4
                  go_upto_region 6 with fail
                  go_quiet (fail)
                  go_wp2_with fail
                  go_ret
                  exact ⟨by rw [hR.out]; rfl, ⟨HB.out.os, HB.out.tape, HB.out.output, HB.out.size, HB.out.block⟩⟩
              · have f5 : (num == num') = false := beq_eq_false_iff_ne.2 h3
                clear he
                go_upto_region 6 with fail
                go_quiet (fail)
                go_wp2_with fail
                go_ret
                exact ⟨by rw [hR.out]; rfl, ⟨HB.out.os, HB.out.tape, HB.out.output, HB.out.size, HB.out.block⟩⟩
            · have f5 : (text == text') = false := beq_eq_false_iff_ne.2 h2
              have f6 : ((⟨text.toArray⟩ : ByteArray) == ⟨text'.toArray⟩) = false := by rw [ba_beq]; exact f5
              clear he
              go_upto_region 6 with fail
              go_quiet (fail)
              go_wp2_with fail
              go_ret
              exact ⟨by rw [hR.out]; rfl, ⟨HB.out.os, HB.out.tape, HB.out.output, HB.out.size, HB.out.block⟩⟩
          · have f5 : (kind == kind') = false := beq_eq_false_iff_ne.2 h1
            clear he
            go_upto_region 6 with fail
            go_quiet (fail)
            go_wp2_with fail
            go_ret
            exact ⟨by rw [hR.out]; rfl, ⟨HB.out.os, HB.out.tape, HB.out.output, HB.out.size, HB.out.block⟩⟩
      · obtain rfl : i = n := by omega
        have hR := Lib.hid (Y.out HA.out)
        go_wp2_with fail
        go_ret
        exact ⟨by rw [hR.out]; rfl, HB.out⟩
  · have d : decide (ts = us) = false := decide_eq_false (fun e => hlen (by rw [← h.len, ← h'.len, e]))
    rw [d]
    have e : ((n : Int) != (n' : Int)) = true := by simp; omega
    have e2 : ¬ (n : Int) = (n' : Int) := by omega
    clear h h' d
    go_enter Tryd.func14, Tryd.ntmps14
    go_wp2
    go_ret
    exact ⟨rfl, Below.refl _ _⟩
end Go.Proofs.YtblcfjliabeaiaaDoor
