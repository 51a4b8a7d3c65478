/-
  Which tokens are the same: the document's Same.
-/
import Derived.Test.YtblcfjliabeaiaaDoorL25
namespace Go.Proofs.YtblcfjliabeaiaaDoor
open Go.RowKit Go.Shelf
attribute [local go_sem] Oper.semAt_some

def coreT (t : Tq) : Int × List UInt8 × Int := (t.kind, t.text, t.num)
/-- Are these the same tokens, but for their places? -/
def samR (ts us : List Tq) : Bool := decide (ts.map coreT = us.map coreT)
theorem samR_yes {ts us : List Tq} (hl : ts.length = us.length) (h : ∀ j, j < ts.length → coreT (ts.getD j errQ) = coreT (us.getD j errQ)) : samR ts us = true := by
  refine decide_eq_true (List.ext_getElem (by simpa using hl) fun j h1 h2 => ?_)
  rw [List.length_map] at h1 h2
  have := h j h1
  simpa [List.getD, h1, h2] using this
theorem samR_no {ts us : List Tq} {j : Nat} (hl : ts.length = us.length) (hj : j < ts.length) (h : ¬ coreT (ts.getD j errQ) = coreT (us.getD j errQ)) : samR ts us = false := by
  refine decide_eq_false fun e => h ?_
  have := congrArg (fun x => x[j]?) e
  have hj' : j < us.length := by omega
  simpa [List.getD, hj, hj'] using this
theorem samR_len {ts us : List Tq} (hl : ¬ ts.length = us.length) : samR ts us = false := by
  refine decide_eq_false fun e => hl ?_
  have := congrArg List.length e
  simpa using this

set_option maxRecDepth 100000 in
set_option maxHeartbeats 8000000 in
theorem rsame_any (A A' : Option Addr) (n n' c c' B : Nat) (ts us : List Tq) (w : World) (h : Trd w B A n ts) (h' : Trd w B A' n' us) (hn : n ≤ 1000000) (hn' : n' ≤ 1000000) (hB : B ≤ w.heap.size) :
    Calls Tryd.prog 13 #[.slice A n c, .slice A' n' c'] w fun e w' => e = .returned (.bool (samR ts us)) ∧ Below w.heap.size w w' := by
  by_cases hlen : n = n'
  · subst hlen
    have Y : Hid ((∀ j, j < n → coreT (ts.getD j errQ) = coreT (us.getD j errQ)) → samR ts us = true) := Lib.hid (fun ha => samR_yes (h.len.trans h'.len.symm) (fun j hj => ha j (by rw [← h.len]; exact hj)))
    have N : Hid (∀ j, j < n → ¬ coreT (ts.getD j errQ) = coreT (us.getD j errQ) → samR ts us = false) := Lib.hid (fun j hj ha => samR_no (h.len.trans h'.len.symm) (by rw [h.len]; exact hj) ha)
    have H := Lib.hid h
    have H' := Lib.hid h'
    generalize samR ts us = R at *
    clear h h'
    go_enter Tryd.func13, Tryd.ntmps13
    go_upto_region 4 with fail
    go_loopw [13] (fun iv wr => ∃ i : Nat, i ≤ n ∧ iv = .int .i64 (i : Int) ∧ Hid (∀ j, j < i → coreT (ts.getD j errQ) = coreT (us.getD j errQ)) ∧ Hid (Below w.heap.size w wr)) (fun iv _ => n - (intOf iv).toNat)
    case atStart => exact ⟨0, Nat.zero_le _, rfl, Lib.hid (fun j hj => absurd hj (by omega)), Lib.hid (Below.refl _ _)⟩
    case round =>
      obtain ⟨i, hi, rfl, HA, HB⟩ := hrel
      by_cases hlt : i < n
      · have i0 : (0 : Int) ≤ (i : Int) := by omega
        have i1 : (i : Int) < (n : Int) := by omega
        obtain ⟨b, o, rfl, hbB, x0, x1, x2, x3, x4⟩ := (H.out.below (HB.out.mono hB)).at_ hlt
        obtain ⟨b', o', rfl, hbB', y0, y1, y2, y3, y4⟩ := (H'.out.below (HB.out.mono hB)).at_ hlt
        have N1 := Lib.hid (N.out i hlt)
        have HA1 : Hid (coreT (ts.getD i errQ) = coreT (us.getD i errQ) → ∀ j, j < i + 1 → coreT (ts.getD j errQ) = coreT (us.getD j errQ)) := Lib.hid (fun e j hj => by
          by_cases hji : j = i
          · subst hji; exact e
          · exact HA.out j (by omega))
        generalize ts.getD i errQ = t at *
        generalize us.getD i errQ = u at *
        obtain ⟨kind, text, num, aa, to_⟩ := t
        obtain ⟨kind', text', num', aa', to'⟩ := u
        simp only at x0 x1 x2 x3 x4 y0 y1 y2 y3 y4
        by_cases h1 : kind = kind'
        · subst h1
          by_cases h2 : text = text'
          · subst h2
            by_cases h3 : num = num'
            · subst h3
              have HA2 := Lib.hid (HA1.out rfl)
              clear N1 HA1
              go_upto_region 6 with fail
              go_quiet (fail)
              go_wp2_with fail
              go_roundw
              case rel => exact ⟨i + 1, by omega, by go_num, HA2, Lib.hid ⟨HB.out.os, HB.out.tape, HB.out.output, HB.out.size, HB.out.block⟩⟩
              case measure => simp [intOf]; omega
            · have hR := Lib.hid (N1.out (fun e => h3 (congrArg (fun x => x.2.2) e)))
              have f5 : (num == num') = false := beq_eq_false_iff_ne.2 h3
              have f7 : (num != num') = true := by simpa using h3
              clear N1 HA1
              go_upto_region 6 with fail
              go_quiet (fail)
              go_wp2_with fail
              go_ret
              exact ⟨by rw [hR.out]; rfl, ⟨HB.out.os, HB.out.tape, HB.out.output, HB.out.size, HB.out.block⟩⟩
          · have hR := Lib.hid (N1.out (fun e => h2 (congrArg (fun x => x.2.1) e)))
            have f5 : (text == text') = false := beq_eq_false_iff_ne.2 h2
            have f6 : ((⟨text.toArray⟩ : ByteArray) == ⟨text'.toArray⟩) = false := by rw [ba_beq]; exact f5
            have f7 : ((⟨text.toArray⟩ : ByteArray) != ⟨text'.toArray⟩) = true := by unfold bne; rw [f6]; rfl
            clear N1 HA1
            go_upto_region 6 with fail
            go_quiet (fail)
            go_wp2_with fail
            go_ret
            exact ⟨by rw [hR.out]; rfl, ⟨HB.out.os, HB.out.tape, HB.out.output, HB.out.size, HB.out.block⟩⟩
        · have hR := Lib.hid (N1.out (fun e => h1 (congrArg (fun x => x.1) e)))
          have f5 : (kind == kind') = false := beq_eq_false_iff_ne.2 h1
          have f7 : (kind != kind') = true := by simpa using h1
          clear N1 HA1
          go_upto_region 6 with fail
          go_quiet (fail)
          go_wp2_with fail
          go_ret
          exact ⟨by rw [hR.out]; rfl, ⟨HB.out.os, HB.out.tape, HB.out.output, HB.out.size, HB.out.block⟩⟩
      · obtain rfl : i = n := by omega
        have hR := Lib.hid (Y.out HA.out)
        go_wp2_with fail
        go_ret
        exact ⟨by rw [hR.out]; rfl, HB.out⟩
  · have d : samR ts us = false := samR_len (fun e => hlen (by rw [← h.len, ← h'.len, e]))
    rw [d]
    have e : ((n : Int) != (n' : Int)) = true := by simp; omega
    have e2 : ¬ (n : Int) = (n' : Int) := by omega
    clear h h' d
    go_enter Tryd.func13, Tryd.ntmps13
    go_wp2
    go_ret
    exact ⟨rfl, Below.refl _ _⟩

end Go.Proofs.YtblcfjliabeaiaaDoor
