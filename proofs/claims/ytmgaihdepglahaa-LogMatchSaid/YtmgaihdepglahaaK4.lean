/-
  Whether entries, logs are the same: the program's Same, the document's.
-/
import Derived.Test.YtmgaihdepglahaaK3
namespace Go.Proofs.Ytmgaihdepglahaa
open Go.RowKit
attribute [local go_sem ↓] eqA neA eqGA

theorem en_eq (x y : Ec) : decide (x.en = y.en) = ((x.t == y.t) && ((x.k == y.k) && (x.d == y.d))) := by
  obtain ⟨a, b, c, d, e, f⟩ := x
  obtain ⟨a', b', c', d', e', f'⟩ := y
  show decide ((⟨a, b, f⟩ : En) = ⟨a', b', f'⟩) = ((a == a') && ((b == b') && (f == f')))
  by_cases h1 : a = a'
  · by_cases h2 : b = b'
    · by_cases h3 : f = f'
      · simp [h1, h2, h3]
      · simp [h1, h2, h3]
    · simp [h2]
  · simp [h1]

set_option linter.unusedSimpArgs false in
set_option maxHeartbeats 1000000 in
theorem sameentry_any (x y : Ec) (B : Nat) (w : World) (hx : x.ok w B) (hy : y.ok w B) (hB : B ≤ w.heap.size) :
    Calls Try.prog 68 #[.agg #[.int .u64 x.t, .int .i64 x.k, .slice x.A x.n x.c], .agg #[.int .u64 y.t, .int .i64 y.k, .slice y.A y.n y.c]] w fun e w' => e = .returned (.bool (decide (x.en = y.en))) ∧ Below w.heap.size w w' := by
  rw [en_eq]
  obtain ⟨xt, xk, xA, xn, xc, xd⟩ := x
  obtain ⟨yt, yk, yA, yn, yc, yd⟩ := y
  have BE := Lib.hid (fun W (hW : Below B w W) => bequal_any xA yA xn xc yn yc xd yd W B B (hx.by_.below hW) (hy.by_.below hW))
  simp only at BE ⊢
  have HB := Lib.hid (show Below w.heap.size w ((w.alloc (.cells #[.int .u64 xt, .int .i64 xk, .slice xA xn xc] 54)).alloc (.cells #[.int .u64 yt, .int .i64 yk, .slice yA yn yc] 54)) from ((Below.refl _ _).alloc (Nat.le_refl _) _).alloc (by simp) _)
  clear hx hy
  cases h1 : (xt == yt) with
  | false =>
    rw [Bool.false_and]
    go_enter Try.func68, Try.ntmps68
    go_wp2
    go_ret
    exact ⟨rfl, HB.out⟩
  | true =>
    cases h2 : (xk == yk) with
    | false =>
      rw [Bool.false_and, Bool.true_and]
      go_enter Try.func68, Try.ntmps68
      go_wp2
      go_ret
      exact ⟨rfl, HB.out⟩
    | true =>
      rw [Bool.true_and, Bool.true_and]
      go_enter Try.func68, Try.ntmps68
      go_wp2_with (go_at_call 77; refine (BE.out _ (HB.out.mono hB)).mono ?_; rintro e w1 ⟨rfl, rfl⟩)
      go_ret
      exact ⟨rfl, HB.out⟩

theorem take_same {es es' : List En} {k : Nat} (h : es.take k = es'.take k) (h1 : k < es.length) (h2 : k < es'.length) (he : es.getD k e0 = es'.getD k e0) : es.take (k + 1) = es'.take (k + 1) := by
  rw [List.take_add_one, List.take_add_one, h, List.getElem?_eq_getElem h1, List.getElem?_eq_getElem h2]
  simp only [List.getD, List.getElem?_eq_getElem h1, List.getElem?_eq_getElem h2, Option.getD_some] at he
  rw [he]
theorem take_diff {es es' : List En} {k : Nat} (he : es.getD k e0 ≠ es'.getD k e0) : es ≠ es' := fun e => he (by rw [e])


theorem below_drewN {B : Nat} {a w : World} (h : Below B a w) (q : Nat) : Below B a (w.drewN q) := ⟨h.os, h.tape, h.output, h.size, h.block⟩

set_option linter.unusedSimpArgs false in
set_option maxRecDepth 100000 in
set_option maxHeartbeats 2000000 in
theorem equalfunc_any (A A' : Option Addr) (n m c c' B : Nat) (es es' : List En) (w : World) (h : Es w B A n es) (h' : Es w B A' m es') (hB : B ≤ w.heap.size) (hn : n ≤ 1000000) :
    Calls Try.prog 67 #[.slice A n c, .slice A' m c', .func (.func 68) #[] #[]] w fun e w' => e = .returned (.bool (decide (es = es'))) ∧ Below w.heap.size w w' := by
  have H := Lib.hid h
  have H' := Lib.hid h'
  have HL := Lib.hid h.len
  have HL' := Lib.hid h'.len
  clear h h'
  by_cases hnm : n = m
  rotate_left
  · have hne : decide (es = es') = false := decide_eq_false (fun e => hnm (by rw [← HL.out, ← HL'.out, e]))
    have hnm' : ((n : Int) == (m : Int)) = false := by simp; omega
    have hnm2 : ¬ ((n : Int) = (m : Int)) := by omega
    rw [hne]
    go_enter Try.func67, Try.ntmps67
    go_wp2
    go_ret
    exact ⟨rfl, Below.refl _ _⟩
  subst hnm
  go_enter Try.func67, Try.ntmps67
  go_wp2
  go_loopw [17] (fun i wr => ∃ k : Nat, k ≤ n ∧ i = .int .i64 k ∧ es.take k = es'.take k ∧ Below w.heap.size w wr) (fun i _ => n - (intOf i).toNat)
  case atStart => exact ⟨0, Nat.zero_le _, rfl, rfl, Below.refl _ _⟩
  case round =>
    obtain ⟨k, hk, rfl, htk, hb⟩ := hrel
    by_cases hlt : k < n
    · obtain ⟨b1, o1, x, rfl, hb1, hx, hxo, hxc⟩ := (H.out.below (hb.mono hB)).at_ hlt
      obtain ⟨b2, o2, y, rfl, hb2, hy, hyo, hyc⟩ := (H'.out.below (hb.mono hB)).at_ hlt
      obtain ⟨c0, c1, c2⟩ := rng3 hxc
      obtain ⟨e0, e1, e2⟩ := rng3 hyc
      have HBW := Lib.hid hb
      have TK := Lib.hid htk
      have k0 : (0 : Int) ≤ (k : Int) := by omega
      have hs := hb.size
      have g1 : b1 < wr.heap.size := by omega
      have g2 : b2 < wr.heap.size := by omega
      have YES : Hid (x.en = y.en → es.take (k + 1) = es'.take (k + 1)) := Lib.hid (fun e => take_same TK.out (by rw [HL.out]; exact hlt) (by rw [HL'.out]; exact hlt) (by rw [← hx, ← hy]; exact e))
      have NO : Hid (x.en ≠ y.en → decide (es = es') = false) := Lib.hid (fun e => decide_eq_false (take_diff (k := k) (by rw [← hx, ← hy]; exact e)))
      have HXO := Lib.hid hxo
      have HYO := Lib.hid hyo
      have hen := en_eq x y
      clear hxc hyc hx hy hxo hyo hb htk hs
      obtain ⟨xt, xk, xA, xn, xc, xd⟩ := x
      obtain ⟨yt, yk, yA, yn, yc, yd⟩ := y
      simp only at c0 c1 c2 e0 e1 e2 hen
      have SE := Lib.hid (fun W (hW : Below wr.heap.size wr W) => sameentry_any ⟨xt, xk, xA, xn, xc, xd⟩ ⟨yt, yk, yA, yn, yc, yd⟩ B W (HXO.out.below (hW.mono (Nat.le_trans hB HBW.out.size))) (HYO.out.below (hW.mono (Nat.le_trans hB HBW.out.size))) (Nat.le_trans (Nat.le_trans hB HBW.out.size) hW.size))
      have F2 := Lib.hid (show Below wr.heap.size wr ((wr.alloc (.cells #[.int .u64 xt, .int .i64 xk, .slice xA xn xc] 54)).alloc (.cells #[.int .u64 yt, .int .i64 yk, .slice yA yn yc] 54)) from ((Below.refl _ _).alloc (Nat.le_refl _) _).alloc (by simp) _)
      cases hd : decide ((⟨xt, xk, xA, xn, xc, xd⟩ : Ec).en = (⟨yt, yk, yA, yn, yc, yd⟩ : Ec).en) with
      | true =>
        rw [hd] at SE
        have hYES := YES.out (of_decide_eq_true hd)
        clear YES NO hen hd
        have HY2 := Lib.hid hYES
        clear hYES
        go_wp2_with (go_at_call 68; go_loud (refine (SE.out _ F2.out).mono ?_; rintro e w1 ⟨rfl, hb1⟩; have HB1 := Lib.hid (HBW.out.trans ((F2.out.trans (hb1.mono F2.out.size)).mono HBW.out.size)); clear hb1))
        go_roundw
        case rel => exact ⟨k + 1, by omega, by go_num, HY2.out, HB1.out⟩
        case measure => simp [intOf]; omega
      | false =>
        rw [hd] at SE
        have hNO := NO.out (of_decide_eq_false hd)
        clear YES NO hen hd
        have HN2 := Lib.hid hNO
        clear hNO
        go_wp2_with (go_at_call 68; go_loud (refine (SE.out _ F2.out).mono ?_; rintro e w1 ⟨rfl, hb1⟩; have HB1 := Lib.hid (HBW.out.trans ((F2.out.trans (hb1.mono F2.out.size)).mono HBW.out.size)); clear hb1))
        go_ret
        exact ⟨by rw [HN2.out]; rfl, HB1.out⟩
    · obtain rfl : k = n := by omega
      have heq : es = es' := by rw [List.take_of_length_le (by rw [HL.out]; exact Nat.le_refl _), List.take_of_length_le (by rw [HL'.out]; exact Nat.le_refl _)] at htk; exact htk
      have HEQ := Lib.hid (decide_eq_true heq)
      have HBW := Lib.hid hb
      clear heq htk hb
      go_wp2
      go_ret
      exact ⟨by rw [HEQ.out]; rfl, HBW.out⟩

set_option linter.unusedSimpArgs false in
set_option maxRecDepth 100000 in
set_option maxHeartbeats 2000000 in
theorem sameentries_any (A A' : Option Addr) (n m c c' B : Nat) (es es' : List En) (w : World) (h : Es w B A n es) (h' : Es w B A' m es') (hB : B ≤ w.heap.size) (hn : n ≤ 1000000) :
    Calls Try.prog 20 #[.slice A n c, .slice A' m c'] w fun e w' => e = .returned (.bool (decide (es = es'))) ∧ Below w.heap.size w w' := by
  have H := Lib.hid h
  have H' := Lib.hid h'
  have HL := Lib.hid h.len
  have HL' := Lib.hid h'.len
  clear h h'
  by_cases hnm : n = m
  rotate_left
  · have hne : decide (es = es') = false := decide_eq_false (fun e => hnm (by rw [← HL.out, ← HL'.out, e]))
    have hnm' : ((n : Int) == (m : Int)) = false := by simp; omega
    have hnm2 : ¬ ((n : Int) = (m : Int)) := by omega
    rw [hne]
    go_enter Try.func20, Try.ntmps20
    go_wp2
    go_ret
    exact ⟨rfl, Below.refl _ _⟩
  subst hnm
  go_enter Try.func20, Try.ntmps20
  go_wp2
  go_loopw [15] (fun i wr => ∃ k : Nat, k ≤ n ∧ i = .int .i64 k ∧ es.take k = es'.take k ∧ Below w.heap.size w wr) (fun i _ => n - (intOf i).toNat)
  case atStart => exact ⟨0, Nat.zero_le _, rfl, rfl, Below.refl _ _⟩
  case round =>
    obtain ⟨k, hk, rfl, htk, hb⟩ := hrel
    by_cases hlt : k < n
    · obtain ⟨b1, o1, x, rfl, hb1, hx, hxo, hxc⟩ := (H.out.below (hb.mono hB)).at_ hlt
      obtain ⟨b2, o2, y, rfl, hb2, hy, hyo, hyc⟩ := (H'.out.below (hb.mono hB)).at_ hlt
      obtain ⟨c0, c1, c2⟩ := rng3 hxc
      obtain ⟨e0, e1, e2⟩ := rng3 hyc
      have HBW := Lib.hid hb
      have TK := Lib.hid htk
      have k0 : (0 : Int) ≤ (k : Int) := by omega
      have hs := hb.size
      have g1 : b1 < wr.heap.size := by omega
      have g2 : b2 < wr.heap.size := by omega
      have YES : Hid (x.en = y.en → es.take (k + 1) = es'.take (k + 1)) := Lib.hid (fun e => take_same TK.out (by rw [HL.out]; exact hlt) (by rw [HL'.out]; exact hlt) (by rw [← hx, ← hy]; exact e))
      have NO : Hid (x.en ≠ y.en → decide (es = es') = false) := Lib.hid (fun e => decide_eq_false (take_diff (k := k) (by rw [← hx, ← hy]; exact e)))
      have HXO := Lib.hid hxo
      have HYO := Lib.hid hyo
      have hen := en_eq x y
      clear hxc hyc hx hy hxo hyo hb htk hs
      obtain ⟨xt, xk, xA, xn, xc, xd⟩ := x
      obtain ⟨yt, yk, yA, yn, yc, yd⟩ := y
      simp only at c0 c1 c2 e0 e1 e2 hen
      have SE := Lib.hid (fun W (hW : Below wr.heap.size wr W) => same_any xA yA xn xc yn yc xd yd W B B (HXO.out.by_.below (hW.mono (Nat.le_trans hB HBW.out.size))) (HYO.out.by_.below (hW.mono (Nat.le_trans hB HBW.out.size))) (by have := HXO.out.n; simp only at this; omega) (by have := HYO.out.n; simp only at this; omega))
      have F2 := Lib.hid (show Below wr.heap.size wr ((wr.alloc (.cells #[.int .u64 xt, .int .i64 xk, .slice xA xn xc] 54)).alloc (.cells #[.int .u64 yt, .int .i64 yk, .slice yA yn yc] 54)) from ((Below.refl _ _).alloc (Nat.le_refl _) _).alloc (by simp) _)
      cases h1 : (xt == yt) with
      | false =>
        rw [h1, Bool.false_and] at hen
        have h1' : ¬ xt = yt := by simpa using h1
        have HN2 := Lib.hid (NO.out (of_decide_eq_false hen))
        clear YES NO hen
        go_wp2
        go_ret
        exact ⟨by rw [HN2.out]; rfl, HBW.out.trans (F2.out.mono HBW.out.size)⟩
      | true =>
        rw [h1, Bool.true_and] at hen
        obtain rfl : xt = yt := by simpa using h1
        cases h2 : (xk == yk) with
        | false =>
          rw [h2, Bool.false_and] at hen
          have h2' : ¬ xk = yk := by simpa using h2
          have HN2 := Lib.hid (NO.out (of_decide_eq_false hen))
          clear YES NO hen
          go_wp2
          go_ret
          exact ⟨by rw [HN2.out]; rfl, HBW.out.trans (F2.out.mono HBW.out.size)⟩
        | true =>
          rw [h2, Bool.true_and] at hen
          obtain rfl : xk = yk := by simpa using h2
          cases h3 : (xd == yd) with
          | false =>
            rw [h3] at hen SE
            have HN2 := Lib.hid (NO.out (of_decide_eq_false hen))
            clear YES NO hen
            go_wp2_with (go_at_call 55; go_loud (refine (SE.out _ F2.out).mono ?_; rintro e w1 ⟨rfl, q, rfl⟩))
            go_ret
            exact ⟨by rw [HN2.out]; rfl, below_drewN (HBW.out.trans (F2.out.mono HBW.out.size)) q⟩
          | true =>
            rw [h3] at hen SE
            have HY2 := Lib.hid (YES.out (of_decide_eq_true hen))
            clear YES NO hen
            go_wp2_with (go_at_call 55; go_loud (refine (SE.out _ F2.out).mono ?_; rintro e w1 ⟨rfl, q, rfl⟩))
            go_roundw
            case rel => exact ⟨k + 1, by omega, by go_num, HY2.out, below_drewN (HBW.out.trans (F2.out.mono HBW.out.size)) q⟩
            case measure => simp [intOf]; omega
    · obtain rfl : k = n := by omega
      have heq : es = es' := by rw [List.take_of_length_le (by rw [HL.out]; exact Nat.le_refl _), List.take_of_length_le (by rw [HL'.out]; exact Nat.le_refl _)] at htk; exact htk
      have HEQ := Lib.hid (decide_eq_true heq)
      have HBW := Lib.hid hb
      clear heq htk hb
      go_wp2
      go_ret
      exact ⟨by rw [HEQ.out]; rfl, HBW.out⟩

theorem lg_eq (a b : Lg) : decide (a = b) = (Eqa a.bi a.bt b.bi b.bt && decide (a.es = b.es)) := by
  obtain ⟨x, y, z⟩ := a
  obtain ⟨x', y', z'⟩ := b
  unfold Eqa
  by_cases h1 : x = x'
  · by_cases h2 : y = y'
    · by_cases h3 : z = z'
      · simp [h1, h2, h3]
      · simp [h1, h2, h3]
    · simp [h1, h2]
  · simp [h1]
set_option linter.unusedSimpArgs false in
set_option maxHeartbeats 1000000 in
theorem Same_any (a b : Lg) (A A' : Option Addr) (n m c c' B : Nat) (w : World) (h : Lr w B A n c a) (h' : Lr w B A' m c' b) (hB : B ≤ w.heap.size) :
    Calls Try.prog 41 #[.agg #[.int .u64 a.bi, .int .u64 a.bt, .slice A n c], .agg #[.int .u64 b.bi, .int .u64 b.bt, .slice A' m c']] w fun e w' => e = .returned (.bool (decide (a = b))) ∧ Below w.heap.size w w' := by
  rw [lg_eq]
  have EQ := Lib.hid (fun W (hW : Below B w W) => equalfunc_any A A' n m c c' B a.es b.es W (h.es.below hW) (h'.es.below hW) (Nat.le_trans hB hW.size) (by have := h.n; omega))
  generalize decide (a.es = b.es) = D at *
  obtain ⟨bi, bt, es⟩ := a
  obtain ⟨pi, pt, es'⟩ := b
  simp only at EQ ⊢
  clear h h'
  have HB := Lib.hid (show Below w.heap.size w ((w.alloc (.cells #[.int .u64 bi, .int .u64 bt, .slice A n c] 27)).alloc (.cells #[.int .u64 pi, .int .u64 pt, .slice A' m c'] 27)) from ((Below.refl _ _).alloc (Nat.le_refl _) _).alloc (by simp) _)
  cases hq : Eqa bi bt pi pt with
  | false =>
    rw [Bool.false_and]
    go_enter Try.func41, Try.ntmps41
    go_wp2
    go_ret
    exact ⟨rfl, HB.out⟩
  | true =>
    rw [Bool.true_and]
    go_enter Try.func41, Try.ntmps41
    go_wp2_with (go_at_call 67; refine (EQ.out _ (HB.out.mono hB)).mono ?_; rintro e w1 ⟨rfl, hb1⟩; have HB1 := Lib.hid (HB.out.trans (hb1.mono HB.out.size)); clear hb1)
    go_ret
    exact ⟨rfl, HB1.out⟩

set_option linter.unusedSimpArgs false in
set_option maxHeartbeats 1000000 in
theorem refsame_any (a b : Lg) (A A' : Option Addr) (n m c c' B : Nat) (w : World) (h : Lr w B A n c a) (h' : Lr w B A' m c' b) (hB : B ≤ w.heap.size) :
    Calls Try.prog 18 #[.agg #[.int .u64 a.bi, .int .u64 a.bt, .slice A n c], .agg #[.int .u64 b.bi, .int .u64 b.bt, .slice A' m c']] w fun e w' => e = .returned (.bool (decide (a = b))) ∧ Below w.heap.size w w' := by
  rw [lg_eq]
  have EQ := Lib.hid (fun W (hW : Below B w W) => sameentries_any A A' n m c c' B a.es b.es W (h.es.below hW) (h'.es.below hW) (Nat.le_trans hB hW.size) (by have := h.n; omega))
  generalize decide (a.es = b.es) = D at *
  obtain ⟨bi, bt, es⟩ := a
  obtain ⟨pi, pt, es'⟩ := b
  simp only at EQ ⊢
  clear h h'
  have HB := Lib.hid (show Below w.heap.size w ((w.alloc (.cells #[.int .u64 bi, .int .u64 bt, .slice A n c] 27)).alloc (.cells #[.int .u64 pi, .int .u64 pt, .slice A' m c'] 27)) from ((Below.refl _ _).alloc (Nat.le_refl _) _).alloc (by simp) _)
  cases hq : Eqa bi bt pi pt with
  | false =>
    rw [Bool.false_and]
    go_enter Try.func18, Try.ntmps18
    go_wp2
    go_ret
    exact ⟨rfl, HB.out⟩
  | true =>
    rw [Bool.true_and]
    go_enter Try.func18, Try.ntmps18
    go_wp2_with (go_at_call 20; refine (EQ.out _ (HB.out.mono hB)).mono ?_; rintro e w1 ⟨rfl, hb1⟩; have HB1 := Lib.hid (HB.out.trans (hb1.mono HB.out.size)); clear hb1)
    go_ret
    exact ⟨rfl, HB1.out⟩

end Go.Proofs.Ytmgaihdepglahaa
