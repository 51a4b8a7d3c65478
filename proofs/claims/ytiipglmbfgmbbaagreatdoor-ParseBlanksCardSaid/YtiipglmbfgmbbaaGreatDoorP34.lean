/-
  A list, with commas.
-/
import Derived.Test.YtiipglmbfgmbbaaGreatDoorP29
namespace Go.Proofs.YtiipglmbfgmbbaaGreatDoor
open Go.RowKit Go.Shelf
attribute [local go_sem] Oper.semAt_some

/-- What stands behind one thing of a list. -/
def lsR (L : List Tk) (E : Nat) (step : Nat → Nat → Sm → Rx Sm) (n r : Nat) (s : Sm) : Rx Sm := if isB (tokAt L E r) [44] = true then lsF L E step n (r + 1) s else rok s r
set_option maxRecDepth 100000 in
set_option maxHeartbeats 4000000 in
theorem list_112 (L : List Tk) (E q : Nat) (c1 c2 : Value) (step : Nat → Nat → Sm → Rx Sm) (hm : ∀ r s, Mono (fun n => step n r s)) (J J2 : World → Nat → Sm → Prop) (F : World → Prop)
    (hc : ∀ w r s, J w r s → Calls Tryz.prog 112 #[c1, c2] w (Lr (fun n => step n r s) J2 F L E r))
    (hfd : ∀ w r s, J2 w r s → Calls Tryz.prog 82 #[.pointer (some ⟨q, 0, none⟩), .string ⟨#[44]⟩] w fun e w' => e = .returned (.bool (isB (tokAt L E r) [44])) ∧ (if isB (tokAt L E r) [44] = true then r < L.length ∧ J w' (r + 1) s else J2 w' r s))
    (hrd : ∀ w r s, J2 w r s → readAt w q = r) (w : World) (r : Nat) (s : Sm) (h : J w r s) :
    Calls Tryz.prog 111 #[.pointer (some ⟨q, 0, none⟩), .func (.func 112) #[] #[c1, c2]] w (Lr (fun n => lsF L E step n r s) J2 F L E r) := by
  have C1 := Lib.hid (hc w r s h)
  have HC := Lib.hid hc
  have HF := Lib.hid hfd
  have HM := Lib.hid hm
  have HR := Lib.hid hrd
  clear hc hfd h hm hrd
  go_enter Tryz.func111, Tryz.ntmps111
  go_upto_region 1 with (go_at_call 112; refine C1.out.mono ?_; rintro e w1 ⟨n1, x1, hx, hy⟩; have X1 := Lib.hid hx; clear hx; rcases x1 with ⟨er, i⟩ | ⟨s1, r1⟩ <;> first | (obtain ⟨hz', hF'⟩ := hy; have hz : e = .panicked [{ v := .iface 26 (.agg #[.int .i64 er, .int .i64 ((tokAt L E i).at_ : Int)]), recovered := false }] := hz'; subst hz; clear hz') | (obtain ⟨rfl, hr1, hJ⟩ := hy; have J1 := Lib.hid hJ; clear hJ))
  · exact ⟨rfl, n1 + 1, .error (er, i), rb_err X1.out, rfl, hF'⟩
  · have CT : Hid (∀ n x, lsR L E step n r1 s1 = some x → ∃ n', lsF L E step n' r s = some x) := Lib.hid (fun n x hx => ⟨max n n1 + 1, by
      unfold lsF
      rw [rb_ok (HM.out r s n1 _ _ (Nat.le_max_right _ _) X1.out)]
      unfold lsR at hx
      by_cases hb : isB (tokAt L E r1) [44] = true
      · rw [if_pos hb] at hx ⊢
        exact lsF_mono L E step HM.out _ _ n _ _ (Nat.le_max_left _ _) hx
      · rw [if_neg hb] at hx ⊢
        exact hx⟩)
    go_loopw [6] (fun _ wr => ∃ (r2 : Nat) (s2 : Sm), r ≤ r2 ∧ Hid (J2 wr r2 s2) ∧ Hid (∀ n x, lsR L E step n r2 s2 = some x → ∃ n', lsF L E step n' r s = some x)) (fun _ wr => L.length - readAt wr q)
    case atStart => exact ⟨r1, s1, hr1, J1, CT⟩
    case round =>
      clear J1 CT X1 C1 hr1
      obtain ⟨r2, s2, hr2, J2', CT⟩ := hrel
      have FD := HF.out wr r2 s2 J2'.out
      have RW : readAt wr q = r2 := HR.out wr r2 s2 J2'.out
      cases hb : isB (tokAt L E r2) [44] with
      | false =>
        rw [hb] at FD
        have FH : Hid (Calls Tryz.prog 82 #[.pointer (some ⟨q, 0, none⟩), .string ⟨#[44]⟩] wr fun e w' => e = .returned (.bool false) ∧ J2 w' r2 s2) := Lib.hid FD
        clear FD
        obtain ⟨n', hx⟩ := CT.out 0 (.ok (s2, r2)) (by unfold lsR; rw [if_neg (by rw [hb]; decide)]; rfl)
        go_wp2_with (go_at_call 82; refine FH.out.mono ?_; rintro e w2 ⟨rfl, hJ⟩; have J3 := Lib.hid hJ; clear hJ)
        go_end0
        exact ⟨n', .ok (s2, r2), hx, rfl, hr2, J3.out⟩
      | true =>
        rw [hb] at FD
        have FH : Hid (Calls Tryz.prog 82 #[.pointer (some ⟨q, 0, none⟩), .string ⟨#[44]⟩] wr fun e w' => e = .returned (.bool true) ∧ r2 < L.length ∧ J w' (r2 + 1) s2) := Lib.hid FD
        clear FD
        have CT2 : Hid (∀ n x, lsF L E step n (r2 + 1) s2 = some x → ∃ n', lsF L E step n' r s = some x) := Lib.hid (fun n x hx => CT.out n x (by unfold lsR; rw [if_pos hb]; exact hx))
        go_upto_region 2 with (go_at_call 82; refine FH.out.mono ?_; rintro e w2 ⟨rfl, hlt, hJ⟩; have J3 := Lib.hid hJ; clear hJ)
        have C3 := Lib.hid (HC.out w2 (r2 + 1) s2 J3.out)
        go_wp2_with (go_at_call 112; refine C3.out.mono ?_; rintro e w4 ⟨n4, x4, hx, hy⟩; have X4 := Lib.hid hx; clear hx; rcases x4 with ⟨er, i⟩ | ⟨s4, r4⟩ <;> first | (obtain ⟨hz', hF'⟩ := hy; have hz : e = .panicked [{ v := .iface 26 (.agg #[.int .i64 er, .int .i64 ((tokAt L E i).at_ : Int)]), recovered := false }] := hz'; subst hz; clear hz') | (obtain ⟨rfl, hr4, hJ⟩ := hy; have J4 := Lib.hid hJ; clear hJ))
        · obtain ⟨n', hx⟩ := CT2.out (n4 + 1) (.error (er, i)) (rb_err X4.out)
          exact ⟨rfl, n', .error (er, i), hx, rfl, hF'⟩
        · have CT4 : Hid (∀ n x, lsR L E step n r4 s4 = some x → ∃ n', lsF L E step n' r s = some x) := Lib.hid (fun n x hx => CT2.out (max n n4 + 1) x (by
            unfold lsF
            rw [rb_ok (HM.out (r2 + 1) s2 n4 _ _ (Nat.le_max_right _ _) X4.out)]
            unfold lsR at hx
            by_cases hb : isB (tokAt L E r4) [44] = true
            · rw [if_pos hb] at hx ⊢
              exact lsF_mono L E step HM.out _ _ n _ _ (Nat.le_max_left _ _) hx
            · rw [if_neg hb] at hx ⊢
              exact hx))
          have RW4 : readAt w4 q = r4 := HR.out w4 r4 s4 J4.out
          go_roundw
          case rel => exact ⟨r4, s4, by omega, J4, CT4⟩
          case measure => rw [RW4, RW]; omega
set_option maxRecDepth 100000 in
set_option maxHeartbeats 4000000 in
theorem list_115 (L : List Tk) (E q : Nat) (c1 c2 : Value) (step : Nat → Nat → Sm → Rx Sm) (hm : ∀ r s, Mono (fun n => step n r s)) (J J2 : World → Nat → Sm → Prop) (F : World → Prop)
    (hc : ∀ w r s, J w r s → Calls Tryz.prog 115 #[c1, c2] w (Lr (fun n => step n r s) J2 F L E r))
    (hfd : ∀ w r s, J2 w r s → Calls Tryz.prog 82 #[.pointer (some ⟨q, 0, none⟩), .string ⟨#[44]⟩] w fun e w' => e = .returned (.bool (isB (tokAt L E r) [44])) ∧ (if isB (tokAt L E r) [44] = true then r < L.length ∧ J w' (r + 1) s else J2 w' r s))
    (hrd : ∀ w r s, J2 w r s → readAt w q = r) (w : World) (r : Nat) (s : Sm) (h : J w r s) :
    Calls Tryz.prog 111 #[.pointer (some ⟨q, 0, none⟩), .func (.func 115) #[] #[c1, c2]] w (Lr (fun n => lsF L E step n r s) J2 F L E r) := by
  have C1 := Lib.hid (hc w r s h)
  have HC := Lib.hid hc
  have HF := Lib.hid hfd
  have HM := Lib.hid hm
  have HR := Lib.hid hrd
  clear hc hfd h hm hrd
  go_enter Tryz.func111, Tryz.ntmps111
  go_upto_region 1 with (go_at_call 115; refine C1.out.mono ?_; rintro e w1 ⟨n1, x1, hx, hy⟩; have X1 := Lib.hid hx; clear hx; rcases x1 with ⟨er, i⟩ | ⟨s1, r1⟩ <;> first | (obtain ⟨hz', hF'⟩ := hy; have hz : e = .panicked [{ v := .iface 26 (.agg #[.int .i64 er, .int .i64 ((tokAt L E i).at_ : Int)]), recovered := false }] := hz'; subst hz; clear hz') | (obtain ⟨rfl, hr1, hJ⟩ := hy; have J1 := Lib.hid hJ; clear hJ))
  · exact ⟨rfl, n1 + 1, .error (er, i), rb_err X1.out, rfl, hF'⟩
  · have CT : Hid (∀ n x, lsR L E step n r1 s1 = some x → ∃ n', lsF L E step n' r s = some x) := Lib.hid (fun n x hx => ⟨max n n1 + 1, by
      unfold lsF
      rw [rb_ok (HM.out r s n1 _ _ (Nat.le_max_right _ _) X1.out)]
      unfold lsR at hx
      by_cases hb : isB (tokAt L E r1) [44] = true
      · rw [if_pos hb] at hx ⊢
        exact lsF_mono L E step HM.out _ _ n _ _ (Nat.le_max_left _ _) hx
      · rw [if_neg hb] at hx ⊢
        exact hx⟩)
    go_loopw [6] (fun _ wr => ∃ (r2 : Nat) (s2 : Sm), r ≤ r2 ∧ Hid (J2 wr r2 s2) ∧ Hid (∀ n x, lsR L E step n r2 s2 = some x → ∃ n', lsF L E step n' r s = some x)) (fun _ wr => L.length - readAt wr q)
    case atStart => exact ⟨r1, s1, hr1, J1, CT⟩
    case round =>
      clear J1 CT X1 C1 hr1
      obtain ⟨r2, s2, hr2, J2', CT⟩ := hrel
      have FD := HF.out wr r2 s2 J2'.out
      have RW : readAt wr q = r2 := HR.out wr r2 s2 J2'.out
      cases hb : isB (tokAt L E r2) [44] with
      | false =>
        rw [hb] at FD
        have FH : Hid (Calls Tryz.prog 82 #[.pointer (some ⟨q, 0, none⟩), .string ⟨#[44]⟩] wr fun e w' => e = .returned (.bool false) ∧ J2 w' r2 s2) := Lib.hid FD
        clear FD
        obtain ⟨n', hx⟩ := CT.out 0 (.ok (s2, r2)) (by unfold lsR; rw [if_neg (by rw [hb]; decide)]; rfl)
        go_wp2_with (go_at_call 82; refine FH.out.mono ?_; rintro e w2 ⟨rfl, hJ⟩; have J3 := Lib.hid hJ; clear hJ)
        go_end0
        exact ⟨n', .ok (s2, r2), hx, rfl, hr2, J3.out⟩
      | true =>
        rw [hb] at FD
        have FH : Hid (Calls Tryz.prog 82 #[.pointer (some ⟨q, 0, none⟩), .string ⟨#[44]⟩] wr fun e w' => e = .returned (.bool true) ∧ r2 < L.length ∧ J w' (r2 + 1) s2) := Lib.hid FD
        clear FD
        have CT2 : Hid (∀ n x, lsF L E step n (r2 + 1) s2 = some x → ∃ n', lsF L E step n' r s = some x) := Lib.hid (fun n x hx => CT.out n x (by unfold lsR; rw [if_pos hb]; exact hx))
        go_upto_region 2 with (go_at_call 82; refine FH.out.mono ?_; rintro e w2 ⟨rfl, hlt, hJ⟩; have J3 := Lib.hid hJ; clear hJ)
        have C3 := Lib.hid (HC.out w2 (r2 + 1) s2 J3.out)
        go_wp2_with (go_at_call 115; refine C3.out.mono ?_; rintro e w4 ⟨n4, x4, hx, hy⟩; have X4 := Lib.hid hx; clear hx; rcases x4 with ⟨er, i⟩ | ⟨s4, r4⟩ <;> first | (obtain ⟨hz', hF'⟩ := hy; have hz : e = .panicked [{ v := .iface 26 (.agg #[.int .i64 er, .int .i64 ((tokAt L E i).at_ : Int)]), recovered := false }] := hz'; subst hz; clear hz') | (obtain ⟨rfl, hr4, hJ⟩ := hy; have J4 := Lib.hid hJ; clear hJ))
        · obtain ⟨n', hx⟩ := CT2.out (n4 + 1) (.error (er, i)) (rb_err X4.out)
          exact ⟨rfl, n', .error (er, i), hx, rfl, hF'⟩
        · have CT4 : Hid (∀ n x, lsR L E step n r4 s4 = some x → ∃ n', lsF L E step n' r s = some x) := Lib.hid (fun n x hx => CT2.out (max n n4 + 1) x (by
            unfold lsF
            rw [rb_ok (HM.out (r2 + 1) s2 n4 _ _ (Nat.le_max_right _ _) X4.out)]
            unfold lsR at hx
            by_cases hb : isB (tokAt L E r4) [44] = true
            · rw [if_pos hb] at hx ⊢
              exact lsF_mono L E step HM.out _ _ n _ _ (Nat.le_max_left _ _) hx
            · rw [if_neg hb] at hx ⊢
              exact hx))
          have RW4 : readAt w4 q = r4 := HR.out w4 r4 s4 J4.out
          go_roundw
          case rel => exact ⟨r4, s4, by omega, J4, CT4⟩
          case measure => rw [RW4, RW]; omega
set_option maxRecDepth 100000 in
set_option maxHeartbeats 4000000 in
theorem list_117 (L : List Tk) (E q : Nat) (c1 c2 : Value) (step : Nat → Nat → Sm → Rx Sm) (hm : ∀ r s, Mono (fun n => step n r s)) (J J2 : World → Nat → Sm → Prop) (F : World → Prop)
    (hc : ∀ w r s, J w r s → Calls Tryz.prog 117 #[c1, c2] w (Lr (fun n => step n r s) J2 F L E r))
    (hfd : ∀ w r s, J2 w r s → Calls Tryz.prog 82 #[.pointer (some ⟨q, 0, none⟩), .string ⟨#[44]⟩] w fun e w' => e = .returned (.bool (isB (tokAt L E r) [44])) ∧ (if isB (tokAt L E r) [44] = true then r < L.length ∧ J w' (r + 1) s else J2 w' r s))
    (hrd : ∀ w r s, J2 w r s → readAt w q = r) (w : World) (r : Nat) (s : Sm) (h : J w r s) :
    Calls Tryz.prog 111 #[.pointer (some ⟨q, 0, none⟩), .func (.func 117) #[] #[c1, c2]] w (Lr (fun n => lsF L E step n r s) J2 F L E r) := by
  have C1 := Lib.hid (hc w r s h)
  have HC := Lib.hid hc
  have HF := Lib.hid hfd
  have HM := Lib.hid hm
  have HR := Lib.hid hrd
  clear hc hfd h hm hrd
  go_enter Tryz.func111, Tryz.ntmps111
  go_upto_region 1 with (go_at_call 117; refine C1.out.mono ?_; rintro e w1 ⟨n1, x1, hx, hy⟩; have X1 := Lib.hid hx; clear hx; rcases x1 with ⟨er, i⟩ | ⟨s1, r1⟩ <;> first | (obtain ⟨hz', hF'⟩ := hy; have hz : e = .panicked [{ v := .iface 26 (.agg #[.int .i64 er, .int .i64 ((tokAt L E i).at_ : Int)]), recovered := false }] := hz'; subst hz; clear hz') | (obtain ⟨rfl, hr1, hJ⟩ := hy; have J1 := Lib.hid hJ; clear hJ))
  · exact ⟨rfl, n1 + 1, .error (er, i), rb_err X1.out, rfl, hF'⟩
  · have CT : Hid (∀ n x, lsR L E step n r1 s1 = some x → ∃ n', lsF L E step n' r s = some x) := Lib.hid (fun n x hx => ⟨max n n1 + 1, by
      unfold lsF
      rw [rb_ok (HM.out r s n1 _ _ (Nat.le_max_right _ _) X1.out)]
      unfold lsR at hx
      by_cases hb : isB (tokAt L E r1) [44] = true
      · rw [if_pos hb] at hx ⊢
        exact lsF_mono L E step HM.out _ _ n _ _ (Nat.le_max_left _ _) hx
      · rw [if_neg hb] at hx ⊢
        exact hx⟩)
    go_loopw [6] (fun _ wr => ∃ (r2 : Nat) (s2 : Sm), r ≤ r2 ∧ Hid (J2 wr r2 s2) ∧ Hid (∀ n x, lsR L E step n r2 s2 = some x → ∃ n', lsF L E step n' r s = some x)) (fun _ wr => L.length - readAt wr q)
    case atStart => exact ⟨r1, s1, hr1, J1, CT⟩
    case round =>
      clear J1 CT X1 C1 hr1
      obtain ⟨r2, s2, hr2, J2', CT⟩ := hrel
      have FD := HF.out wr r2 s2 J2'.out
      have RW : readAt wr q = r2 := HR.out wr r2 s2 J2'.out
      cases hb : isB (tokAt L E r2) [44] with
      | false =>
        rw [hb] at FD
        have FH : Hid (Calls Tryz.prog 82 #[.pointer (some ⟨q, 0, none⟩), .string ⟨#[44]⟩] wr fun e w' => e = .returned (.bool false) ∧ J2 w' r2 s2) := Lib.hid FD
        clear FD
        obtain ⟨n', hx⟩ := CT.out 0 (.ok (s2, r2)) (by unfold lsR; rw [if_neg (by rw [hb]; decide)]; rfl)
        go_wp2_with (go_at_call 82; refine FH.out.mono ?_; rintro e w2 ⟨rfl, hJ⟩; have J3 := Lib.hid hJ; clear hJ)
        go_end0
        exact ⟨n', .ok (s2, r2), hx, rfl, hr2, J3.out⟩
      | true =>
        rw [hb] at FD
        have FH : Hid (Calls Tryz.prog 82 #[.pointer (some ⟨q, 0, none⟩), .string ⟨#[44]⟩] wr fun e w' => e = .returned (.bool true) ∧ r2 < L.length ∧ J w' (r2 + 1) s2) := Lib.hid FD
        clear FD
        have CT2 : Hid (∀ n x, lsF L E step n (r2 + 1) s2 = some x → ∃ n', lsF L E step n' r s = some x) := Lib.hid (fun n x hx => CT.out n x (by unfold lsR; rw [if_pos hb]; exact hx))
        go_upto_region 2 with (go_at_call 82; refine FH.out.mono ?_; rintro e w2 ⟨rfl, hlt, hJ⟩; have J3 := Lib.hid hJ; clear hJ)
        have C3 := Lib.hid (HC.out w2 (r2 + 1) s2 J3.out)
        go_wp2_with (go_at_call 117; refine C3.out.mono ?_; rintro e w4 ⟨n4, x4, hx, hy⟩; have X4 := Lib.hid hx; clear hx; rcases x4 with ⟨er, i⟩ | ⟨s4, r4⟩ <;> first | (obtain ⟨hz', hF'⟩ := hy; have hz : e = .panicked [{ v := .iface 26 (.agg #[.int .i64 er, .int .i64 ((tokAt L E i).at_ : Int)]), recovered := false }] := hz'; subst hz; clear hz') | (obtain ⟨rfl, hr4, hJ⟩ := hy; have J4 := Lib.hid hJ; clear hJ))
        · obtain ⟨n', hx⟩ := CT2.out (n4 + 1) (.error (er, i)) (rb_err X4.out)
          exact ⟨rfl, n', .error (er, i), hx, rfl, hF'⟩
        · have CT4 : Hid (∀ n x, lsR L E step n r4 s4 = some x → ∃ n', lsF L E step n' r s = some x) := Lib.hid (fun n x hx => CT2.out (max n n4 + 1) x (by
            unfold lsF
            rw [rb_ok (HM.out (r2 + 1) s2 n4 _ _ (Nat.le_max_right _ _) X4.out)]
            unfold lsR at hx
            by_cases hb : isB (tokAt L E r4) [44] = true
            · rw [if_pos hb] at hx ⊢
              exact lsF_mono L E step HM.out _ _ n _ _ (Nat.le_max_left _ _) hx
            · rw [if_neg hb] at hx ⊢
              exact hx))
          have RW4 : readAt w4 q = r4 := HR.out w4 r4 s4 J4.out
          go_roundw
          case rel => exact ⟨r4, s4, by omega, J4, CT4⟩
          case measure => rw [RW4, RW]; omega
set_option maxRecDepth 100000 in
set_option maxHeartbeats 4000000 in
theorem list_118 (L : List Tk) (E q : Nat) (c1 c2 : Value) (step : Nat → Nat → Sm → Rx Sm) (hm : ∀ r s, Mono (fun n => step n r s)) (J J2 : World → Nat → Sm → Prop) (F : World → Prop)
    (hc : ∀ w r s, J w r s → Calls Tryz.prog 118 #[c1, c2] w (Lr (fun n => step n r s) J2 F L E r))
    (hfd : ∀ w r s, J2 w r s → Calls Tryz.prog 82 #[.pointer (some ⟨q, 0, none⟩), .string ⟨#[44]⟩] w fun e w' => e = .returned (.bool (isB (tokAt L E r) [44])) ∧ (if isB (tokAt L E r) [44] = true then r < L.length ∧ J w' (r + 1) s else J2 w' r s))
    (hrd : ∀ w r s, J2 w r s → readAt w q = r) (w : World) (r : Nat) (s : Sm) (h : J w r s) :
    Calls Tryz.prog 111 #[.pointer (some ⟨q, 0, none⟩), .func (.func 118) #[] #[c1, c2]] w (Lr (fun n => lsF L E step n r s) J2 F L E r) := by
  have C1 := Lib.hid (hc w r s h)
  have HC := Lib.hid hc
  have HF := Lib.hid hfd
  have HM := Lib.hid hm
  have HR := Lib.hid hrd
  clear hc hfd h hm hrd
  go_enter Tryz.func111, Tryz.ntmps111
  go_upto_region 1 with (go_at_call 118; refine C1.out.mono ?_; rintro e w1 ⟨n1, x1, hx, hy⟩; have X1 := Lib.hid hx; clear hx; rcases x1 with ⟨er, i⟩ | ⟨s1, r1⟩ <;> first | (obtain ⟨hz', hF'⟩ := hy; have hz : e = .panicked [{ v := .iface 26 (.agg #[.int .i64 er, .int .i64 ((tokAt L E i).at_ : Int)]), recovered := false }] := hz'; subst hz; clear hz') | (obtain ⟨rfl, hr1, hJ⟩ := hy; have J1 := Lib.hid hJ; clear hJ))
  · exact ⟨rfl, n1 + 1, .error (er, i), rb_err X1.out, rfl, hF'⟩
  · have CT : Hid (∀ n x, lsR L E step n r1 s1 = some x → ∃ n', lsF L E step n' r s = some x) := Lib.hid (fun n x hx => ⟨max n n1 + 1, by
      unfold lsF
      rw [rb_ok (HM.out r s n1 _ _ (Nat.le_max_right _ _) X1.out)]
      unfold lsR at hx
      by_cases hb : isB (tokAt L E r1) [44] = true
      · rw [if_pos hb] at hx ⊢
        exact lsF_mono L E step HM.out _ _ n _ _ (Nat.le_max_left _ _) hx
      · rw [if_neg hb] at hx ⊢
        exact hx⟩)
    go_loopw [6] (fun _ wr => ∃ (r2 : Nat) (s2 : Sm), r ≤ r2 ∧ Hid (J2 wr r2 s2) ∧ Hid (∀ n x, lsR L E step n r2 s2 = some x → ∃ n', lsF L E step n' r s = some x)) (fun _ wr => L.length - readAt wr q)
    case atStart => exact ⟨r1, s1, hr1, J1, CT⟩
    case round =>
      clear J1 CT X1 C1 hr1
      obtain ⟨r2, s2, hr2, J2', CT⟩ := hrel
      have FD := HF.out wr r2 s2 J2'.out
      have RW : readAt wr q = r2 := HR.out wr r2 s2 J2'.out
      cases hb : isB (tokAt L E r2) [44] with
      | false =>
        rw [hb] at FD
        have FH : Hid (Calls Tryz.prog 82 #[.pointer (some ⟨q, 0, none⟩), .string ⟨#[44]⟩] wr fun e w' => e = .returned (.bool false) ∧ J2 w' r2 s2) := Lib.hid FD
        clear FD
        obtain ⟨n', hx⟩ := CT.out 0 (.ok (s2, r2)) (by unfold lsR; rw [if_neg (by rw [hb]; decide)]; rfl)
        go_wp2_with (go_at_call 82; refine FH.out.mono ?_; rintro e w2 ⟨rfl, hJ⟩; have J3 := Lib.hid hJ; clear hJ)
        go_end0
        exact ⟨n', .ok (s2, r2), hx, rfl, hr2, J3.out⟩
      | true =>
        rw [hb] at FD
        have FH : Hid (Calls Tryz.prog 82 #[.pointer (some ⟨q, 0, none⟩), .string ⟨#[44]⟩] wr fun e w' => e = .returned (.bool true) ∧ r2 < L.length ∧ J w' (r2 + 1) s2) := Lib.hid FD
        clear FD
        have CT2 : Hid (∀ n x, lsF L E step n (r2 + 1) s2 = some x → ∃ n', lsF L E step n' r s = some x) := Lib.hid (fun n x hx => CT.out n x (by unfold lsR; rw [if_pos hb]; exact hx))
        go_upto_region 2 with (go_at_call 82; refine FH.out.mono ?_; rintro e w2 ⟨rfl, hlt, hJ⟩; have J3 := Lib.hid hJ; clear hJ)
        have C3 := Lib.hid (HC.out w2 (r2 + 1) s2 J3.out)
        go_wp2_with (go_at_call 118; refine C3.out.mono ?_; rintro e w4 ⟨n4, x4, hx, hy⟩; have X4 := Lib.hid hx; clear hx; rcases x4 with ⟨er, i⟩ | ⟨s4, r4⟩ <;> first | (obtain ⟨hz', hF'⟩ := hy; have hz : e = .panicked [{ v := .iface 26 (.agg #[.int .i64 er, .int .i64 ((tokAt L E i).at_ : Int)]), recovered := false }] := hz'; subst hz; clear hz') | (obtain ⟨rfl, hr4, hJ⟩ := hy; have J4 := Lib.hid hJ; clear hJ))
        · obtain ⟨n', hx⟩ := CT2.out (n4 + 1) (.error (er, i)) (rb_err X4.out)
          exact ⟨rfl, n', .error (er, i), hx, rfl, hF'⟩
        · have CT4 : Hid (∀ n x, lsR L E step n r4 s4 = some x → ∃ n', lsF L E step n' r s = some x) := Lib.hid (fun n x hx => CT2.out (max n n4 + 1) x (by
            unfold lsF
            rw [rb_ok (HM.out (r2 + 1) s2 n4 _ _ (Nat.le_max_right _ _) X4.out)]
            unfold lsR at hx
            by_cases hb : isB (tokAt L E r4) [44] = true
            · rw [if_pos hb] at hx ⊢
              exact lsF_mono L E step HM.out _ _ n _ _ (Nat.le_max_left _ _) hx
            · rw [if_neg hb] at hx ⊢
              exact hx))
          have RW4 : readAt w4 q = r4 := HR.out w4 r4 s4 J4.out
          go_roundw
          case rel => exact ⟨r4, s4, by omega, J4, CT4⟩
          case measure => rw [RW4, RW]; omega
end Go.Proofs.YtiipglmbfgmbbaaGreatDoor
