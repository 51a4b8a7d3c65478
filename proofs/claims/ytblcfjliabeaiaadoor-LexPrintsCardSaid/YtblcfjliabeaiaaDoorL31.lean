/-
  Which rows of tokens may be: the document's Right.
-/
import Derived.Test.YtblcfjliabeaiaaDoorL30
namespace Go.Proofs.YtblcfjliabeaiaaDoor
open Go.RowKit Go.Shelf
attribute [local go_sem] Oper.semAt_some

set_option maxRecDepth 100000 in
set_option maxHeartbeats 4000000 in
theorem rright_any (A : Option Addr) (n c B : Nat) (ts : List Tq) (w : World) (h : Trd w B A n ts) (hok : ∀ t ∈ ts, TkOk t) (hn : n ≤ 1000000) (hB : B ≤ w.heap.size) :
    Calls Tryd.prog 15 #[.slice A n c] w fun e w' => e = .returned (.bool (decide (chkF ts = 0))) ∧ Below w.heap.size w w' := by
  have hlen := h.len
  have Y : Hid ((∀ j, j < n → tokB (ts.getD j errQ) = true) → decide (chkF ts = 0) = decide ((n : Int) ≤ 300)) := Lib.hid (fun ha => by
    unfold chkF
    by_cases hl : 300 < n
    · rw [if_pos (by omega), decide_eq_false (show ¬ ((n : Int) ≤ 300) by omega)]
      rfl
    · rw [if_neg (by omega), if_pos (all_getD (by rw [hlen]; exact ha)), decide_eq_true (show ((n : Int) ≤ 300) by omega)]
      rfl)
  have N : Hid (∀ j, j < n → tokB (ts.getD j errQ) = false → decide (chkF ts = 0) = false) := Lib.hid (fun j hj ha => by
    unfold chkF
    split
    · rfl
    · rw [if_neg (by rw [all_no (by omega) ha]; decide)]
      rfl)
  have MB := Lib.hid (fun j W => one_any (ts.getD j errQ) (Nat.le_trans (getD_ok hok j).len (by omega)) W)
  have H := Lib.hid h
  generalize decide (chkF ts = 0) = R at *
  clear h hok hlen
  go_enter Tryd.func15, Tryd.ntmps15
  go_upto_region 2 with fail
  go_loopw [7] (fun iv wr => ∃ i : Nat, i ≤ n ∧ iv = .int .i64 (i : Int) ∧ Hid (∀ j, j < i → tokB (ts.getD j errQ) = true) ∧ Hid (Below w.heap.size w wr)) (fun iv _ => n - (intOf iv).toNat)
  case atStart => exact ⟨0, Nat.zero_le _, rfl, Lib.hid (fun j hj => absurd hj (by omega)), Lib.hid (Below.refl _ _)⟩
  case round =>
    obtain ⟨i, hi, rfl, HA, HB⟩ := hrel
    by_cases hlt : i < n
    · have i0 : (0 : Int) ≤ (i : Int) := by omega
      have i1 : (i : Int) < (n : Int) := by omega
      obtain ⟨b, o, rfl, hbB, x0, x1, x2, x3, x4⟩ := (H.out.below (HB.out.mono hB)).at_ hlt
      have MB1 := Lib.hid (MB.out i)
      have N1 := Lib.hid (N.out i hlt)
      obtain ⟨t, ht⟩ : ∃ t, ts.getD i errQ = t := ⟨_, rfl⟩
      have HT := Lib.hid ht
      rw [ht] at x0 x1 x2 x3 x4 MB1 N1
      obtain ⟨tb, htb⟩ : ∃ tb, tokB t = tb := ⟨_, rfl⟩
      rw [htb] at MB1 N1
      have HTB := Lib.hid htb
      clear ht htb
      obtain ⟨kind, text, num, aa, to_⟩ := t
      simp only at x0 x1 x2 x3 x4
      have MB2 : Hid (∀ W, Calls Tryd.prog 35 #[.agg #[.int .i64 kind, tx text, .int .i64 num, .int .i64 (aa : Int), .int .i64 (to_ : Int)]] W fun e w' => e = .returned (.bool tb) ∧ Below W.heap.size W w') := MB1
      have AL : Below wr.heap.size wr (wr.alloc (.cells #[.int .i64 kind, tx text, .int .i64 num, .int .i64 (aa : Int), .int .i64 (to_ : Int)] 47)) := (Below.refl _ _).alloc (Nat.le_refl _) _
      have H2 := Lib.hid (HB.out.trans (AL.mono HB.out.size))
      have M3 := Lib.hid (MB2.out (wr.alloc (.cells #[.int .i64 kind, tx text, .int .i64 num, .int .i64 (aa : Int), .int .i64 (to_ : Int)] 47)))
      clear MB1 MB2 AL
      cases tb with
      | true =>
        have HA2 : Hid (∀ j, j < i + 1 → tokB (ts.getD j errQ) = true) := Lib.hid (fun j hj => by
          by_cases hji : j = i
          · subst hji; rw [HT.out]; exact HTB.out
          · exact HA.out j (by omega))
        go_wp2_with (go_at_call 35; refine M3.out.mono ?_; rintro e w3 ⟨rfl, hb⟩; have H3 := Lib.hid (H2.out.trans (hb.mono H2.out.size)); clear hb)
        go_roundw
        case rel => exact ⟨i + 1, by omega, by go_num, HA2, H3⟩
        case measure => simp [intOf]; omega
      | false =>
        have hR := Lib.hid (N1.out rfl)
        go_wp2_with (go_at_call 35; refine M3.out.mono ?_; rintro e w3 ⟨rfl, hb⟩; have H3 := Lib.hid (H2.out.trans (hb.mono H2.out.size)); clear hb)
        go_ret
        exact ⟨by rw [hR.out]; rfl, H3.out⟩
    · obtain rfl : i = n := by omega
      have hR := Lib.hid (Y.out HA.out)
      go_wp2_with fail
      go_ret
      exact ⟨by rw [hR.out]; rfl, HB.out⟩
end Go.Proofs.YtblcfjliabeaiaaDoor
