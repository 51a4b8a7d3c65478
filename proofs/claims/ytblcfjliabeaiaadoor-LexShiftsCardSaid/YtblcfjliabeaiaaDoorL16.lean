/-
  Tokens that may be, and tokens as a text: the program's Check and Print.
-/
import Derived.Test.YtblcfjliabeaiaaDoorL15
import Derived.Lib.ItoaLen
namespace Go.Proofs.YtblcfjliabeaiaaDoor
open Go.RowKit Go.Shelf

def chkF (ts : List Tq) : Int := if 300 < ts.length then 202 else if ts.all tokB = true then 0 else 202
/-- A token's parts are no larger than they can be. -/
structure TkOk (t : Tq) : Prop where
  len : t.text.length ≤ 400000
  n0 : -9223372036854775808 ≤ t.num
  n1 : t.num ≤ 9223372036854775807
theorem errQ_ok : TkOk errQ := ⟨by simp [errQ], by simp [errQ], by simp [errQ]⟩
theorem getD_ok {ts : List Tq} (h : ∀ t ∈ ts, TkOk t) (j : Nat) : TkOk (ts.getD j errQ) := by
  by_cases hj : j < ts.length
  · have : ts.getD j errQ = ts[j] := by simp [List.getD, hj]
    rw [this]
    exact h _ (List.getElem_mem hj)
  · have : ts.getD j errQ = errQ := by simp [List.getD, List.getElem?_eq_none (Nat.le_of_not_lt hj)]
    rw [this]
    exact errQ_ok
theorem all_getD {q : Tq → Bool} {ts : List Tq} (h : ∀ j, j < ts.length → q (ts.getD j errQ) = true) : ts.all q = true := by
  rw [List.all_eq_true]
  intro t ht
  obtain ⟨j, hj, rfl⟩ := List.getElem_of_mem ht
  have := h j hj
  simpa [List.getD, hj] using this
theorem all_no {q : Tq → Bool} {ts : List Tq} {j : Nat} (hj : j < ts.length) (h : q (ts.getD j errQ) = false) : ts.all q = false := by
  rw [Bool.eq_false_iff]
  intro ha
  rw [List.all_eq_true] at ha
  have := ha (ts[j]) (List.getElem_mem hj)
  have e : ts.getD j errQ = ts[j] := by simp [List.getD, hj]
  rw [e, this] at h
  cases h

set_option maxRecDepth 100000 in
set_option maxHeartbeats 4000000 in
theorem check_any (A : Option Addr) (n c B : Nat) (ts : List Tq) (w : World) (h : Trd w B A n ts) (hok : ∀ t ∈ ts, TkOk t) (hn : n ≤ 1000000) (hB : B ≤ w.heap.size) (hG : Gl w) :
    Calls Tryd.prog 10 #[.slice A n c] w fun e w' => e = .returned (.int .i64 (chkF ts)) ∧ Below w.heap.size w w' := by
  have hlen := h.len
  by_cases hlong : 300 < n
  · have hF : chkF ts = 202 := by unfold chkF; rw [if_pos (by omega)]
    rw [hF]
    have d1 : (300 : Int) < (n : Int) := by omega
    clear h hG hF
    go_enter Tryd.func10, Tryd.ntmps10
    go_wp2
    go_ret
    exact ⟨rfl, Below.refl _ _⟩
  · have d1 : decide ((300 : Int) < (n : Int)) = false := decide_eq_false (by omega)
    have Y : Hid ((∀ j, j < n → tokB (ts.getD j errQ) = true) → chkF ts = 0) := Lib.hid (fun ha => by unfold chkF; rw [if_neg (by omega), if_pos (all_getD (by rw [hlen]; exact ha))])
    have N : Hid (∀ j, j < n → tokB (ts.getD j errQ) = false → chkF ts = 202) := Lib.hid (fun j hj ha => by unfold chkF; rw [if_neg (by omega), if_neg (by rw [all_no (by omega) ha]; decide)])
    have MB := Lib.hid (fun j W hW => maybe_any (ts.getD j errQ) (Nat.le_trans (getD_ok hok j).len (by omega)) W hW)
    have H := Lib.hid h
    have GH := Lib.hid hG
    generalize chkF ts = R at *
    clear h hok hG hlen
    go_enter Tryd.func10, Tryd.ntmps10
    go_wp2
    go_loopw [10] (fun iv wr => ∃ i : Nat, i ≤ n ∧ iv = .int .i64 (i : Int) ∧ Hid (∀ j, j < i → tokB (ts.getD j errQ) = true) ∧ Hid (Below w.heap.size w wr)) (fun iv _ => n - (intOf iv).toNat)
    case atStart => exact ⟨0, Nat.zero_le _, rfl, Lib.hid (fun j hj => absurd hj (by omega)), Lib.hid (Below.refl _ _)⟩
    case round =>
      obtain ⟨i, hi, rfl, HA, HB⟩ := hrel
      by_cases hlt : i < n
      · have i0 : (0 : Int) ≤ (i : Int) := by omega
        have i1 : (i : Int) < (n : Int) := by omega
        obtain ⟨b, o, rfl, hbB, x0, x1, x2, x3, x4⟩ := (H.out.below (HB.out.mono hB)).at_ hlt
        have MB1 := Lib.hid (MB.out i)
        have N1 := Lib.hid (N.out i hlt)
        obtain ⟨t, ht⟩ : ∃ t, ts.getD i errQ = t := ⟨_, rfl⟩
        have HT := Lib.hid ht
        rw [ht] at x0 x1 x2 x3 x4 MB1 N1
        obtain ⟨tb, htb⟩ : ∃ tb, tokB t = tb := ⟨_, rfl⟩
        rw [htb] at MB1 N1
        have HTB := Lib.hid htb
        clear ht htb
        obtain ⟨kind, text, num, aa, to_⟩ := t
        simp only at x0 x1 x2 x3 x4
        have MB2 : Hid (∀ W, Gl W → Calls Tryd.prog 29 #[.agg #[.int .i64 kind, tx text, .int .i64 num, .int .i64 (aa : Int), .int .i64 (to_ : Int)]] W fun e w' => e = .returned (.bool tb) ∧ Below W.heap.size W w') := MB1
        have AL : Below wr.heap.size wr (wr.alloc (.cells #[.int .i64 kind, tx text, .int .i64 num, .int .i64 (aa : Int), .int .i64 (to_ : Int)] 47)) := (Below.refl _ _).alloc (Nat.le_refl _) _
        have H2 := Lib.hid (HB.out.trans (AL.mono HB.out.size))
        have M3 := Lib.hid (MB2.out _ (GH.out.on H2.out))
        clear MB1 MB2 AL
        cases tb with
        | true =>
          have HA2 : Hid (∀ j, j < i + 1 → tokB (ts.getD j errQ) = true) := Lib.hid (fun j hj => by
            by_cases hji : j = i
            · subst hji; rw [HT.out]; exact HTB.out
            · exact HA.out j (by omega))
          go_wp2_with (go_at_call 29; refine M3.out.mono ?_; rintro e w3 ⟨rfl, hb⟩; have H3 := Lib.hid (H2.out.trans (hb.mono H2.out.size)); clear hb)
          go_roundw
          case rel => exact ⟨i + 1, by omega, by go_num, HA2, H3⟩
          case measure => simp [intOf]; omega
        | false =>
          have hR := Lib.hid (N1.out rfl)
          go_wp2_with (go_at_call 29; refine M3.out.mono ?_; rintro e w3 ⟨rfl, hb⟩; have H3 := Lib.hid (H2.out.trans (hb.mono H2.out.size)); clear hb)
          go_ret
          exact ⟨by rw [hR.out]; rfl, H3.out⟩
      · obtain rfl : i = n := by omega
        have hR := Lib.hid (Y.out HA.out)
        go_wp2_with fail
        go_ret
        exact ⟨by rw [hR.out]; rfl, HB.out⟩
end Go.Proofs.YtblcfjliabeaiaaDoor
