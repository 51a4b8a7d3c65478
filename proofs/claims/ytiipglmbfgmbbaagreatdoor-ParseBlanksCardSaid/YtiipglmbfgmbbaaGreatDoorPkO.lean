/-
  Several texts in one: L13, L14, L15, L16.
-/
import Derived.Test.YtiipglmbfgmbbaaGreatDoorL12
import Derived.Lib.AppendIntMem
import Derived.Lib.ItoaLen
namespace Go.Proofs.YtiipglmbfgmbbaaGreatDoor
open Go.RowKit Go.Shelf

/-- Is it a word? -/
def wordB : List UInt8 → Bool
  | [] => false
  | b :: r => letB (b.toNat : Int) && (((runE innB (b :: r) 0 : Nat) : Int) == (((b :: r).length : Nat) : Int))
/-- Is it a name? -/
def nameB (l : List UInt8) : Bool := wordB l && ((keyF l).isNone && decide ((l.length : Int) ≤ 24))

set_option maxRecDepth 100000 in
set_option maxHeartbeats 4000000 in
theorem isword_any (l : List UInt8) (hl : l.length ≤ 1000000) (w : World) : Calls Tryz.prog 132 #[tx l] w fun e w' => e = .returned (.bool (wordB l)) ∧ Below w.heap.size w w' := by
  cases l with
  | nil =>
    go_enter Tryz.func132, Tryz.ntmps132
    go_wp2
    go_ret
    exact ⟨rfl, Below.refl _ _⟩
  | cons b r =>
    have hs : ((⟨(b :: r).toArray⟩ : ByteArray) == ⟨#[]⟩) = false := by first | rfl | kernel_rfl
    have hs2 : ((⟨(b :: r).toArray⟩ : ByteArray) != ⟨#[]⟩) = true := by first | rfl | kernel_rfl
    have LT := Lib.hid (fun W => letter_any ((b.toNat : Nat) : Int) (by omega) (by have := b.toNat_lt; omega) W)
    have RU := Lib.hid (fun W => run54_any (b :: r) 0 hl (Nat.zero_le _) W)
    have e0 : wordB (b :: r) = (letB (b.toNat : Int) && (((runE innB (b :: r) 0 : Nat) : Int) == (((b :: r).length : Nat) : Int))) := rfl
    rw [e0]
    generalize runE innB (b :: r) 0 = R at *
    cases hb : letB (b.toNat : Int) with
    | false =>
      rw [hb] at LT
      clear e0 hb
      go_enter Tryz.func132, Tryz.ntmps132
      go_wp2_with (go_at_call 90; refine (LT.out _).mono ?_; rintro e w' ⟨rfl, rfl⟩)
      go_ret
      exact ⟨rfl, Below.refl _ _⟩
    | true =>
      rw [hb] at LT
      clear e0 hb
      go_enter Tryz.func132, Tryz.ntmps132
      go_wp2_with (first
        | (go_at_call 90; refine (LT.out _).mono ?_; rintro e w' ⟨rfl, rfl⟩)
        | (go_at_call 99; refine (RU.out _).mono ?_; rintro e w2 ⟨rfl, hb⟩; have B2 := Lib.hid hb; clear hb))
      go_ret
      exact ⟨by simp, B2.out⟩

set_option maxRecDepth 100000 in
set_option maxHeartbeats 4000000 in
theorem lname_any (l : List UInt8) (hl : l.length ≤ 1000000) (w : World) (hG : Gl w) : Calls Tryz.prog 98 #[tx l] w fun e w' => e = .returned (.bool (nameB l)) ∧ Below w.heap.size w w' := by
  have KY := Lib.hid (key_any l hl w hG)
  have IW := Lib.hid (fun W => isword_any l hl W)
  unfold nameB
  clear hG
  cases hk : keyF l with
  | some k =>
    have KR : keyR l = .tuple #[tx k, .bool true] := by unfold keyR; rw [hk]
    rw [KR] at KY
    clear hk KR
    cases hw : wordB l with
    | false =>
      rw [hw] at IW
      go_enter Tryz.func98, Tryz.ntmps98
      go_wp2_with (first
        | (go_at_call 97; refine KY.out.mono ?_; rintro e w1 ⟨rfl, hb⟩; have B1 := Lib.hid hb; clear hb)
        | (go_at_call 132; refine (IW.out _).mono ?_; rintro e w2 ⟨rfl, hb⟩; have B2 := Lib.hid (B1.out.trans (hb.mono B1.out.size)); clear hb))
      go_ret
      exact ⟨by simp, B2.out⟩
    | true =>
      rw [hw] at IW
      go_enter Tryz.func98, Tryz.ntmps98
      go_wp2_with (first
        | (go_at_call 97; refine KY.out.mono ?_; rintro e w1 ⟨rfl, hb⟩; have B1 := Lib.hid hb; clear hb)
        | (go_at_call 132; refine (IW.out _).mono ?_; rintro e w2 ⟨rfl, hb⟩; have B2 := Lib.hid (B1.out.trans (hb.mono B1.out.size)); clear hb))
      go_ret
      exact ⟨by simp, B2.out⟩
  | none =>
    have KR : keyR l = .tuple #[tx [], .bool false] := by unfold keyR; rw [hk]
    rw [KR] at KY
    clear hk KR
    cases hw : wordB l with
    | false =>
      rw [hw] at IW
      go_enter Tryz.func98, Tryz.ntmps98
      go_wp2_with (first
        | (go_at_call 97; refine KY.out.mono ?_; rintro e w1 ⟨rfl, hb⟩; have B1 := Lib.hid hb; clear hb)
        | (go_at_call 132; refine (IW.out _).mono ?_; rintro e w2 ⟨rfl, hb⟩; have B2 := Lib.hid (B1.out.trans (hb.mono B1.out.size)); clear hb))
      go_ret
      exact ⟨by simp, B2.out⟩
    | true =>
      rw [hw] at IW
      go_enter Tryz.func98, Tryz.ntmps98
      go_wp2_with (first
        | (go_at_call 97; refine KY.out.mono ?_; rintro e w1 ⟨rfl, hb⟩; have B1 := Lib.hid hb; clear hb)
        | (go_at_call 132; refine (IW.out _).mono ?_; rintro e w2 ⟨rfl, hb⟩; have B2 := Lib.hid (B1.out.trans (hb.mono B1.out.size)); clear hb))
      go_ret
      exact ⟨by simp, B2.out⟩

/-- A text with its signs doubled. -/
def dbl : List UInt8 → List UInt8
  | [] => []
  | b :: r => if ((b.toNat : Int) == 39) = true then b :: b :: dbl r else b :: dbl r
def quoteF (l : List UInt8) : List UInt8 := 39 :: dbl l ++ [39]
theorem dbl_len : ∀ l : List UInt8, (dbl l).length ≤ 2 * l.length
  | [] => Nat.le_refl _
  | b :: r => by have := dbl_len r; unfold dbl; split <;> simp <;> omega
theorem dbl_append : ∀ a b : List UInt8, dbl (a ++ b) = dbl a ++ dbl b
  | [], _ => rfl
  | x :: a, b => by
    simp only [List.cons_append, dbl, dbl_append a b]
    split <;> simp
theorem bput_any (g : Nat) (sd : List UInt8) (b : UInt8) (W : World) (h : Lib.IsBuilder 80 5 g g (Lib.byteCells sd) W) (hlen : sd.length ≤ 1000000) (hB : g ≤ W.heap.size) :
    Calls Tryz.prog 33 #[.pointer (some ⟨g, 0, none⟩), .int .u8 ((b.toNat : Nat) : Int)] W fun e w' => e = .returned .nilIface ∧ Lib.IsBuilder 80 5 g g (Lib.byteCells (sd ++ [b])) w' ∧ Below g W w' := by
  refine (bbyte_any g g (Lib.byteCells sd) ((b.toNat : Nat) : Int) W h (by rw [Lib.byteCells_length]; exact hlen) hB).mono ?_
  rintro e w' ⟨rfl, h1, h2, _⟩
  refine ⟨rfl, ?_, h2⟩
  rw [Lib.byteCells_append]
  exact h1

set_option maxRecDepth 100000 in
set_option maxHeartbeats 4000000 in
theorem quote_any (l : List UInt8) (hl : l.length ≤ 400000) (w : World) : Calls Tryz.prog 65 #[tx l] w fun e w' => e = .returned (tx (quoteF l)) ∧ Below w.heap.size w w' := by
  obtain ⟨g, hg⟩ : ∃ g, w.heap.size = g := ⟨_, rfl⟩
  have BP := Lib.hid (fun sd b W h hl2 hB => bput_any g sd b W h hl2 hB)
  have BS := Lib.hid (fun sd W h hB => bstr_any g g sd W h hB)
  have q0 : Lib.IsBuilder 80 5 g g (Lib.byteCells []) (w.alloc (.cells #[.pointer none, .slice none 0 0] 80)) := by rw [← hg]; exact Lib.fresh_isBuilder 80 5 w
  have h0 : Below g w (w.alloc (.cells #[.pointer none, .slice none 0 0] 80)) := by rw [← hg]; exact (Below.refl _ _).alloc (Nat.le_refl _) _
  have s0 : g ≤ (w.alloc (.cells #[.pointer none, .slice none 0 0] 80)).heap.size := by simp [hg]
  have P0 := Lib.hid (BP.out [] 39 _ q0 (by simp) s0)
  have H0 := Lib.hid h0
  clear q0 h0 s0
  rw [show (((39 : UInt8).toNat : Nat) : Int) = 39 from rfl] at P0
  rw [show ([] : List UInt8) ++ [39] = 39 :: dbl (l.take 0) from rfl] at P0
  go_enter Tryz.func65, Tryz.ntmps65
  go_upto_region 4 with (go_at_call 33; refine P0.out.mono ?_; rintro e w1 ⟨rfl, hq, hb⟩; have Q1 := Lib.hid hq; have H1 := Lib.hid (H0.out.trans hb); clear hq hb P0 H0)
  go_loopw [8] (fun iv wr => ∃ i : Nat, i ≤ l.length ∧ iv = .int .i64 (i : Int) ∧ Hid (Lib.IsBuilder 80 5 g g (Lib.byteCells (39 :: dbl (l.take i))) wr) ∧ Hid (Below g w wr)) (fun iv _ => l.length - (intOf iv).toNat)
  case atStart => exact ⟨0, Nat.zero_le _, rfl, Q1, H1⟩
  case round =>
    obtain ⟨i, hi, rfl, QI, HI⟩ := hrel
    have gs : g ≤ wr.heap.size := by have := HI.out.size; omega
    clear Q1 H1
    by_cases hlt : i < l.length
    · have e1 := bt_of hlt
      have i0 : (0 : Int) ≤ (i : Int) := by omega
      have i1 : (i : Int) < (l.length : Int) := by omega
      have eb : (((⟨l.toArray⟩ : ByteArray)[i]'(by simpa [ByteArray.size] using hlt))) = l[i] := rfl
      have dl : (39 :: dbl (l.take i)).length ≤ 800001 := by have := dbl_len (l.take i); rw [List.length_take] at this; simp only [List.length_cons]; omega
      have dt : dbl (l.take (i + 1)) = dbl (l.take i) ++ dbl [l[i]] := by rw [List.take_succ_eq_append_getElem hlt, dbl_append]
      have P1 := Lib.hid (BP.out _ l[i] wr QI.out (by omega) gs)
      generalize l[i] = b at *
      by_cases hb : ((b.toNat : Int) == 39) = true
      · have hb39 : b = 39 := by
          have : (b.toNat : Int) = 39 := by simpa using hb
          exact UInt8.toNat_inj.1 (by show b.toNat = 39; omega)
        subst hb39
        have c1 : ((((⟨l.toArray⟩ : ByteArray)[i]'(by simpa [ByteArray.size] using hlt)).toNat : Int) == 39) = true := by rw [eb]; rfl
        have c2 : (((⟨l.toArray⟩ : ByteArray)[i]'(by simpa [ByteArray.size] using hlt)).toNat : Int) = 39 := by rw [eb]; rfl
        rw [show (((39 : UInt8).toNat : Nat) : Int) = 39 from rfl] at P1
        have dt2 : Hid (39 :: dbl (l.take (i + 1)) = (39 :: dbl (l.take i)) ++ [39] ++ [39]) := Lib.hid (by rw [dt]; simp [dbl])
        have P2 := Lib.hid (fun W h hB => BP.out (39 :: dbl (l.take i) ++ [39]) 39 W h (by rw [List.length_append]; simp only [List.length_cons, List.length_nil] at *; omega) hB)
        rw [show (((39 : UInt8).toNat : Nat) : Int) = 39 from rfl] at P2
        clear e1 eb dt hb
        go_upto_region 8 with (go_at_call 33; refine P1.out.mono ?_; rintro e w2 ⟨rfl, hq, hb⟩; have Q2 := Lib.hid hq; have H2 := Lib.hid (HI.out.trans hb); have g2 : g ≤ w2.heap.size := (by have := hb.size; omega); clear hq hb)
        go_wp2_with (go_at_call 33; refine (P2.out _ Q2.out g2).mono ?_; rintro e w3 ⟨rfl, hq, hb⟩; have Q3 := Lib.hid hq; have H3 := Lib.hid (H2.out.trans hb); clear hq hb)
        go_roundw
        case rel => exact ⟨i + 1, by omega, by go_num, Lib.hid (by rw [dt2.out]; exact Q3.out), H3⟩
        case measure => simp [intOf]; omega
      · have hbf : ((b.toNat : Int) == 39) = false := Bool.eq_false_iff.2 hb
        have c1 : ((((⟨l.toArray⟩ : ByteArray)[i]'(by simpa [ByteArray.size] using hlt)).toNat : Int) == 39) = false := by rw [eb]; exact hbf
        have dt2 : Hid (39 :: dbl (l.take (i + 1)) = (39 :: dbl (l.take i)) ++ [b]) := Lib.hid (by rw [dt]; simp [dbl, hbf])
        rw [← eb] at P1
        rw [eb] at P1
        have P2 : Hid (Calls Tryz.prog 33 #[.pointer (some ⟨g, 0, none⟩), .int .u8 ((((⟨l.toArray⟩ : ByteArray)[i]'(by simpa [ByteArray.size] using hlt)).toNat : Nat) : Int)] wr fun e w' => e = .returned .nilIface ∧ Lib.IsBuilder 80 5 g g (Lib.byteCells ((39 :: dbl (l.take i)) ++ [b])) w' ∧ Below g wr w') := Lib.hid (by rw [eb]; exact P1.out)
        clear e1 eb dt hb P1
        go_wp2_with (go_at_call 33; refine P2.out.mono ?_; rintro e w3 ⟨rfl, hq, hb⟩; have Q3 := Lib.hid hq; have H3 := Lib.hid (HI.out.trans hb); clear hq hb)
        go_roundw
        case rel => exact ⟨i + 1, by omega, by go_num, Lib.hid (by rw [dt2.out]; exact Q3.out), H3⟩
        case measure => simp [intOf]; omega
    · obtain rfl : i = l.length := by omega
      have dl : (39 :: dbl l).length ≤ 800001 := by have := dbl_len l; simp only [List.length_cons]; omega
      rw [List.take_length] at QI
      have P3 := Lib.hid (BP.out _ 39 wr QI.out (by omega) gs)
      rw [show (((39 : UInt8).toNat : Nat) : Int) = 39 from rfl] at P3
      go_upto_region 11 with (go_at_call 33; refine P3.out.mono ?_; rintro e w2 ⟨rfl, hq, hb⟩; have Q2 := Lib.hid hq; have H2 := Lib.hid (HI.out.trans hb); have g2 : g ≤ w2.heap.size := (by have := hb.size; omega); clear hq hb)
      have P4 := Lib.hid (BS.out _ _ Q2.out g2)
      go_wp2_with (go_at_call 30; refine P4.out.mono ?_; rintro e w3 ⟨rfl, hb, _⟩; have H3 := Lib.hid (H2.out.trans hb); clear hb)
      go_ret
      exact ⟨rfl, by first | exact H3.out | (rw [hg]; exact H3.out)⟩
end Go.Proofs.YtiipglmbfgmbbaaGreatDoor

namespace Go.Proofs.YtiipglmbfgmbbaaGreatDoor
open Go.RowKit Go.Shelf

theorem ba_beq (a b : List UInt8) : ((⟨a.toArray⟩ : ByteArray) == ⟨b.toArray⟩) = (a == b) := by
  show (a.toArray == b.toArray) = (a == b)
  simp
/-- A token as it may be given: its places may be any. -/
structure Tq where
  kind : Int
  text : List UInt8
  num : Int
  at_ : Int
  to_ : Int
def Tq.cells (t : Tq) : List Value := [.int .i64 t.kind, tx t.text, .int .i64 t.num, .int .i64 t.at_, .int .i64 t.to_]
def tqV (t : Tq) : Value := .agg t.cells.toArray
def errQ : Tq := ⟨0, [], 0, 0, 0⟩
def Tk.q (t : Tk) : Tq := ⟨t.kind, t.text, t.num, (t.at_ : Int), (t.to_ : Int)⟩
/-- Which tokens may be. -/
def tokB (t : Tq) : Bool :=
  if (t.num != 0) = true ∧ (t.kind != 3) = true then false
  else if (t.kind == 1) = true then (match keyF t.text with | some k => t.text == k | none => false)
  else if (t.kind == 2) = true then nameB t.text
  else if (t.kind == 3) = true then (t.text == []) && decide (0 ≤ t.num)
  else if (t.kind == 4) = true then decide ((t.text.length : Int) ≤ 64) && (((runE plnB t.text 0 : Nat) : Int) == (t.text.length : Int))
  else if (t.kind == 5) = true then decide (0 < ((sgnN t.text : Nat) : Int)) && (((sgnN t.text : Nat) : Int) == (t.text.length : Int))
  else false
/-- A token's text. -/
def txtF (t : Tq) : List UInt8 := if (t.kind == 3) = true then Lib.itoa t.num else if (t.kind == 4) = true then quoteF t.text else t.text

set_option maxRecDepth 100000 in
set_option maxHeartbeats 8000000 in
theorem maybe_any (t : Tq) (hl : t.text.length ≤ 1000000) (w : World) (hG : Gl w) : Calls Tryz.prog 62 #[tqV t] w fun e w' => e = .returned (.bool (tokB t)) ∧ Below w.heap.size w w' := by
  obtain ⟨kind, text, num, aa, to_⟩ := t
  obtain ⟨g, hg⟩ : ∃ g, w.heap.size = g := ⟨_, rfl⟩
  obtain ⟨w1, hw1⟩ : ∃ w1, w.alloc (.cells #[.int .i64 kind, tx text, .int .i64 num, .int .i64 (aa : Int), .int .i64 (to_ : Int)] 50) = w1 := ⟨_, rfl⟩
  have hb0 : Blk w1 g 50 #[.int .i64 kind, tx text, .int .i64 num, .int .i64 (aa : Int), .int .i64 (to_ : Int)] := by rw [← hw1, ← hg]; exact Blk.new _ _ _
  have b1 : Below g w w1 := by rw [← hw1, ← hg]; exact (Below.refl _ _).alloc (Nat.le_refl _) _
  have gl1 : Gl w1 := hG.below b1 (by rw [← hg]; exact hG.lt)
  have g1 : g < w1.heap.size := hb0.lt
  have HG := Lib.hid hg
  clear hG
  show Calls Tryz.prog 62 #[.agg #[.int .i64 kind, tx text, .int .i64 num, .int .i64 (aa : Int), .int .i64 (to_ : Int)]] w _
  rw [hg]
  simp only at hl
  have KY := Lib.hid (fun W hW => key_any text hl W hW)
  have NM := Lib.hid (fun W hW => lname_any text hl W hW)
  have RU := Lib.hid (fun W => run47_any text 0 hl (Nat.zero_le _) W)
  have SG := Lib.hid (fun W => sign_any text W)
  have BQ := Lib.hid (fun b => ba_beq text b)
  unfold tokB
  simp only
  cases hn : (num != 0) with
  | true =>
    cases h3 : (kind != 3) with
    | true =>
      rw [if_pos ⟨rfl, rfl⟩]
      subst hw1
      go_enter Tryz.func62, Tryz.ntmps62
      go_wp2
      go_ret
      exact ⟨rfl, by first | exact b1 | (rw [HG.out] at b1; exact b1)⟩
    | false =>
      have hk3 : kind = 3 := by simpa using h3
      subst hk3
      rw [if_neg (fun h => by cases h.2), if_neg (by decide), if_neg (by decide), if_pos (show ((3 : Int) == 3) = true from rfl)]
      subst hw1
      clear KY NM RU SG BQ
      cases text with
      | nil =>
        by_cases hnn : 0 ≤ num
        · have dn : decide (0 ≤ num) = true := decide_eq_true hnn
          rw [dn]
          go_enter Tryz.func62, Tryz.ntmps62
          go_wp2
          go_ret
          exact ⟨rfl, b1⟩
        · have dn : decide (0 ≤ num) = false := decide_eq_false hnn
          rw [dn]
          go_enter Tryz.func62, Tryz.ntmps62
          go_wp2
          go_ret
          exact ⟨rfl, b1⟩
      | cons x r =>
        have hs : ((⟨(x :: r).toArray⟩ : ByteArray) == ⟨#[]⟩) = false := by first | rfl | kernel_rfl
        go_enter Tryz.func62, Tryz.ntmps62
        go_wp2
        go_ret
        exact ⟨by simp, b1⟩
  | false =>
    rw [if_neg (fun h => by cases h.1)]
    by_cases k1 : kind = 1
    · subst k1
      rw [if_pos (show ((1 : Int) == 1) = true from rfl)]
      cases hk : keyF text with
      | some k =>
        have KR : keyR text = .tuple #[tx k, .bool true] := by unfold keyR; rw [hk]
        rw [KR] at KY
        have be := BQ.out k
        clear hk KR
        simp only
        clear be
        subst hw1
        go_enter Tryz.func62, Tryz.ntmps62
        go_wp2_with (go_at_call 97; refine (KY.out _ gl1).mono ?_; rintro e w2 ⟨rfl, hb⟩; have B2 := Lib.hid (Below.trans b1 (hb.mono (by omega))); have e2 : w2.cell? ⟨g, 1, none⟩ = some (.string ⟨text.toArray⟩) := (hb0.below hb hb0.lt).cell 1; clear hb)
        go_ret
        exact ⟨by simp [ba_beq], B2.out⟩
      | none =>
        have KR : keyR text = .tuple #[tx [], .bool false] := by unfold keyR; rw [hk]
        rw [KR] at KY
        clear hk KR
        simp only
        subst hw1
        go_enter Tryz.func62, Tryz.ntmps62
        go_wp2_with (go_at_call 97; refine (KY.out _ gl1).mono ?_; rintro e w2 ⟨rfl, hb⟩; have B2 := Lib.hid (Below.trans b1 (hb.mono (by omega))); have e2 : w2.cell? ⟨g, 1, none⟩ = some (.string ⟨text.toArray⟩) := (hb0.below hb hb0.lt).cell 1; clear hb)
        go_ret
        exact ⟨by simp, B2.out⟩
    · have k1f : (kind == 1) = false := by simpa using k1
      rw [if_neg (by rw [k1f]; decide)]
      by_cases k2 : kind = 2
      · subst k2
        rw [if_pos (show ((2 : Int) == 2) = true from rfl)]
        subst hw1
        go_enter Tryz.func62, Tryz.ntmps62
        go_wp2_with (go_at_call 98; refine (NM.out _ gl1).mono ?_; rintro e w2 ⟨rfl, hb⟩; have B2 := Lib.hid (Below.trans b1 (hb.mono (by omega))); clear hb)
        go_ret
        exact ⟨by simp, B2.out⟩
      · have k2f : (kind == 2) = false := by simpa using k2
        rw [if_neg (by rw [k2f]; decide)]
        by_cases k3 : kind = 3
        · subst k3
          rw [if_pos (show ((3 : Int) == 3) = true from rfl)]
          subst hw1
          clear KY NM RU SG BQ
          cases text with
          | nil =>
            by_cases hnn : 0 ≤ num
            · have dn : decide (0 ≤ num) = true := decide_eq_true hnn
              rw [dn]
              go_enter Tryz.func62, Tryz.ntmps62
              go_wp2
              go_ret
              exact ⟨rfl, b1⟩
            · have dn : decide (0 ≤ num) = false := decide_eq_false hnn
              rw [dn]
              go_enter Tryz.func62, Tryz.ntmps62
              go_wp2
              go_ret
              exact ⟨rfl, b1⟩
          | cons x r =>
            have hs : ((⟨(x :: r).toArray⟩ : ByteArray) == ⟨#[]⟩) = false := by first | rfl | kernel_rfl
            go_enter Tryz.func62, Tryz.ntmps62
            go_wp2
            go_ret
            exact ⟨by simp, b1⟩
        · have k3f : (kind == 3) = false := by simpa using k3
          rw [if_neg (by rw [k3f]; decide)]
          by_cases k4 : kind = 4
          · subst k4
            rw [if_pos (show ((4 : Int) == 4) = true from rfl)]
            have e1 : w1.cell? ⟨g, 1, none⟩ = some (.string ⟨text.toArray⟩) := hb0.cell 1
            have e1d : w1.drew.cell? ⟨g, 1, none⟩ = some (.string ⟨text.toArray⟩) := hb0.cell 1
            have b1 : Below g w w1.drew := b1.drew
            have hb0 : Blk w1.drew g 50 #[.int .i64 4, tx text, .int .i64 num, .int .i64 (aa : Int), .int .i64 (to_ : Int)] := hb0
            have g1 : g < w1.drew.heap.size := g1
            generalize hRR : runE plnB text 0 = RR at *
            subst hw1
            by_cases h64 : text.length ≤ 64
            · have d64 : decide ((text.length : Int) ≤ 64) = true := decide_eq_true (by omega)
              rw [d64]
              go_enter Tryz.func62, Tryz.ntmps62
              go_upto_region 12 with fail
              refine wp_region_noPanic ?_
              refine wp_region_held_drew (S := fun w' => w'.cell? ⟨g, 1, none⟩ = some (.string ⟨text.toArray⟩)) (by kernel_rfl) e1d (fun hHeld => ?_)
              refine take_d (i := 0) (d := 48) (v := ?v48) rfl rfl (by kernel_rfl) (by kernel_rfl) (by kernel_rfl) (fun _ _ _ h => h) (Or.inl ⟨by kernel_rfl, ?v48h⟩) hHeld ?v48n
              case v48h => (intro w hSw; (try dsimp only at hSw); go_split_ands; go_simp; (try exact rfl))
              try simp only [Act.put, List.setIfInBounds_toArray, List.set_cons_zero, List.set_cons_succ]
              refine take_d (i := 1) (d := 49) (v := ?v49) rfl rfl (by kernel_rfl) (by kernel_rfl) (by kernel_rfl) (fun _ _ _ h => h) (Or.inl ⟨by kernel_rfl, ?v49h⟩) hHeld ?v49n
              case v49h => (intro w hSw; (try dsimp only at hSw); go_split_ands; go_simp; (try exact rfl))
              try simp only [Act.put, List.setIfInBounds_toArray, List.set_cons_zero, List.set_cons_succ]
              refine take_d (i := 2) (d := 50) (v := ?v50) rfl rfl (by kernel_rfl) (by kernel_rfl) (by kernel_rfl) (fun _ _ _ h => h) (Or.inl ⟨by kernel_rfl, ?v50h⟩) hHeld ?v50n
              case v50h => (intro w hSw; (try dsimp only at hSw); go_split_ands; go_simp; (try exact rfl))
              try simp only [Act.put, List.setIfInBounds_toArray, List.set_cons_zero, List.set_cons_succ]
              refine take_d (i := 3) (d := 51) (v := .bool true) rfl rfl (by kernel_rfl) (by kernel_rfl) (by kernel_rfl) (fun _ _ _ h => h) (Or.inl ⟨by kernel_rfl, ?v51h⟩) hHeld ?_
              case v51h => (intro w hSw; (try dsimp only at hSw); go_split_ands; go_simp)
              try simp only [Act.put, List.setIfInBounds_toArray, List.set_cons_zero, List.set_cons_succ]
              refine take_d (i := 4) (d := 52) (v := .bool true) rfl rfl (by kernel_rfl) (by kernel_rfl) (by kernel_rfl) (fun _ _ _ h => h) (Or.inl ⟨by kernel_rfl, ?v52h⟩) hHeld ?_
              case v52h => (intro w hSw; (try dsimp only at hSw); go_split_ands; go_simp)
              try simp only [Act.put, List.setIfInBounds_toArray, List.set_cons_zero, List.set_cons_succ]
              refine take_d (i := 5) (d := 53) (v := ?v53) rfl rfl (by kernel_rfl) (by kernel_rfl) (by kernel_rfl) (fun _ _ _ h => h) (Or.inl ⟨by kernel_rfl, ?v53h⟩) hHeld ?v53n
              case v53h => (intro w hSw; (try dsimp only at hSw); go_split_ands; go_simp; (try exact rfl))
              try simp only [Act.put, List.setIfInBounds_toArray, List.set_cons_zero, List.set_cons_succ]
              refine take_d (i := 6) (d := 54) (v := ?v54) rfl rfl (by kernel_rfl) (by kernel_rfl) (by kernel_rfl) (fun _ _ _ h => h) (Or.inl ⟨by kernel_rfl, ?v54h⟩) hHeld ?v54n
              case v54h => (intro w hSw; (try dsimp only at hSw); go_split_ands; go_simp; (try exact rfl))
              try simp only [Act.put, List.setIfInBounds_toArray, List.set_cons_zero, List.set_cons_succ]
              refine take_d (i := 8) (d := 56) (v := ?v56) rfl rfl (by kernel_rfl) (by kernel_rfl) (by kernel_rfl) (fun _ _ _ h => h) (Or.inl ⟨by kernel_rfl, ?v56h⟩) hHeld ?v56n
              case v56h => (intro w hSw; (try dsimp only at hSw); go_split_ands; go_simp; (try exact rfl))
              try simp only [Act.put, List.setIfInBounds_toArray, List.set_cons_zero, List.set_cons_succ]
              refine take_d (i := 9) (d := 57) (v := ?v57) rfl rfl (by kernel_rfl) (by kernel_rfl) (by kernel_rfl) (fun _ _ _ h => h) (Or.inl ⟨by kernel_rfl, ?v57h⟩) hHeld ?v57n
              case v57h => (intro w hSw; (try dsimp only at hSw); go_split_ands; go_simp; (try exact rfl))
              try simp only [Act.put, List.setIfInBounds_toArray, List.set_cons_zero, List.set_cons_succ]
              refine take_d (i := 10) (d := 58) (v := ?v58) rfl rfl (by kernel_rfl) (by kernel_rfl) (by kernel_rfl) (fun _ _ _ h => h) (Or.inl ⟨by kernel_rfl, ?v58h⟩) hHeld ?v58n
              case v58h => (intro w hSw; (try dsimp only at hSw); go_split_ands; go_simp; (try exact rfl))
              try simp only [Act.put, List.setIfInBounds_toArray, List.set_cons_zero, List.set_cons_succ]
              refine wpAnyH_ready (rs := [7]) (by kernel_rfl) (by simp) ?_
              refine AllReadyH.cons rfl (fun K hK => ?_) AllReadyH.nil
              go_simp
              refine (RU.out _).mono ?_
              rintro e w2 ⟨rfl, hb⟩
              have B2 := Lib.hid (Below.trans b1 (hb.mono (by omega)))
              have e2 : w2.cell? ⟨g, 1, none⟩ = some (.string ⟨text.toArray⟩) := (hb0.below hb hb0.lt).cell 1
              clear hb
              refine hK.out _ _ (e2) (fun hHeld => ?_)
              clear hK K
              try simp only [Act.put, List.setIfInBounds_toArray, List.set_cons_zero, List.set_cons_succ]
              refine take_d (i := 11) (d := 59) (v := ?v59) rfl rfl (by kernel_rfl) (by kernel_rfl) (by kernel_rfl) (fun _ _ _ h => h) (Or.inl ⟨by kernel_rfl, ?v59h⟩) hHeld ?v59n
              case v59h => (intro w hSw; (try dsimp only at hSw); go_split_ands; go_simp; (try exact rfl))
              try simp only [Act.put, List.setIfInBounds_toArray, List.set_cons_zero, List.set_cons_succ]
              refine take_d (i := 12) (d := 60) (v := ?v60) rfl rfl (by kernel_rfl) (by kernel_rfl) (by kernel_rfl) (fun _ _ _ h => h) (Or.inl ⟨by kernel_rfl, ?v60h⟩) hHeld ?v60n
              case v60h => (intro w hSw; (try dsimp only at hSw); go_split_ands; go_simp; (try exact rfl))
              try simp only [Act.put, List.setIfInBounds_toArray, List.set_cons_zero, List.set_cons_succ]
              refine take_d (i := 13) (d := 2) (v := ?v2) rfl rfl (by kernel_rfl) (by kernel_rfl) (by kernel_rfl) (fun _ _ _ h => h) (Or.inl ⟨by kernel_rfl, ?v2h⟩) hHeld ?v2n
              case v2h => (intro w hSw; (try dsimp only at hSw); go_split_ands; go_simp; (try exact rfl))
              try simp only [Act.put, List.setIfInBounds_toArray, List.set_cons_zero, List.set_cons_succ]
              refine wpAnyH_done (by kernel_rfl) ?_ _
              refine NoPanic.normal ?_
              go_wp2_with fail
              go_ret
              exact ⟨by simp, B2.out⟩
            · have d64 : decide ((text.length : Int) ≤ 64) = false := decide_eq_false (by omega)
              rw [d64]
              go_enter Tryz.func62, Tryz.ntmps62
              go_upto_region 12 with fail
              refine wp_region_noPanic ?_
              refine wp_region_held_drew (S := fun w' => w'.cell? ⟨g, 1, none⟩ = some (.string ⟨text.toArray⟩)) (by kernel_rfl) e1d (fun hHeld => ?_)
              refine take_d (i := 0) (d := 48) (v := ?u48) rfl rfl (by kernel_rfl) (by kernel_rfl) (by kernel_rfl) (fun _ _ _ h => h) (Or.inl ⟨by kernel_rfl, ?u48h⟩) hHeld ?u48n
              case u48h => (intro w hSw; (try dsimp only at hSw); go_split_ands; go_simp; (try exact rfl))
              try simp only [Act.put, List.setIfInBounds_toArray, List.set_cons_zero, List.set_cons_succ]
              refine take_d (i := 1) (d := 49) (v := ?u49) rfl rfl (by kernel_rfl) (by kernel_rfl) (by kernel_rfl) (fun _ _ _ h => h) (Or.inl ⟨by kernel_rfl, ?u49h⟩) hHeld ?u49n
              case u49h => (intro w hSw; (try dsimp only at hSw); go_split_ands; go_simp; (try exact rfl))
              try simp only [Act.put, List.setIfInBounds_toArray, List.set_cons_zero, List.set_cons_succ]
              refine take_d (i := 2) (d := 50) (v := ?u50) rfl rfl (by kernel_rfl) (by kernel_rfl) (by kernel_rfl) (fun _ _ _ h => h) (Or.inl ⟨by kernel_rfl, ?u50h⟩) hHeld ?u50n
              case u50h => (intro w hSw; (try dsimp only at hSw); go_split_ands; go_simp; (try exact rfl))
              try simp only [Act.put, List.setIfInBounds_toArray, List.set_cons_zero, List.set_cons_succ]
              refine take_d (i := 3) (d := 51) (v := .bool false) rfl rfl (by kernel_rfl) (by kernel_rfl) (by kernel_rfl) (fun _ _ _ h => h) (Or.inl ⟨by kernel_rfl, ?u51h⟩) hHeld ?_
              case u51h => (intro w hSw; (try dsimp only at hSw); go_split_ands; go_simp)
              try simp only [Act.put, List.setIfInBounds_toArray, List.set_cons_zero, List.set_cons_succ]
              refine take_d (i := 4) (d := 52) (v := .bool false) rfl rfl (by kernel_rfl) (by kernel_rfl) (by kernel_rfl) (fun _ _ _ h => h) (Or.inl ⟨by kernel_rfl, ?u52h⟩) hHeld ?_
              case u52h => (intro w hSw; (try dsimp only at hSw); go_split_ands; go_simp)
              try simp only [Act.put, List.setIfInBounds_toArray, List.set_cons_zero, List.set_cons_succ]
              refine take_d (i := 5) (d := 53) (v := undef) rfl rfl (by kernel_rfl) (by kernel_rfl) (by kernel_rfl) (fun _ _ _ h => h) (Or.inr ⟨by kernel_rfl, rfl⟩) hHeld ?_
              try simp only [Act.put, List.setIfInBounds_toArray, List.set_cons_zero, List.set_cons_succ]
              refine take_d (i := 6) (d := 54) (v := undef) rfl rfl (by kernel_rfl) (by kernel_rfl) (by kernel_rfl) (fun _ _ _ h => h) (Or.inr ⟨by kernel_rfl, rfl⟩) hHeld ?_
              try simp only [Act.put, List.setIfInBounds_toArray, List.set_cons_zero, List.set_cons_succ]
              refine take_d (i := 7) (d := 55) (v := undef) rfl rfl (by kernel_rfl) (by kernel_rfl) (by kernel_rfl) (fun _ _ _ h => h) (Or.inr ⟨by kernel_rfl, rfl⟩) hHeld ?_
              try simp only [Act.put, List.setIfInBounds_toArray, List.set_cons_zero, List.set_cons_succ]
              refine take_d (i := 8) (d := 56) (v := undef) rfl rfl (by kernel_rfl) (by kernel_rfl) (by kernel_rfl) (fun _ _ _ h => h) (Or.inr ⟨by kernel_rfl, rfl⟩) hHeld ?_
              try simp only [Act.put, List.setIfInBounds_toArray, List.set_cons_zero, List.set_cons_succ]
              refine take_d (i := 9) (d := 57) (v := undef) rfl rfl (by kernel_rfl) (by kernel_rfl) (by kernel_rfl) (fun _ _ _ h => h) (Or.inr ⟨by kernel_rfl, rfl⟩) hHeld ?_
              try simp only [Act.put, List.setIfInBounds_toArray, List.set_cons_zero, List.set_cons_succ]
              refine take_d (i := 10) (d := 58) (v := undef) rfl rfl (by kernel_rfl) (by kernel_rfl) (by kernel_rfl) (fun _ _ _ h => h) (Or.inr ⟨by kernel_rfl, rfl⟩) hHeld ?_
              try simp only [Act.put, List.setIfInBounds_toArray, List.set_cons_zero, List.set_cons_succ]
              refine take_d (i := 11) (d := 59) (v := undef) rfl rfl (by kernel_rfl) (by kernel_rfl) (by kernel_rfl) (fun _ _ _ h => h) (Or.inr ⟨by kernel_rfl, rfl⟩) hHeld ?_
              try simp only [Act.put, List.setIfInBounds_toArray, List.set_cons_zero, List.set_cons_succ]
              refine take_d (i := 12) (d := 60) (v := ?u60) rfl rfl (by kernel_rfl) (by kernel_rfl) (by kernel_rfl) (fun _ _ _ h => h) (Or.inl ⟨by kernel_rfl, ?u60h⟩) hHeld ?u60n
              case u60h => (intro w hSw; (try dsimp only at hSw); go_split_ands; go_simp; (try exact rfl))
              try simp only [Act.put, List.setIfInBounds_toArray, List.set_cons_zero, List.set_cons_succ]
              refine take_d (i := 13) (d := 2) (v := ?u2) rfl rfl (by kernel_rfl) (by kernel_rfl) (by kernel_rfl) (fun _ _ _ h => h) (Or.inl ⟨by kernel_rfl, ?u2h⟩) hHeld ?u2n
              case u2h => (intro w hSw; (try dsimp only at hSw); go_split_ands; go_simp; (try exact rfl))
              try simp only [Act.put, List.setIfInBounds_toArray, List.set_cons_zero, List.set_cons_succ]
              refine wpAnyH_done (by kernel_rfl) ?_ _
              refine NoPanic.normal ?_
              go_wp2_with fail
              go_ret
              exact ⟨by simp, b1⟩
          · have k4f : (kind == 4) = false := by simpa using k4
            rw [if_neg (by rw [k4f]; decide)]
            by_cases k5 : kind = 5
            · subst k5
              rw [if_pos (show ((5 : Int) == 5) = true from rfl)]
              subst hw1
              generalize sgnN text = z at *
              by_cases hz : 0 < z
              · have dz : decide (0 < (z : Int)) = true := decide_eq_true (by omega)
                rw [dz]
                go_enter Tryz.func62, Tryz.ntmps62
                go_wp2_with (go_at_call 95; refine (SG.out _).mono ?_; rintro e w2 ⟨rfl, rfl⟩)
                go_ret
                exact ⟨by simp, b1⟩
              · have dz : decide (0 < (z : Int)) = false := decide_eq_false (by omega)
                rw [dz]
                go_enter Tryz.func62, Tryz.ntmps62
                go_wp2_with (go_at_call 95; refine (SG.out _).mono ?_; rintro e w2 ⟨rfl, rfl⟩)
                go_ret
                exact ⟨by simp, b1⟩
            · have k5f : (kind == 5) = false := by simpa using k5
              rw [if_neg (by rw [k5f]; decide)]
              subst hw1
              go_enter Tryz.func62, Tryz.ntmps62
              go_wp2
              go_ret
              exact ⟨rfl, b1⟩
end Go.Proofs.YtiipglmbfgmbbaaGreatDoor

namespace Go.Proofs.YtiipglmbfgmbbaaGreatDoor
open Go.RowKit Go.Shelf

set_option maxRecDepth 100000 in
set_option maxHeartbeats 4000000 in
theorem textof_any (t : Tq) (hl : t.text.length ≤ 400000) (h0 : -9223372036854775808 ≤ t.num) (h1 : t.num ≤ 9223372036854775807) (w : World) (hG : Gl w) :
    Calls Tryz.prog 35 #[tqV t] w fun e w' => e = .returned (tx (txtF t)) ∧ Below w.heap.size w w' := by
  obtain ⟨kind, text, num, aa, to_⟩ := t
  obtain ⟨g, hg⟩ : ∃ g, w.heap.size = g := ⟨_, rfl⟩
  obtain ⟨w1, hw1⟩ : ∃ w1, w.alloc (.cells #[.int .i64 kind, tx text, .int .i64 num, .int .i64 (aa : Int), .int .i64 (to_ : Int)] 50) = w1 := ⟨_, rfl⟩
  have b1 : Below g w w1 := by rw [← hw1, ← hg]; exact (Below.refl _ _).alloc (Nat.le_refl _) _
  have gl1 : Gl w1 := hG.below b1 (by rw [← hg]; exact hG.lt)
  have g1 : g < w1.heap.size := by rw [← hw1, ← hg]; simp
  clear hG
  show Calls Tryz.prog 35 #[.agg #[.int .i64 kind, tx text, .int .i64 num, .int .i64 (aa : Int), .int .i64 (to_ : Int)]] w _
  rw [hg]
  simp only at hl h0 h1
  have FI := Lib.hid (Tryz.strconv_FormatInt_10 num h0 h1 w1 gl1.tab)
  have QT := Lib.hid (quote_any text hl w1)
  have B1 := Lib.hid b1
  have G1 := Lib.hid g1
  clear b1 gl1 g1
  unfold txtF
  simp only
  by_cases k3 : kind = 3
  · subst k3
    rw [if_pos (show ((3 : Int) == 3) = true from rfl)]
    subst hw1
    go_enter Tryz.func35, Tryz.ntmps35
    go_wp2_with (go_at_call 64; refine FI.out.mono ?_; rintro e w2 ⟨rfl, kk, os, rfl⟩)
    go_ret
    exact ⟨rfl, B1.out.trans (Lib.below_grow g _ (Nat.le_of_lt G1.out) kk os)⟩
  · have k3f : (kind == 3) = false := by simpa using k3
    rw [if_neg (by rw [k3f]; decide)]
    by_cases k4 : kind = 4
    · subst k4
      rw [if_pos (show ((4 : Int) == 4) = true from rfl)]
      subst hw1
      go_enter Tryz.func35, Tryz.ntmps35
      go_wp2_with (go_at_call 65; refine QT.out.mono ?_; rintro e w2 ⟨rfl, hb⟩; have B2 := Lib.hid (B1.out.trans (hb.mono (by have := G1.out; omega))); clear hb)
      go_ret
      exact ⟨rfl, B2.out⟩
    · have k4f : (kind == 4) = false := by simpa using k4
      rw [if_neg (by rw [k4f]; decide)]
      subst hw1
      go_enter Tryz.func35, Tryz.ntmps35
      go_wp2
      go_ret
      exact ⟨rfl, B1.out⟩

/-- Tokens that can be read: the slice's cells, below B. -/
structure Trd (w : World) (B : Nat) (A : Option Addr) (n : Nat) (ts : List Tq) : Prop where
  len : ts.length = n
  cel : 0 < n → ∃ b o, A = some ⟨b, o, none⟩ ∧ b < B ∧ ∀ j, j < n → ∀ i, i < 5 → w.cell? ⟨b, o + j * 5 + i, none⟩ = (ts.getD j errQ).cells[i]?
theorem tkRow_at : ∀ (ts : List Tk) (j i : Nat), j < ts.length → i < 5 → (tkRow ts)[j * 5 + i]? = (ts.getD j (errT 0)).cells[i]?
  | [], j, i, h, _ => by simp at h
  | t :: r, 0, i, _, hi => by
    rw [tkRow, Nat.zero_mul, Nat.zero_add, List.getElem?_append_left (by show i < 5; exact hi)]
    rfl
  | t :: r, j + 1, i, h, hi => by
    rw [tkRow, List.getElem?_append_right (by show 5 ≤ _; omega), show (j + 1) * 5 + i - t.cells.length = j * 5 + i from by show (j + 1) * 5 + i - 5 = _; omega, tkRow_at r j i (by simpa using h) hi]
    rfl
section
variable {w w' : World} {B n c base : Nat} {A : Option Addr} {ts : List Tq}
theorem Trd.below (h : Trd w B A n ts) (hb : Below B w w') : Trd w' B A n ts :=
  ⟨h.len, fun hp => by
    obtain ⟨b, o, hA, hbB, hc⟩ := h.cel hp
    exact ⟨b, o, hA, hbB, fun j hj i hi => by rw [← hc j hj i hi]; simp only [World.cell?, hb.block b hbB]⟩⟩
theorem Trd.more {B' : Nat} (h : Trd w B A n ts) (hB : B ≤ B') : Trd w B' A n ts :=
  ⟨h.len, fun hp => by
    obtain ⟨b, o, hA, hbB, hc⟩ := h.cel hp
    exact ⟨b, o, hA, by omega, hc⟩⟩
theorem Trd.at_ (h : Trd w B A n ts) {j : Nat} (hj : j < n) : ∃ b o, A = some ⟨b, o, none⟩ ∧ b < B ∧ w.cell? ⟨b, o + j * 5, none⟩ = some (.int .i64 (ts.getD j errQ).kind) ∧ w.cell? ⟨b, o + j * 5 + 1, none⟩ = some (tx (ts.getD j errQ).text) ∧
    w.cell? ⟨b, o + j * 5 + 2, none⟩ = some (.int .i64 (ts.getD j errQ).num) ∧ w.cell? ⟨b, o + j * 5 + 3, none⟩ = some (.int .i64 ((ts.getD j errQ).at_ : Int)) ∧ w.cell? ⟨b, o + j * 5 + 4, none⟩ = some (.int .i64 ((ts.getD j errQ).to_ : Int)) := by
  obtain ⟨b, o, hA, hbB, hc⟩ := h.cel (by omega)
  exact ⟨b, o, hA, hbB, hc j hj 0 (by omega), hc j hj 1 (by omega), hc j hj 2 (by omega), hc j hj 3 (by omega), hc j hj 4 (by omega)⟩
theorem Tks.trd {ts : List Tk} (h : Tks w base A n c ts) : Trd w w.heap.size A n (ts.map Tk.q) :=
  ⟨by rw [List.length_map]; exact h.len, fun hp => by
    rcases h.form with ⟨_, h0, _⟩ | ⟨g, rfl, hb, hg, _⟩
    · omega
    · refine ⟨g, 0, rfl, hg, fun j hj i hi => ?_⟩
      have := World.ownsRow.cellAt (w := w) (g := g) h (j * 5 + i) (by omega)
      have hj' : j < ts.length := by rw [h.len]; exact hj
      have e : (ts.map Tk.q).getD j errQ = (ts.getD j (errT 0)).q := by simp [List.getD, hj']
      rw [Nat.zero_add, this, e]
      exact tkRow_at ts j i hj' hi⟩
end
end Go.Proofs.YtiipglmbfgmbbaaGreatDoor

namespace Go.Proofs.YtiipglmbfgmbbaaGreatDoor
open Go.RowKit Go.Shelf

def chkF (ts : List Tq) : Int := if 300 < ts.length then 202 else if ts.all tokB = true then 0 else 202
/-- A token's parts are no larger than they can be. -/
structure TkOk (t : Tq) : Prop where
  len : t.text.length ≤ 400000
  n0 : -9223372036854775808 ≤ t.num
  n1 : t.num ≤ 9223372036854775807
theorem errQ_ok : TkOk errQ := ⟨by simp [errQ], by simp [errQ], by simp [errQ]⟩
theorem getD_ok {ts : List Tq} (h : ∀ t ∈ ts, TkOk t) (j : Nat) : TkOk (ts.getD j errQ) := by
  by_cases hj : j < ts.length
  · have : ts.getD j errQ = ts[j] := by simp [List.getD, hj]
    rw [this]
    exact h _ (List.getElem_mem hj)
  · have : ts.getD j errQ = errQ := by simp [List.getD, List.getElem?_eq_none (Nat.le_of_not_lt hj)]
    rw [this]
    exact errQ_ok
theorem all_getD {q : Tq → Bool} {ts : List Tq} (h : ∀ j, j < ts.length → q (ts.getD j errQ) = true) : ts.all q = true := by
  rw [List.all_eq_true]
  intro t ht
  obtain ⟨j, hj, rfl⟩ := List.getElem_of_mem ht
  have := h j hj
  simpa [List.getD, hj] using this
theorem all_no {q : Tq → Bool} {ts : List Tq} {j : Nat} (hj : j < ts.length) (h : q (ts.getD j errQ) = false) : ts.all q = false := by
  rw [Bool.eq_false_iff]
  intro ha
  rw [List.all_eq_true] at ha
  have := ha (ts[j]) (List.getElem_mem hj)
  have e : ts.getD j errQ = ts[j] := by simp [List.getD, hj]
  rw [e, this] at h
  cases h

set_option maxRecDepth 100000 in
set_option maxHeartbeats 4000000 in
theorem check_any (A : Option Addr) (n c B : Nat) (ts : List Tq) (w : World) (h : Trd w B A n ts) (hok : ∀ t ∈ ts, TkOk t) (hn : n ≤ 1000000) (hB : B ≤ w.heap.size) (hG : Gl w) :
    Calls Tryz.prog 32 #[.slice A n c] w fun e w' => e = .returned (.int .i64 (chkF ts)) ∧ Below w.heap.size w w' := by
  have hlen := h.len
  by_cases hlong : 300 < n
  · have hF : chkF ts = 202 := by unfold chkF; rw [if_pos (by omega)]
    rw [hF]
    have d1 : (300 : Int) < (n : Int) := by omega
    clear h hG hF
    go_enter Tryz.func32, Tryz.ntmps32
    go_wp2
    go_ret
    exact ⟨rfl, Below.refl _ _⟩
  · have d1 : decide ((300 : Int) < (n : Int)) = false := decide_eq_false (by omega)
    have Y : Hid ((∀ j, j < n → tokB (ts.getD j errQ) = true) → chkF ts = 0) := Lib.hid (fun ha => by unfold chkF; rw [if_neg (by omega), if_pos (all_getD (by rw [hlen]; exact ha))])
    have N : Hid (∀ j, j < n → tokB (ts.getD j errQ) = false → chkF ts = 202) := Lib.hid (fun j hj ha => by unfold chkF; rw [if_neg (by omega), if_neg (by rw [all_no (by omega) ha]; decide)])
    have MB := Lib.hid (fun j W hW => maybe_any (ts.getD j errQ) (Nat.le_trans (getD_ok hok j).len (by omega)) W hW)
    have H := Lib.hid h
    have GH := Lib.hid hG
    generalize chkF ts = R at *
    clear h hok hG hlen
    go_enter Tryz.func32, Tryz.ntmps32
    go_wp2
    go_loopw [10] (fun iv wr => ∃ i : Nat, i ≤ n ∧ iv = .int .i64 (i : Int) ∧ Hid (∀ j, j < i → tokB (ts.getD j errQ) = true) ∧ Hid (Below w.heap.size w wr)) (fun iv _ => n - (intOf iv).toNat)
    case atStart => exact ⟨0, Nat.zero_le _, rfl, Lib.hid (fun j hj => absurd hj (by omega)), Lib.hid (Below.refl _ _)⟩
    case round =>
      obtain ⟨i, hi, rfl, HA, HB⟩ := hrel
      by_cases hlt : i < n
      · have i0 : (0 : Int) ≤ (i : Int) := by omega
        have i1 : (i : Int) < (n : Int) := by omega
        obtain ⟨b, o, rfl, hbB, x0, x1, x2, x3, x4⟩ := (H.out.below (HB.out.mono hB)).at_ hlt
        have MB1 := Lib.hid (MB.out i)
        have N1 := Lib.hid (N.out i hlt)
        obtain ⟨t, ht⟩ : ∃ t, ts.getD i errQ = t := ⟨_, rfl⟩
        have HT := Lib.hid ht
        rw [ht] at x0 x1 x2 x3 x4 MB1 N1
        obtain ⟨tb, htb⟩ : ∃ tb, tokB t = tb := ⟨_, rfl⟩
        rw [htb] at MB1 N1
        have HTB := Lib.hid htb
        clear ht htb
        obtain ⟨kind, text, num, aa, to_⟩ := t
        simp only at x0 x1 x2 x3 x4
        have MB2 : Hid (∀ W, Gl W → Calls Tryz.prog 62 #[.agg #[.int .i64 kind, tx text, .int .i64 num, .int .i64 (aa : Int), .int .i64 (to_ : Int)]] W fun e w' => e = .returned (.bool tb) ∧ Below W.heap.size W w') := MB1
        have AL : Below wr.heap.size wr (wr.alloc (.cells #[.int .i64 kind, tx text, .int .i64 num, .int .i64 (aa : Int), .int .i64 (to_ : Int)] 50)) := (Below.refl _ _).alloc (Nat.le_refl _) _
        have H2 := Lib.hid (HB.out.trans (AL.mono HB.out.size))
        have M3 := Lib.hid (MB2.out _ (GH.out.on H2.out))
        clear MB1 MB2 AL
        cases tb with
        | true =>
          have HA2 : Hid (∀ j, j < i + 1 → tokB (ts.getD j errQ) = true) := Lib.hid (fun j hj => by
            by_cases hji : j = i
            · subst hji; rw [HT.out]; exact HTB.out
            · exact HA.out j (by omega))
          go_wp2_with (go_at_call 62; refine M3.out.mono ?_; rintro e w3 ⟨rfl, hb⟩; have H3 := Lib.hid (H2.out.trans (hb.mono H2.out.size)); clear hb)
          go_roundw
          case rel => exact ⟨i + 1, by omega, by go_num, HA2, H3⟩
          case measure => simp [intOf]; omega
        | false =>
          have hR := Lib.hid (N1.out rfl)
          go_wp2_with (go_at_call 62; refine M3.out.mono ?_; rintro e w3 ⟨rfl, hb⟩; have H3 := Lib.hid (H2.out.trans (hb.mono H2.out.size)); clear hb)
          go_ret
          exact ⟨by rw [hR.out]; rfl, H3.out⟩
      · obtain rfl : i = n := by omega
        have hR := Lib.hid (Y.out HA.out)
        go_wp2_with fail
        go_ret
        exact ⟨by rw [hR.out]; rfl, HB.out⟩
end Go.Proofs.YtiipglmbfgmbbaaGreatDoor
