/-
  Words and names: the program's isWord, Name; texts quoted: its Quote.
-/
import Derived.Test.YtblcfjliabeaiaaDoorL12
namespace Go.Proofs.YtblcfjliabeaiaaDoor
open Go.RowKit Go.Shelf

/-- Is it a word? -/
def wordB : List UInt8 → Bool
  | [] => false
  | b :: r => letB (b.toNat : Int) && (((runE innB (b :: r) 0 : Nat) : Int) == (((b :: r).length : Nat) : Int))
/-- Is it a name? -/
def nameB (l : List UInt8) : Bool := wordB l && ((keyF l).isNone && decide ((l.length : Int) ≤ 24))

set_option maxRecDepth 100000 in
set_option maxHeartbeats 4000000 in
theorem isword_any (l : List UInt8) (hl : l.length ≤ 1000000) (w : World) : Calls Tryd.prog 39 #[tx l] w fun e w' => e = .returned (.bool (wordB l)) ∧ Below w.heap.size w w' := by
  cases l with
  | nil =>
    go_enter Tryd.func39, Tryd.ntmps39
    go_wp2
    go_ret
    exact ⟨rfl, Below.refl _ _⟩
  | cons b r =>
    have hs : ((⟨(b :: r).toArray⟩ : ByteArray) == ⟨#[]⟩) = false := by first | rfl | kernel_rfl
    have hs2 : ((⟨(b :: r).toArray⟩ : ByteArray) != ⟨#[]⟩) = true := by first | rfl | kernel_rfl
    have LT := Lib.hid (fun W => letter_any ((b.toNat : Nat) : Int) (by omega) (by have := b.toNat_lt; omega) W)
    have RU := Lib.hid (fun W => run54_any (b :: r) 0 hl (Nat.zero_le _) W)
    have e0 : wordB (b :: r) = (letB (b.toNat : Int) && (((runE innB (b :: r) 0 : Nat) : Int) == (((b :: r).length : Nat) : Int))) := rfl
    rw [e0]
    generalize runE innB (b :: r) 0 = R at *
    cases hb : letB (b.toNat : Int) with
    | false =>
      rw [hb] at LT
      clear e0 hb
      go_enter Tryd.func39, Tryd.ntmps39
      go_wp2_with (go_at_call 53; refine (LT.out _).mono ?_; rintro e w' ⟨rfl, rfl⟩)
      go_ret
      exact ⟨rfl, Below.refl _ _⟩
    | true =>
      rw [hb] at LT
      clear e0 hb
      go_enter Tryd.func39, Tryd.ntmps39
      go_wp2_with (first
        | (go_at_call 53; refine (LT.out _).mono ?_; rintro e w' ⟨rfl, rfl⟩)
        | (go_at_call 46; refine (RU.out _).mono ?_; rintro e w2 ⟨rfl, hb⟩; have B2 := Lib.hid hb; clear hb))
      go_ret
      exact ⟨by simp, B2.out⟩

set_option maxRecDepth 100000 in
set_option maxHeartbeats 4000000 in
theorem name_any (l : List UInt8) (hl : l.length ≤ 1000000) (w : World) (hG : Gl w) : Calls Tryd.prog 21 #[tx l] w fun e w' => e = .returned (.bool (nameB l)) ∧ Below w.heap.size w w' := by
  have KY := Lib.hid (key_any l hl w hG)
  have IW := Lib.hid (fun W => isword_any l hl W)
  unfold nameB
  clear hG
  cases hk : keyF l with
  | some k =>
    have KR : keyR l = .tuple #[tx k, .bool true] := by unfold keyR; rw [hk]
    rw [KR] at KY
    clear hk KR
    cases hw : wordB l with
    | false =>
      rw [hw] at IW
      go_enter Tryd.func21, Tryd.ntmps21
      go_wp2_with (first
        | (go_at_call 19; refine KY.out.mono ?_; rintro e w1 ⟨rfl, hb⟩; have B1 := Lib.hid hb; clear hb)
        | (go_at_call 39; refine (IW.out _).mono ?_; rintro e w2 ⟨rfl, hb⟩; have B2 := Lib.hid (B1.out.trans (hb.mono B1.out.size)); clear hb))
      go_ret
      exact ⟨by simp, B2.out⟩
    | true =>
      rw [hw] at IW
      go_enter Tryd.func21, Tryd.ntmps21
      go_wp2_with (first
        | (go_at_call 19; refine KY.out.mono ?_; rintro e w1 ⟨rfl, hb⟩; have B1 := Lib.hid hb; clear hb)
        | (go_at_call 39; refine (IW.out _).mono ?_; rintro e w2 ⟨rfl, hb⟩; have B2 := Lib.hid (B1.out.trans (hb.mono B1.out.size)); clear hb))
      go_ret
      exact ⟨by simp, B2.out⟩
  | none =>
    have KR : keyR l = .tuple #[tx [], .bool false] := by unfold keyR; rw [hk]
    rw [KR] at KY
    clear hk KR
    cases hw : wordB l with
    | false =>
      rw [hw] at IW
      go_enter Tryd.func21, Tryd.ntmps21
      go_wp2_with (first
        | (go_at_call 19; refine KY.out.mono ?_; rintro e w1 ⟨rfl, hb⟩; have B1 := Lib.hid hb; clear hb)
        | (go_at_call 39; refine (IW.out _).mono ?_; rintro e w2 ⟨rfl, hb⟩; have B2 := Lib.hid (B1.out.trans (hb.mono B1.out.size)); clear hb))
      go_ret
      exact ⟨by simp, B2.out⟩
    | true =>
      rw [hw] at IW
      go_enter Tryd.func21, Tryd.ntmps21
      go_wp2_with (first
        | (go_at_call 19; refine KY.out.mono ?_; rintro e w1 ⟨rfl, hb⟩; have B1 := Lib.hid hb; clear hb)
        | (go_at_call 39; refine (IW.out _).mono ?_; rintro e w2 ⟨rfl, hb⟩; have B2 := Lib.hid (B1.out.trans (hb.mono B1.out.size)); clear hb))
      go_ret
      exact ⟨by simp, B2.out⟩

/-- A text with its signs doubled. -/
def dbl : List UInt8 → List UInt8
  | [] => []
  | b :: r => if ((b.toNat : Int) == 39) = true then b :: b :: dbl r else b :: dbl r
def quoteF (l : List UInt8) : List UInt8 := 39 :: dbl l ++ [39]
theorem dbl_len : ∀ l : List UInt8, (dbl l).length ≤ 2 * l.length
  | [] => Nat.le_refl _
  | b :: r => by have := dbl_len r; unfold dbl; split <;> simp <;> omega
theorem dbl_append : ∀ a b : List UInt8, dbl (a ++ b) = dbl a ++ dbl b
  | [], _ => rfl
  | x :: a, b => by
    simp only [List.cons_append, dbl, dbl_append a b]
    split <;> simp
theorem bput_any (g : Nat) (sd : List UInt8) (b : UInt8) (W : World) (h : Lib.IsBuilder 56 5 g g (Lib.byteCells sd) W) (hlen : sd.length ≤ 1000000) (hB : g ≤ W.heap.size) :
    Calls Tryd.prog 30 #[.pointer (some ⟨g, 0, none⟩), .int .u8 ((b.toNat : Nat) : Int)] W fun e w' => e = .returned .nilIface ∧ Lib.IsBuilder 56 5 g g (Lib.byteCells (sd ++ [b])) w' ∧ Below g W w' := by
  refine (bbyte_any g g (Lib.byteCells sd) ((b.toNat : Nat) : Int) W h (by rw [Lib.byteCells_length]; exact hlen) hB).mono ?_
  rintro e w' ⟨rfl, h1, h2, _⟩
  refine ⟨rfl, ?_, h2⟩
  rw [Lib.byteCells_append]
  exact h1

set_option maxRecDepth 100000 in
set_option maxHeartbeats 4000000 in
theorem quote_any (l : List UInt8) (hl : l.length ≤ 400000) (w : World) : Calls Tryd.prog 23 #[tx l] w fun e w' => e = .returned (tx (quoteF l)) ∧ Below w.heap.size w w' := by
  obtain ⟨g, hg⟩ : ∃ g, w.heap.size = g := ⟨_, rfl⟩
  have BP := Lib.hid (fun sd b W h hl2 hB => bput_any g sd b W h hl2 hB)
  have BS := Lib.hid (fun sd W h hB => bstr_any g g sd W h hB)
  have q0 : Lib.IsBuilder 56 5 g g (Lib.byteCells []) (w.alloc (.cells #[.pointer none, .slice none 0 0] 56)) := by rw [← hg]; exact Lib.fresh_isBuilder 56 5 w
  have h0 : Below g w (w.alloc (.cells #[.pointer none, .slice none 0 0] 56)) := by rw [← hg]; exact (Below.refl _ _).alloc (Nat.le_refl _) _
  have s0 : g ≤ (w.alloc (.cells #[.pointer none, .slice none 0 0] 56)).heap.size := by simp [hg]
  have P0 := Lib.hid (BP.out [] 39 _ q0 (by simp) s0)
  have H0 := Lib.hid h0
  clear q0 h0 s0
  rw [show (((39 : UInt8).toNat : Nat) : Int) = 39 from rfl] at P0
  rw [show ([] : List UInt8) ++ [39] = 39 :: dbl (l.take 0) from rfl] at P0
  go_enter Tryd.func23, Tryd.ntmps23
  go_upto_region 4 with (go_at_call 30; refine P0.out.mono ?_; rintro e w1 ⟨rfl, hq, hb⟩; have Q1 := Lib.hid hq; have H1 := Lib.hid (H0.out.trans hb); clear hq hb P0 H0)
  go_loopw [8] (fun iv wr => ∃ i : Nat, i ≤ l.length ∧ iv = .int .i64 (i : Int) ∧ Hid (Lib.IsBuilder 56 5 g g (Lib.byteCells (39 :: dbl (l.take i))) wr) ∧ Hid (Below g w wr)) (fun iv _ => l.length - (intOf iv).toNat)
  case atStart => exact ⟨0, Nat.zero_le _, rfl, Q1, H1⟩
  case round =>
    obtain ⟨i, hi, rfl, QI, HI⟩ := hrel
    have gs : g ≤ wr.heap.size := by have := HI.out.size; omega
    clear Q1 H1
    by_cases hlt : i < l.length
    · have e1 := bt_of hlt
      have i0 : (0 : Int) ≤ (i : Int) := by omega
      have i1 : (i : Int) < (l.length : Int) := by omega
      have eb : (((⟨l.toArray⟩ : ByteArray)[i]'(by simpa [ByteArray.size] using hlt))) = l[i] := rfl
      have dl : (39 :: dbl (l.take i)).length ≤ 800001 := by have := dbl_len (l.take i); rw [List.length_take] at this; simp only [List.length_cons]; omega
      have dt : dbl (l.take (i + 1)) = dbl (l.take i) ++ dbl [l[i]] := by rw [List.take_succ_eq_append_getElem hlt, dbl_append]
      have P1 := Lib.hid (BP.out _ l[i] wr QI.out (by omega) gs)
      generalize l[i] = b at *
      by_cases hb : ((b.toNat : Int) == 39) = true
      · have hb39 : b = 39 := by
          have : (b.toNat : Int) = 39 := by simpa using hb
          exact UInt8.toNat_inj.1 (by show b.toNat = 39; omega)
        subst hb39
        have c1 : ((((⟨l.toArray⟩ : ByteArray)[i]'(by simpa [ByteArray.size] using hlt)).toNat : Int) == 39) = true := by rw [eb]; rfl
        have c2 : (((⟨l.toArray⟩ : ByteArray)[i]'(by simpa [ByteArray.size] using hlt)).toNat : Int) = 39 := by rw [eb]; rfl
        rw [show (((39 : UInt8).toNat : Nat) : Int) = 39 from rfl] at P1
        have dt2 : Hid (39 :: dbl (l.take (i + 1)) = (39 :: dbl (l.take i)) ++ [39] ++ [39]) := Lib.hid (by rw [dt]; simp [dbl])
        have P2 := Lib.hid (fun W h hB => BP.out (39 :: dbl (l.take i) ++ [39]) 39 W h (by rw [List.length_append]; simp only [List.length_cons, List.length_nil] at *; omega) hB)
        rw [show (((39 : UInt8).toNat : Nat) : Int) = 39 from rfl] at P2
        clear e1 eb dt hb
        go_upto_region 8 with (go_at_call 30; refine P1.out.mono ?_; rintro e w2 ⟨rfl, hq, hb⟩; have Q2 := Lib.hid hq; have H2 := Lib.hid (HI.out.trans hb); have g2 : g ≤ w2.heap.size := (by have := hb.size; omega); clear hq hb)
        go_wp2_with (go_at_call 30; refine (P2.out _ Q2.out g2).mono ?_; rintro e w3 ⟨rfl, hq, hb⟩; have Q3 := Lib.hid hq; have H3 := Lib.hid (H2.out.trans hb); clear hq hb)
        go_roundw
        case rel => exact ⟨i + 1, by omega, by go_num, Lib.hid (by rw [dt2.out]; exact Q3.out), H3⟩
        case measure => simp [intOf]; omega
      · have hbf : ((b.toNat : Int) == 39) = false := Bool.eq_false_iff.2 hb
        have c1 : ((((⟨l.toArray⟩ : ByteArray)[i]'(by simpa [ByteArray.size] using hlt)).toNat : Int) == 39) = false := by rw [eb]; exact hbf
        have dt2 : Hid (39 :: dbl (l.take (i + 1)) = (39 :: dbl (l.take i)) ++ [b]) := Lib.hid (by rw [dt]; simp [dbl, hbf])
        rw [← eb] at P1
        rw [eb] at P1
        have P2 : Hid (Calls Tryd.prog 30 #[.pointer (some ⟨g, 0, none⟩), .int .u8 ((((⟨l.toArray⟩ : ByteArray)[i]'(by simpa [ByteArray.size] using hlt)).toNat : Nat) : Int)] wr fun e w' => e = .returned .nilIface ∧ Lib.IsBuilder 56 5 g g (Lib.byteCells ((39 :: dbl (l.take i)) ++ [b])) w' ∧ Below g wr w') := Lib.hid (by rw [eb]; exact P1.out)
        clear e1 eb dt hb P1
        go_wp2_with (go_at_call 30; refine P2.out.mono ?_; rintro e w3 ⟨rfl, hq, hb⟩; have Q3 := Lib.hid hq; have H3 := Lib.hid (HI.out.trans hb); clear hq hb)
        go_roundw
        case rel => exact ⟨i + 1, by omega, by go_num, Lib.hid (by rw [dt2.out]; exact Q3.out), H3⟩
        case measure => simp [intOf]; omega
    · obtain rfl : i = l.length := by omega
      have dl : (39 :: dbl l).length ≤ 800001 := by have := dbl_len l; simp only [List.length_cons]; omega
      rw [List.take_length] at QI
      have P3 := Lib.hid (BP.out _ 39 wr QI.out (by omega) gs)
      rw [show (((39 : UInt8).toNat : Nat) : Int) = 39 from rfl] at P3
      go_upto_region 11 with (go_at_call 30; refine P3.out.mono ?_; rintro e w2 ⟨rfl, hq, hb⟩; have Q2 := Lib.hid hq; have H2 := Lib.hid (HI.out.trans hb); have g2 : g ≤ w2.heap.size := (by have := hb.size; omega); clear hq hb)
      have P4 := Lib.hid (BS.out _ _ Q2.out g2)
      go_wp2_with (go_at_call 34; refine P4.out.mono ?_; rintro e w3 ⟨rfl, hb, _⟩; have H3 := Lib.hid (H2.out.trans hb); clear hb)
      go_ret
      exact ⟨rfl, by first | exact H3.out | (rw [hg]; exact H3.out)⟩
end Go.Proofs.YtblcfjliabeaiaaDoor
