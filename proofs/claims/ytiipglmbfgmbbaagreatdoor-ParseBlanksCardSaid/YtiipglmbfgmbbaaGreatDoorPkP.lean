/-
  Several texts in one: L17, L25, L26.
-/
import Derived.Test.YtiipglmbfgmbbaaGreatDoorPkO
import Derived.BigQuiet
namespace Go.Proofs.YtiipglmbfgmbbaaGreatDoor
open Go.RowKit Go.Shelf

/-- The texts of tokens, with a blank ahead of each but the first. -/
def jnR : Nat → List Tq → List UInt8
  | _, [] => []
  | i, t :: r => (if 0 < i then [32] else []) ++ txtF t ++ jnR (i + 1) r
def prnF (ts : List Tq) : List UInt8 × Int := if chkF ts = 0 then (if 1024 < (jnR 0 ts).length then ([], 3) else (jnR 0 ts, 0)) else ([], 202)
theorem jnR_snoc : ∀ (l : List Tq) (i : Nat) (t : Tq), jnR i (l ++ [t]) = jnR i l ++ (if 0 < i + l.length then [32] else []) ++ txtF t
  | [], i, t => by simp [jnR]
  | x :: r, i, t => by
    simp only [List.cons_append, jnR, jnR_snoc r (i + 1) t, List.length_cons]
    rw [if_pos (show 0 < i + 1 + r.length by omega), if_pos (show 0 < i + (r.length + 1) by omega)]
    simp only [List.append_assoc]
theorem kept_len : ∀ k ∈ keptL, k.length ≤ 7 := by decide +kernel
theorem sgnN_2 : ∀ l : List UInt8, sgnN l ≤ 2
  | [] => by simp [sgnN]
  | b :: r => by
    show (if (Lib.hasPrefix (b :: r) [60, 61] || Lib.hasPrefix (b :: r) [62, 61] || Lib.hasPrefix (b :: r) [60, 62]) = true then 2 else if 0 ≤ Lib.indexByte sgnL b then 1 else 0) ≤ 2
    split
    · omega
    · split <;> omega
theorem tok_text {t : Tq} (h : tokB t = true) : (t.kind == 3) = true ∨ t.text.length ≤ 64 := by
  unfold tokB at h
  split at h
  · cases h
  · split at h
    · cases hk : keyF t.text with
      | none => rw [hk] at h; cases h
      | some k =>
        rw [hk] at h
        have e : t.text = k := by simpa using h
        have := kept_len k (List.mem_of_find?_eq_some hk)
        rw [e]
        exact .inr (by omega)
    · split at h
      · unfold nameB at h
        simp only [Bool.and_eq_true, decide_eq_true_eq] at h
        exact .inr (by omega)
      · split at h
        · rename_i h3
          exact .inl h3
        · split at h
          · simp only [Bool.and_eq_true, decide_eq_true_eq] at h
            exact .inr (by omega)
          · split at h
            · simp only [Bool.and_eq_true, beq_iff_eq] at h
              have := sgnN_2 t.text
              exact .inr (by omega)
            · cases h
theorem txt_len {t : Tq} (h : tokB t = true) (ho : TkOk t) : (txtF t).length ≤ 150 := by
  unfold txtF
  rcases tok_text h with h3 | h3
  · rw [if_pos h3]
    have := Lib.itoa_length_le t.num ho.n0 ho.n1
    omega
  · by_cases k3 : (t.kind == 3) = true
    · rw [if_pos k3]
      have := Lib.itoa_length_le t.num ho.n0 ho.n1
      omega
    · rw [if_neg k3]
      split
      · have := dbl_len t.text
        unfold quoteF
        simp only [List.cons_append, List.length_cons, List.length_append, List.length_nil]
        omega
      · omega
theorem jnR_len : ∀ (l : List Tq) (i : Nat), (∀ t ∈ l, tokB t = true ∧ TkOk t) → (jnR i l).length ≤ 151 * l.length
  | [], _, _ => by simp [jnR]
  | t :: r, i, h => by
    have h1 := txt_len (h t (by simp)).1 (h t (by simp)).2
    have h2 := jnR_len r (i + 1) (fun x hx => h x (by simp [hx]))
    unfold jnR
    simp only [List.length_append, List.length_cons]
    split <;> simp only [List.length_cons, List.length_nil] <;> omega
theorem builder_below {B b : Nat} {w w' : World} {bs : List Value} (h : Lib.IsBuilder 80 5 B b bs w) (hb : Below w.heap.size w w') : Lib.IsBuilder 80 5 B b bs w' := by
  rcases h with ⟨hB, v, hh, hown, hne⟩ | ⟨hB, v, hh, hown, hne⟩
  · exact .inl ⟨hB, v, (hb.block b (Array.getElem?_eq_some_iff.1 hh).1).trans hh, World.ownsRow.below hown hb, hne⟩
  · exact .inr ⟨hB, v, (hb.block b (Array.getElem?_eq_some_iff.1 hh).1).trans hh, World.ownsRow.below hown hb, hne⟩

set_option maxRecDepth 100000 in
set_option maxHeartbeats 8000000 in
theorem print_any (A : Option Addr) (n c B : Nat) (ts : List Tq) (w : World) (h : Trd w B A n ts) (hok : ∀ t ∈ ts, TkOk t) (hn : n ≤ 1000000) (hB : B ≤ w.heap.size) (hG : Gl w) :
    Calls Tryz.prog 14 #[.slice A n c] w fun e w' => e = .returned (.tuple #[tx (prnF ts).1, .int .i64 (prnF ts).2]) ∧ Below w.heap.size w w' := by
  have hlen := h.len
  have CK := Lib.hid (check_any A n c B ts w h hok hn hB hG)
  by_cases hc : chkF ts = 0
  · rw [hc] at CK
    have hall : ∀ t ∈ ts, tokB t = true ∧ TkOk t := fun t ht => by
      refine ⟨?_, hok t ht⟩
      unfold chkF at hc
      split at hc
      · cases hc
      · split at hc
        · rename_i ha
          exact List.all_eq_true.1 ha t ht
        · cases hc
    have n300 : n ≤ 300 := by
      unfold chkF at hc
      split at hc
      · cases hc
      · omega
    have PF : Hid (prnF ts = if 1024 < (jnR 0 ts).length then ([], 3) else (jnR 0 ts, 0)) := Lib.hid (by unfold prnF; rw [if_pos hc])
    have TX := Lib.hid (fun j W hW => textof_any (ts.getD j errQ) (getD_ok hok j).len (getD_ok hok j).n0 (getD_ok hok j).n1 W hW)
    have JL := Lib.hid (fun i => jnR_len (ts.take i) 0 (fun t ht => hall t (List.mem_of_mem_take ht)))
    have TL := Lib.hid (fun j (hj : j < n) => txt_len (t := ts.getD j errQ) (by
      have e : ts.getD j errQ = ts[j]'(by omega) := by simp [List.getD, show j < ts.length by omega]
      rw [e]
      exact (hall _ (List.getElem_mem _)).1) (getD_ok hok j))
    have JS := Lib.hid (fun j (hj : j < n) => show jnR 0 (ts.take (j + 1)) = jnR 0 (ts.take j) ++ (if 0 < j then [32] else []) ++ txtF (ts.getD j errQ) by
      have e : ts.getD j errQ = ts[j]'(by omega) := by simp [List.getD, show j < ts.length by omega]
      rw [List.take_succ_eq_append_getElem (by omega), jnR_snoc, e, List.length_take]
      congr 3
      rw [Nat.zero_add, Nat.min_eq_left (by omega)])
    have TE : Hid (ts.take n = ts) := Lib.hid (List.take_of_length_le (by omega))
    generalize prnF ts = PR at *
    have H := Lib.hid h
    have GH := Lib.hid hG
    clear h hok hG hlen hc hall
    go_enter Tryz.func14, Tryz.ntmps14
    go_upto_region 4 with (go_at_call 32; refine CK.out.mono ?_; rintro e w1 ⟨rfl, hb⟩; have H1 := Lib.hid hb; clear hb CK)
    obtain ⟨b, hbs⟩ : ∃ b, w1.heap.size = b := ⟨_, rfl⟩
    have q0 : Lib.IsBuilder 80 5 b b (Lib.byteCells (jnR 0 (ts.take 0))) (w1.alloc (.cells #[.pointer none, .slice none 0 0] 80)) := by rw [← hbs]; exact Lib.fresh_isBuilder 80 5 w1
    have r0 : Below b w1 (w1.alloc (.cells #[.pointer none, .slice none 0 0] 80)) := by rw [← hbs]; exact (Below.refl _ _).alloc (Nat.le_refl _) _
    have Q0 := Lib.hid q0
    have R0 := Lib.hid r0
    have BW : w.heap.size ≤ b := by rw [← hbs]; exact H1.out.size
    clear q0 r0
    go_upto_region 6 with fail
    go_loopw [15] (fun iv wr => ∃ i : Nat, i ≤ n ∧ iv = .int .i64 (i : Int) ∧ Hid (Lib.IsBuilder 80 5 b b (Lib.byteCells (jnR 0 (ts.take i))) wr) ∧ Hid (Below b w1 wr)) (fun iv _ => n - (intOf iv).toNat)
    case atStart => exact ⟨0, Nat.zero_le _, rfl, Q0, R0⟩
    case round =>
      obtain ⟨i, hi, rfl, QI, RI⟩ := hrel
      have HI := Lib.hid (H1.out.trans (RI.out.mono BW))
      have bs : b ≤ wr.heap.size := by have := RI.out.size; omega
      clear Q0 R0
      by_cases hlt : i < n
      · have i0 : (0 : Int) ≤ (i : Int) := by omega
        have i1 : (i : Int) < (n : Int) := by omega
        obtain ⟨bb, o, rfl, hbB, x0, x1, x2, x3, x4⟩ := (H.out.below (HI.out.mono hB)).at_ hlt
        have TX1 := Lib.hid (TX.out i)
        have TL1 := TL.out i hlt
        have JS1 := Lib.hid (JS.out i hlt)
        have JL1 := JL.out i
        rw [List.length_take] at JL1
        obtain ⟨t, ht⟩ : ∃ t, ts.getD i errQ = t := ⟨_, rfl⟩
        rw [ht] at x0 x1 x2 x3 x4 TX1 TL1 JS1
        clear ht
        generalize hT : txtF t = T at *
        obtain ⟨kind, text, num, aa, to_⟩ := t
        simp only at x0 x1 x2 x3 x4
        have TX2 : Hid (∀ W, Gl W → Calls Tryz.prog 35 #[.agg #[.int .i64 kind, tx text, .int .i64 num, .int .i64 (aa : Int), .int .i64 (to_ : Int)]] W fun e w' => e = .returned (tx T) ∧ Below W.heap.size W w') := TX1
        have AL : Below wr.heap.size wr (wr.alloc (.cells #[.int .i64 kind, tx text, .int .i64 num, .int .i64 (aa : Int), .int .i64 (to_ : Int)] 50)) := (Below.refl _ _).alloc (Nat.le_refl _) _
        have Q2 := Lib.hid (builder_below QI.out AL)
        have R2 := Lib.hid (RI.out.trans (AL.mono bs))
        have X2 : Hid (Blk (wr.alloc (.cells #[.int .i64 kind, tx text, .int .i64 num, .int .i64 (aa : Int), .int .i64 (to_ : Int)] 50)) wr.heap.size 50 #[.int .i64 kind, tx text, .int .i64 num, .int .i64 (aa : Int), .int .i64 (to_ : Int)]) := Lib.hid (Blk.new _ _ _)
        have bq : b < wr.heap.size := by
          rcases QI.out with ⟨_, v, hh, _⟩ | ⟨_, v, hh, _⟩ <;> exact (Array.getElem?_eq_some_iff.1 hh).1
        clear TX1 AL hT QI RI HI
        go_upto_region 8 with fail
        generalize wr.heap.size = q at *
        generalize wr.alloc (.cells #[.int .i64 kind, tx text, .int .i64 num, .int .i64 (aa : Int), .int .i64 (to_ : Int)] 50) = w2 at *
        generalize hsd : jnR 0 (ts.take i) = sd at *
        by_cases h0 : 0 < i
        · have d0 : (0 : Int) < (i : Int) := by omega
          rw [if_pos h0] at JS1
          have bs2 : b ≤ w2.heap.size := by have := X2.out.lt; omega
          have WB := Lib.hid (bbyte_any b b (Lib.byteCells sd) 32 w2 Q2.out (by rw [Lib.byteCells_length]; omega) bs2)
          rw [show Lib.byteCells sd ++ [Value.int .u8 32] = Lib.byteCells (sd ++ [32]) from by rw [Lib.byteCells_append]; rfl] at WB
          go_upto_region 10 with (go_at_call 33; refine WB.out.mono ?_; rintro e w3 ⟨rfl, hq3, hb3, ho3⟩; have Q3 := Lib.hid hq3; have R3 := Lib.hid (R2.out.trans hb3); have X3 := Lib.hid (blk_others ho3 X2.out (by omega) (by decide)); clear hq3 hb3 ho3 WB Q2 X2)
          have G3 := GH.out.on (H1.out.trans (R3.out.mono BW))
          have TX3 := Lib.hid (TX2.out _ G3)
          have bs3 : b < w3.heap.size := by have := X3.out.lt; omega
          have y0 : w3.cell? ⟨q, 0, none⟩ = some (.int .i64 kind) := X3.out.cell 0
          have y1 : w3.cell? ⟨q, 1, none⟩ = some (tx text) := X3.out.cell 1
          have y2 : w3.cell? ⟨q, 2, none⟩ = some (.int .i64 num) := X3.out.cell 2
          have y3 : w3.cell? ⟨q, 3, none⟩ = some (.int .i64 (aa : Int)) := X3.out.cell 3
          have y4 : w3.cell? ⟨q, 4, none⟩ = some (.int .i64 (to_ : Int)) := X3.out.cell 4
          clear G3 x0 x1 x2 x3 x4
          go_wp2_with (first
            | (go_at_call 35; refine TX3.out.mono ?_; rintro e w4 ⟨rfl, hb4⟩; have Q4 := Lib.hid (builder_below Q3.out hb4); have R4 := Lib.hid (R3.out.trans (hb4.mono (by omega))); have b4 : b ≤ w4.heap.size := (by have := hb4.size; omega); clear hb4)
            | (go_at_call 34; refine (bstring_any b b (Lib.byteCells (sd ++ [32])) T w4 Q4.out (by rw [Lib.byteCells_length, List.length_append]; simp only [List.length_cons, List.length_nil]; omega) (by omega) b4).mono ?_; rw [← Lib.byteCells_append]; rintro e w5 ⟨⟨v5, rfl⟩, hq5, hb5, _⟩; have Q5 := Lib.hid hq5; have R5 := Lib.hid (R4.out.trans hb5); clear hq5 hb5))
          go_roundw
          case rel => exact ⟨i + 1, by omega, by go_num, Lib.hid (by rw [JS1.out]; exact Q5.out), R5⟩
          case measure => simp [intOf]; omega
        · obtain rfl : i = 0 := by omega
          rw [if_neg (by omega)] at JS1
          have G3 := GH.out.on (H1.out.trans (R2.out.mono BW))
          have TX3 := Lib.hid (TX2.out _ G3)
          have bs3 : b < w2.heap.size := by have := X2.out.lt; omega
          have y0 : w2.cell? ⟨q, 0, none⟩ = some (.int .i64 kind) := X2.out.cell 0
          have y1 : w2.cell? ⟨q, 1, none⟩ = some (tx text) := X2.out.cell 1
          have y2 : w2.cell? ⟨q, 2, none⟩ = some (.int .i64 num) := X2.out.cell 2
          have y3 : w2.cell? ⟨q, 3, none⟩ = some (.int .i64 (aa : Int)) := X2.out.cell 3
          have y4 : w2.cell? ⟨q, 4, none⟩ = some (.int .i64 (to_ : Int)) := X2.out.cell 4
          clear G3 x0 x1 x2 x3 x4
          go_wp2_with (first
            | (go_at_call 35; refine TX3.out.mono ?_; rintro e w4 ⟨rfl, hb4⟩; have Q4 := Lib.hid (builder_below Q2.out hb4); have R4 := Lib.hid (R2.out.trans (hb4.mono (by omega))); have b4 : b ≤ w4.heap.size := (by have := hb4.size; omega); clear hb4)
            | (go_at_call 34; refine (bstring_any b b (Lib.byteCells sd) T w4 Q4.out (by rw [Lib.byteCells_length]; omega) (by omega) b4).mono ?_; rw [← Lib.byteCells_append]; rintro e w5 ⟨⟨v5, rfl⟩, hq5, hb5, _⟩; have Q5 := Lib.hid hq5; have R5 := Lib.hid (R4.out.trans hb5); clear hq5 hb5))
          go_roundw
          case rel => exact ⟨1, by omega, by go_num, Lib.hid (by rw [JS1.out]; simpa using Q5.out), R5⟩
          case measure => simp [intOf]; omega
      · obtain rfl : i = n := by omega
        rw [TE.out] at QI
        have LC : Hid (Calls Tryz.prog 36 #[.pointer (some ⟨b, 0, none⟩)] wr fun e w' => e = .returned (.int .i64 ((jnR 0 ts).length : Int)) ∧ wr = w') := Lib.hid (by have := Tryz.Builder_Len b b _ _ QI.out; rw [Lib.byteCells_length] at this; exact this.mono (fun _ _ h => ⟨h.1, h.2.symm⟩))
        by_cases hl : 1024 < (jnR 0 ts).length
        · have d1 : (1024 : Int) < ((jnR 0 ts).length : Int) := by omega
          have hPR := Lib.hid (show PR = ([], 3) by rw [PF.out, if_pos hl])
          go_wp2_with (go_at_call 36; refine LC.out.mono ?_; rintro e w' ⟨rfl, rfl⟩)
          go_ret2
          exact ⟨by rw [hPR.out]; rfl, HI.out⟩
        · have d1 : decide ((1024 : Int) < ((jnR 0 ts).length : Int)) = false := decide_eq_false (by omega)
          have hPR := Lib.hid (show PR = (jnR 0 ts, 0) by rw [PF.out, if_neg hl])
          have SC := Lib.hid (bstr_any b b (jnR 0 ts) wr QI.out bs)
          go_wp2_with (first
            | (go_at_call 36; refine LC.out.mono ?_; rintro e w' ⟨rfl, rfl⟩)
            | (go_at_call 30; refine SC.out.mono ?_; rintro e w5 ⟨rfl, hb5, _⟩; have H5 := Lib.hid (HI.out.trans (hb5.mono BW)); clear hb5))
          go_ret2
          exact ⟨by rw [hPR.out]; rfl, H5.out⟩
  · have hF : prnF ts = ([], 202) := by unfold prnF; rw [if_neg hc]
    have hc2 : chkF ts = 202 := by
      unfold chkF at hc ⊢
      split at hc
      · rename_i h1; rw [if_pos h1]
      · rename_i h1
        rw [if_neg h1]
        split at hc
        · exact absurd rfl hc
        · rename_i h2; rw [if_neg h2]
    rw [hF]
    rw [hc2] at CK
    clear h hG hF hc hc2 hok
    go_enter Tryz.func14, Tryz.ntmps14
    go_wp2_with (go_at_call 32; refine CK.out.mono ?_; rintro e w1 ⟨rfl, hb⟩; have H1 := Lib.hid hb; clear hb CK)
    go_ret2
    exact ⟨rfl, H1.out⟩
end Go.Proofs.YtiipglmbfgmbbaaGreatDoor

namespace Go.Proofs.YtiipglmbfgmbbaaGreatDoor
open Go.RowKit Go.Shelf
attribute [local go_sem] Oper.semAt_some

instance : DecidableEq Tq := fun ⟨k, t, n, a, o⟩ ⟨k', t', n', a', o'⟩ =>
  if h : k = k' ∧ t = t' ∧ n = n' ∧ a = a' ∧ o = o' then isTrue (by obtain ⟨rfl, rfl, rfl, rfl, rfl⟩ := h; rfl)
  else isFalse (fun e => h (by injection e with e1 e2 e3 e4 e5; exact ⟨e1, e2, e3, e4, e5⟩))
theorem list_eq_of_getD {ts us : List Tq} (hl : ts.length = us.length) (h : ∀ j, j < ts.length → ts.getD j errQ = us.getD j errQ) : ts = us := by
  refine List.ext_getElem hl fun j h1 h2 => ?_
  have := h j h1
  simpa [List.getD, h1, h2] using this

end Go.Proofs.YtiipglmbfgmbbaaGreatDoor

namespace Go.Proofs.YtiipglmbfgmbbaaGreatDoor
open Go.RowKit Go.Shelf
attribute [local go_sem] Oper.semAt_some

def coreT (t : Tq) : Int × List UInt8 × Int := (t.kind, t.text, t.num)
/-- Are these the same tokens, but for their places? -/
def samR (ts us : List Tq) : Bool := decide (ts.map coreT = us.map coreT)
theorem samR_yes {ts us : List Tq} (hl : ts.length = us.length) (h : ∀ j, j < ts.length → coreT (ts.getD j errQ) = coreT (us.getD j errQ)) : samR ts us = true := by
  refine decide_eq_true (List.ext_getElem (by simpa using hl) fun j h1 h2 => ?_)
  rw [List.length_map] at h1 h2
  have := h j h1
  simpa [List.getD, h1, h2] using this
theorem samR_no {ts us : List Tq} {j : Nat} (hl : ts.length = us.length) (hj : j < ts.length) (h : ¬ coreT (ts.getD j errQ) = coreT (us.getD j errQ)) : samR ts us = false := by
  refine decide_eq_false fun e => h ?_
  have := congrArg (fun x => x[j]?) e
  have hj' : j < us.length := by omega
  simpa [List.getD, hj, hj'] using this
theorem samR_len {ts us : List Tq} (hl : ¬ ts.length = us.length) : samR ts us = false := by
  refine decide_eq_false fun e => hl ?_
  have := congrArg List.length e
  simpa using this

end Go.Proofs.YtiipglmbfgmbbaaGreatDoor
