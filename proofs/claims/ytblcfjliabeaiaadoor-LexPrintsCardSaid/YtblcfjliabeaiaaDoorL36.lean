/-
  The law's tokens and their texts: LexPrints.
-/
import Derived.Test.YtblcfjliabeaiaaDoorL35
import Derived.Deep.CutBlock
namespace Go.Proofs.YtblcfjliabeaiaaDoor
open Go.RowKit Go.Shelf
attribute [local go_sem] Oper.semAt_some

/-- A row of tokens as it is given. -/
structure Gv (w : World) (A : Option Addr) (n c : Nat) (ts : List Tq) : Prop where
  trd : Trd w w.heap.size A n ts
  cap : n ≤ c
  nil_ : A = none → c = 0
  small : n ≤ 9223372036854775807
  nums : ∀ t ∈ ts, -9223372036854775808 ≤ t.num ∧ t.num ≤ 9223372036854775807
/-- Rows of tokens as they are given. -/
def Gvs (w : World) (a : Option Addr) (n : Nat) (As : Nat → Option Addr) (Ns Cs : Nat → Nat) (Ts : Nat → List Tq) : Prop :=
  ∀ i, i < n → ∃ b o, a = some ⟨b, o, none⟩ ∧ b < w.heap.size ∧ w.cell? ⟨b, o + i, none⟩ = some (.slice (As i) (Ns i) (Cs i)) ∧ Gv w (As i) (Ns i) (Cs i) (Ts i)
def Zt (ts : List Tq) : List Tq := (ts.take 301).map cutT
theorem Zt_ok {ts : List Tq} (h : ∀ t ∈ ts, -9223372036854775808 ≤ t.num ∧ t.num ≤ 9223372036854775807) : ∀ t ∈ Zt ts, TkOk t := fun t ht => by
  obtain ⟨u, hu, rfl⟩ := List.mem_map.1 ht
  have := h u (List.mem_of_mem_take hu)
  exact ⟨by simp [cutT]; omega, this.1, this.2⟩
theorem toks_at {w W : World} {A : Option Addr} {n c : Nat} {ts : List Tq} (h : Gv w A n c ts) (hb : Below w.heap.size w W) :
    Calls Tryd.prog 9 #[.slice A n c] W fun e w' => ∃ A' c', e = .returned (.slice A' (min n 301) c') ∧ Trd w' w'.heap.size A' (min n 301) (Zt ts) ∧ Below W.heap.size W w' :=
  (toks_any A n c w.heap.size ts W (h.trd.below hb) h.cap h.nil_ h.small hb.size).mono fun e w' ⟨A', c', he, ht, hbw⟩ => ⟨A', c', he, ht.trd, hbw⟩
/-- Three rows of one's own. -/
def Three (w : World) (B m0 m1 : Nat) (Z0 Z1 : List Tq) (v5 v6 v7 : Value) (wx : World) : Prop :=
  ∃ A5 c5 A6 c6 A7 c7, v5 = .slice A5 m1 c5 ∧ v6 = .slice A6 m1 c6 ∧ v7 = .slice A7 m0 c7 ∧ Trd wx wx.heap.size A5 m1 Z1 ∧ Trd wx wx.heap.size A6 m1 Z1 ∧ Trd wx wx.heap.size A7 m0 Z0 ∧ Below B w wx
theorem Trd.on {w w' : World} {A : Option Addr} {n : Nat} {ts : List Tq} (h : Trd w w.heap.size A n ts) (hb : Below w.heap.size w w') : Trd w' w'.heap.size A n ts := (h.below hb).more hb.size

set_option maxRecDepth 100000 in
set_option maxHeartbeats 8000000 in
theorem prints_walk (a : Option Addr) (n c : Nat) (As : Nat → Option Addr) (Ns Cs : Nat → Nat) (Ts : Nat → List Tq) (w : World) (hX : Gvs w a n As Ns Cs Ts) (hn : n ≤ 9223372036854775807) (hG : Gl w) :
    Calls Tryd.prog 3 #[.slice a n c] w fun e w' => e = .returned (.bool true) ∧ Below w.heap.size w w' := by
  have WK := Lib.hid (wakes_any w hG)
  have GH := Lib.hid hG
  have XH := Lib.hid hX
  clear hG hX
  go_enter Tryd.func3, Tryd.ntmps3
  go_upto_region 4 with (go_at_call 8; refine WK.out.mono ?_; rintro e w1 ⟨rfl, hb⟩; have H1 := Lib.hid hb; clear hb WK)
  go_loopw [16] (fun iv wr => ∃ i : Nat, i ≤ n ∧ i ≤ 8 ∧ iv = .int .i64 (i : Int) ∧ Hid (Below w.heap.size w wr)) (fun iv _ => n - (intOf iv).toNat)
  case atStart => exact ⟨0, Nat.zero_le _, by omega, rfl, H1⟩
  case round =>
    obtain ⟨i, hi, hi8, rfl, HB⟩ := hrel
    obtain ⟨ws, rfl⟩ : ∃ x, x = wr := ⟨_, rfl⟩
    by_cases hlt : i < n
    · have i0 : (0 : Int) ≤ (i : Int) := by omega
      have i1 : (i : Int) < (n : Int) := by omega
      have n1 : (0 : Int) < (n : Int) := by omega
      obtain ⟨b, o, ha, hb, hx, gx⟩ := XH.out i hlt
      obtain ⟨b', o', ha', _, hx0, g0⟩ := XH.out 0 (by omega)
      subst ha
      obtain ⟨rfl, rfl⟩ : b = b' ∧ o = o' := by
        have := Option.some.inj ha'
        injection this with e1 e2 _
        exact ⟨e1, e2⟩
      rw [Nat.add_zero] at hx0
      have x1 := (HB.out.cell (p := ⟨b, o + i, none⟩) hb).trans hx
      have x0 := (HB.out.cell (p := ⟨b, o, none⟩) hb).trans hx0
      have HX0 := Lib.hid hx0
      clear hx hx0 ha'
      by_cases h8 : i = 8
      · subst h8
        rw [show ((8 : Nat) : Int) = 8 from rfl]
        go_wp2_with fail
        go_ret
        exact ⟨rfl, HB.out⟩
      · have e8 : ((i : Int) == 8) = false := by simp; omega
        have GX := Lib.hid gx
        have G0 := Lib.hid g0
        clear gx g0
        generalize As i = A1 at *
        generalize Ns i = N1 at *
        generalize Cs i = C1 at *
        generalize Ts i = T1 at *
        generalize As 0 = A0 at *
        generalize Ns 0 = N0 at *
        generalize Cs 0 = C0 at *
        generalize Ts 0 = T0 at *
        have P1 : Hid (Below w.heap.size w ws.drew) := Lib.hid HB.out.drew
        go_upto_region 7 with fail
        go_cut [5, 6, 7] from 23 to 30 (fun v5 v6 v7 wx => Three w w.heap.size (min N0 301) (min N1 301) (Zt T0) (Zt T1) v5 v6 v7 wx)
        case first =>
          go_region_with (first
            | (go_at_call 9; refine (toks_at (by first | exact GX.out | exact G0.out) P3.out).mono ?_; rintro e w4 ⟨A4, c4, rfl, ht, hq⟩; have P4 := Lib.hid (P3.out.trans (hq.mono P3.out.size)); have Q2 := Lib.hid (R2.out.on hq); have Q3 := Lib.hid (R3.out.on hq); have Q4 := Lib.hid ht; have y4 := (P4.out.cell (p := ⟨b, o, none⟩) hb).trans HX0.out; clear ht hq)
            | (go_at_call 9; refine (toks_at (by first | exact GX.out | exact G0.out) P2.out).mono ?_; rintro e w3 ⟨A3, c3, rfl, ht, hq⟩; have P3 := Lib.hid (P2.out.trans (hq.mono P2.out.size)); have R2 := Lib.hid (O2.out.on hq); have R3 := Lib.hid ht; have y3 := (P3.out.cell (p := ⟨b, o, none⟩) hb).trans HX0.out; clear ht hq)
            | (go_at_call 9; refine (toks_at (by first | exact GX.out | exact G0.out) P1.out).mono ?_; rintro e w2 ⟨A2, c2, rfl, ht, hq⟩; have P2 := Lib.hid (P1.out.trans (hq.mono P1.out.size)); have O2 := Lib.hid ht; have y2 := (P2.out.cell (p := ⟨b, o, none⟩) hb).trans HX0.out; clear ht hq))
          all_goals (try go_wp2_with fail)
          all_goals
            go_meet
            case rel => exact ⟨_, _, _, _, _, _, rfl, rfl, rfl, by first | exact Q2.out | exact Q3.out | exact Q4.out, by first | exact Q3.out | exact Q2.out | exact Q4.out, by first | exact Q4.out | exact Q3.out | exact Q2.out, P4.out⟩
        case rest =>
          obtain ⟨A5, c5, A6, c6, A7, c7, rfl, rfl, rfl, t5, t6, t7, hb3⟩ := hcut
          have K1 := Lib.hid (Zt_ok GX.out.nums)
          have K0 := Lib.hid (Zt_ok G0.out.nums)
          have D : ∀ t : Tq, tokB t = true → t.kind = 3 → 0 ≤ t.num := fun t h h3 => by
            unfold tokB at h
            rw [h3] at h
            simp at h
            exact h.2
          have l1 : min N1 301 ≤ 301 := by omega
          have l0 : min N0 301 ≤ 301 := by omega
          generalize Zt T1 = Z1 at *
          generalize Zt T0 = Z0 at *
          generalize min N1 301 = q1 at *
          generalize min N0 301 = q0 at *
          have GC := Lib.hid (fun W (h : Below wc.heap.size wc W) => GH.out.on (hb3.trans (h.mono hb3.size)))
          have CK := Lib.hid (fun W (h : Below wc.heap.size wc W) => check_any A5 q1 c5 W.heap.size Z1 W (t5.on h) K1.out (by omega) (Nat.le_refl _) (GC.out W h))
          have PR := Lib.hid (fun W (h : Below wc.heap.size wc W) => print_any A5 q1 c5 W.heap.size Z1 W (t5.on h) K1.out (by omega) (Nat.le_refl _) (GC.out W h))
          have SA := Lib.hid (fun W (h : Below wc.heap.size wc W) => same_any A7 A5 q0 q1 c7 c5 W.heap.size Z0 Z1 W (t7.on h) (t5.on h) (by omega) (by omega) (Nat.le_refl _))
          have SB := Lib.hid (fun W (h : Below wc.heap.size wc W) => rsame_any A7 A5 q0 q1 c7 c5 W.heap.size Z0 Z1 W (t7.on h) (t5.on h) (by omega) (by omega) (Nat.le_refl _))
          have EQ := Lib.hid (fun W (h : Below wc.heap.size wc W) => requal_any A5 A6 q1 q1 c5 c6 W.heap.size Z1 Z1 W (t5.on h) (t6.on h) (by omega) (by omega) (Nat.le_refl _))
          have RI := Lib.hid (fun W (h : Below wc.heap.size wc W) => rright_any A6 q1 c6 W.heap.size Z1 W (t6.on h) K1.out (by omega) (Nat.le_refl _))
          have TX := Lib.hid (fun W (h : Below wc.heap.size wc W) (hr : chkF Z1 = 0) => rtext_any A6 q1 c6 W.heap.size Z1 W (t6.on h) K1.out (fun j hj => D _ (by
            have hl := t6.len
            unfold chkF at hr
            split at hr
            · cases hr
            · split at hr
              · rename_i ha
                rw [List.all_eq_true] at ha
                have e : Z1.getD j errQ = Z1[j]'(by omega) := by simp [List.getD, show j < Z1.length by omega]
                rw [e]
                exact ha _ (List.getElem_mem _)
              · cases hr)) (by omega) (Nat.le_refl _))
          have HB3 := Lib.hid hb3
          have R0 : Hid (Below wc.heap.size wc wc) := Lib.hid (Below.refl _ _)
          have CV : chkF Z1 = 0 ∨ chkF Z1 = 202 := by
            unfold chkF
            split
            · exact .inr rfl
            · split
              · exact .inl rfl
              · exact .inr rfl
          have PV : prnF Z1 = if chkF Z1 = 0 then (if 1024 < (jnR 0 Z1).length then ([], 3) else (jnR 0 Z1, 0)) else ([], 202) := rfl
          rw [show decide (Z1 = Z1) = true from decide_eq_true rfl] at EQ
          generalize samR Z0 Z1 = sm at *
          generalize prnF Z1 = pf at *
          generalize jnR 0 Z1 = J at *
          clear t5 t6 t7 hb3 D K1 K0 GX G0 XH x1 x0 HX0 P1 GH HB
          rcases CV with hc | hc
          · have TX9 := Lib.hid (fun W h => TX.out W h hc)
            clear TX
            rw [hc, if_pos rfl] at PV
            rw [hc] at CK RI
            rw [show decide ((0 : Int) = 0) = true from rfl] at RI
            by_cases hl : 1024 < J.length
            · rw [if_pos hl] at PV
              have dl : decide ((J.length : Int) > 1024) = true := decide_eq_true (by omega)
              subst PV
              go_wp2_with (first
                | (go_at_call 10; refine (CK.out _ R0.out).mono ?_; clear CK; rintro e v1 ⟨rfl, hq⟩; have R1 := Lib.hid hq; clear hq)
                | (go_at_call 11; refine (PR.out _ R1.out).mono ?_; clear PR; rintro e v2 ⟨rfl, hq⟩; have R2 := Lib.hid (R1.out.trans (hq.mono R1.out.size)); clear hq)
                | (go_at_call 12; refine (SA.out _ R2.out).mono ?_; clear SA; rintro e v3 ⟨rfl, hq⟩; have R3 := Lib.hid (R2.out.trans (hq.mono R2.out.size)); clear hq)
                | (go_at_call 13; refine (SB.out _ R3.out).mono ?_; clear SB; rintro e v4 ⟨rfl, hq⟩; have R4 := Lib.hid (R3.out.trans (hq.mono R3.out.size)); clear hq)
                | (go_at_call 14; refine (EQ.out _ R4.out).mono ?_; clear EQ; rintro e v5 ⟨rfl, hq⟩; have R5 := Lib.hid (R4.out.trans (hq.mono R4.out.size)); clear hq)
                | (go_at_call 15; refine (RI.out _ R5.out).mono ?_; clear RI; rintro e v6 ⟨rfl, hq⟩; have R6 := Lib.hid (R5.out.trans (hq.mono R5.out.size)); clear hq)
                | (go_at_call 16; refine (TX9.out _ R6.out).mono ?_; clear TX9; rintro e v7 ⟨rfl, hq⟩; have R7 := Lib.hid (R6.out.trans (hq.mono R6.out.size)); clear hq))
              go_roundw
              case rel => exact ⟨i + 1, by omega, by omega, by go_num, Lib.hid (HB3.out.trans (R7.out.mono HB3.out.size))⟩
              case measure => simp [intOf]; omega
            · rw [if_neg hl] at PV
              have dl : decide ((J.length : Int) > 1024) = false := decide_eq_false (by omega)
              subst PV
              go_wp2_with (first
                | (go_at_call 10; refine (CK.out _ R0.out).mono ?_; clear CK; rintro e v1 ⟨rfl, hq⟩; have R1 := Lib.hid hq; clear hq)
                | (go_at_call 11; refine (PR.out _ R1.out).mono ?_; clear PR; rintro e v2 ⟨rfl, hq⟩; have R2 := Lib.hid (R1.out.trans (hq.mono R1.out.size)); clear hq)
                | (go_at_call 12; refine (SA.out _ R2.out).mono ?_; clear SA; rintro e v3 ⟨rfl, hq⟩; have R3 := Lib.hid (R2.out.trans (hq.mono R2.out.size)); clear hq)
                | (go_at_call 13; refine (SB.out _ R3.out).mono ?_; clear SB; rintro e v4 ⟨rfl, hq⟩; have R4 := Lib.hid (R3.out.trans (hq.mono R3.out.size)); clear hq)
                | (go_at_call 14; refine (EQ.out _ R4.out).mono ?_; clear EQ; rintro e v5 ⟨rfl, hq⟩; have R5 := Lib.hid (R4.out.trans (hq.mono R4.out.size)); clear hq)
                | (go_at_call 15; refine (RI.out _ R5.out).mono ?_; clear RI; rintro e v6 ⟨rfl, hq⟩; have R6 := Lib.hid (R5.out.trans (hq.mono R5.out.size)); clear hq)
                | (go_at_call 16; refine (TX9.out _ R6.out).mono ?_; clear TX9; rintro e v7 ⟨rfl, hq⟩; have R7 := Lib.hid (R6.out.trans (hq.mono R6.out.size)); clear hq))
              go_roundw
              case rel => exact ⟨i + 1, by omega, by omega, by go_num, Lib.hid (HB3.out.trans (R7.out.mono HB3.out.size))⟩
              case measure => simp [intOf]; omega
          · rw [hc, if_neg (by decide)] at PV
            rw [hc] at CK RI
            subst PV
            clear TX
            go_wp2_with (first
              | (go_at_call 10; refine (CK.out _ R0.out).mono ?_; clear CK; rintro e v1 ⟨rfl, hq⟩; have R1 := Lib.hid hq; clear hq)
              | (go_at_call 11; refine (PR.out _ R1.out).mono ?_; clear PR; rintro e v2 ⟨rfl, hq⟩; have R2 := Lib.hid (R1.out.trans (hq.mono R1.out.size)); clear hq)
              | (go_at_call 12; refine (SA.out _ R2.out).mono ?_; clear SA; rintro e v3 ⟨rfl, hq⟩; have R3 := Lib.hid (R2.out.trans (hq.mono R2.out.size)); clear hq)
              | (go_at_call 13; refine (SB.out _ R3.out).mono ?_; clear SB; rintro e v4 ⟨rfl, hq⟩; have R4 := Lib.hid (R3.out.trans (hq.mono R3.out.size)); clear hq)
              | (go_at_call 14; refine (EQ.out _ R4.out).mono ?_; clear EQ; rintro e v5 ⟨rfl, hq⟩; have R5 := Lib.hid (R4.out.trans (hq.mono R4.out.size)); clear hq)
              | (go_at_call 15; refine (RI.out _ R5.out).mono ?_; clear RI; rintro e v6 ⟨rfl, hq⟩; have R6 := Lib.hid (R5.out.trans (hq.mono R5.out.size)); clear hq))
            go_roundw
            case rel => exact ⟨i + 1, by omega, by omega, by go_num, Lib.hid (HB3.out.trans (R6.out.mono HB3.out.size))⟩
            case measure => simp [intOf]; omega
    · obtain rfl : i = n := by omega
      go_wp2_with fail
      go_ret
      exact ⟨rfl, HB.out⟩
end Go.Proofs.YtblcfjliabeaiaaDoor
