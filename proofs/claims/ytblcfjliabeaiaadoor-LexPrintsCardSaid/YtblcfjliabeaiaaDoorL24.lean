/-
  The law's words: LexWords.
-/
import Derived.Test.YtblcfjliabeaiaaDoorL23
import Derived.BigQuiet
namespace Go.Proofs.YtblcfjliabeaiaaDoor
open Go.RowKit Go.Shelf
attribute [local go_sem] Oper.semAt_some

theorem below_drewN {B : Nat} {a w : World} (h : Below B a w) (n : Nat) : Below B a (w.drewN n) := ⟨h.os, h.tape, h.output, h.size, h.block⟩
/-- Texts in memory. -/
def Ss (w : World) (a : Option Addr) (n : Nat) (X : Nat → List UInt8) : Prop := ∀ i, i < n → ∃ b o, a = some ⟨b, o, none⟩ ∧ b < w.heap.size ∧ w.cell? ⟨b, o + i, none⟩ = some (tx (X i))
theorem keptL_ok : ∀ i : Fin 35, keptV.toArray[i.val]? = some (tx (keptL.getD i.val [])) := fun i => keptV_get i.isLt
theorem keptV_size : keptV.toArray.size = 35 := rfl

set_option maxRecDepth 100000 in
set_option maxHeartbeats 8000000 in
theorem words_walk (a : Option Addr) (n c : Nat) (X : Nat → List UInt8) (w : World) (hX : Ss w a n X) (hn : n ≤ 9223372036854775807) (hG : Gl w) :
    Calls Tryd.prog 4 #[.slice a n c] w fun e w' => e = .returned (.bool true) ∧ Below w.heap.size w w' := by
  have WK := Lib.hid (wakes_any w hG)
  have GH := Lib.hid hG
  have XH := Lib.hid hX
  have KS := Lib.hid (fun W hg => keys_any W hg)
  have RKS := Lib.hid (fun W => rkeys_any W)
  have KG := Lib.hid (fun i hi => keptV_get (i := i) hi)
  have KZ := Lib.hid keptV_size
  generalize keptV.toArray = KV at *
  clear hG hX
  go_enter Tryd.func4, Tryd.ntmps4
  go_upto_region 3 with (go_at_call 8; refine WK.out.mono ?_; rintro e w1 ⟨rfl, hb⟩; have H1 := Lib.hid hb; have K1 := Lib.hid (KS.out w1 (GH.out.on hb)); clear hb WK)
  go_upto_region 6 with (first
    | (go_at_call 17; refine K1.out.mono ?_; rintro e w2 ⟨rfl, hb, hw⟩; have B2 := Lib.hid hb; have W2 := Lib.hid hw; have K2 := Lib.hid (RKS.out w2); clear hb hw K1)
    | (go_at_call 18; refine K2.out.mono ?_; rintro e w3 ⟨rfl, hb, hw⟩; have B3 := Lib.hid hb; have W3 := Lib.hid hw; clear hb hw K2))
  obtain ⟨gk, hgk⟩ : ∃ g, w1.heap.size = g := ⟨_, rfl⟩
  obtain ⟨gw, hgw⟩ : ∃ g, w2.heap.size = g := ⟨_, rfl⟩
  have L2 := B2.out.lt
  have L3 := B3.out.lt
  rw [hgk] at B2 W2 L2
  rw [hgw] at B3 W3 L3 L2
  rw [hgk, hgw]
  have B4 := Lib.hid (B2.out.below W3.out L2)
  have H3 : Hid (Below w.heap.size w w3) := Lib.hid (H1.out.trans ((W2.out.mono (by have := H1.out.size; omega)).trans (W3.out.mono (by have := H1.out.size; omega))))
  have hwk : w.heap.size ≤ gk := by have := H1.out.size; omega
  clear B2 W2 W3 H1
  go_upto_region 7 with fail
  go_loopw [24] (fun iv wr => ∃ (i : Nat) (cs : Array Value), i ≤ 35 ∧ iv = .int .i64 (i : Int) ∧ Hid (Blk wr gk 66 cs) ∧ Hid (∀ j, i ≤ j → j < 35 → cs[j]? = some (tx (keptL.getD j []))) ∧ cs.size = 35 ∧ Hid (Blk wr gw 9 KV) ∧ Hid (Below w.heap.size w wr)) (fun iv _ => 35 - (intOf iv).toNat)
  case atStart => exact ⟨0, KV, Nat.zero_le _, rfl, B4, Lib.hid (fun j _ hj => KG.out j hj), KZ.out, B3, H3⟩
  case round =>
    obtain ⟨i, cs, hi, rfl, HC, HA, hcs, HW, HB⟩ := hrel
    by_cases hlt : i < 35
    · have i0 : (0 : Int) ≤ (i : Int) := by omega
      have i1 : (i : Int) < 35 := by omega
      have x0 : wr.cell? ⟨gk, i, none⟩ = some (tx (keptL.getD i [])) := (HC.out.cell i).trans (HA.out i (Nat.le_refl _) hlt)
      have y0 : wr.frozen? ⟨gk, i, none⟩ = false := HC.out.frozen i
      have x1 : wr.cell? ⟨gw, i, none⟩ = some (tx (keptL.getD i [])) := (HW.out.cell i).trans (KG.out i hlt)
      generalize keptL.getD i [] = kk at *
      go_upto_region 9 with fail
      go_quiet (fail)
      go_wp2_with fail
      go_roundw
      case rel => exact ⟨i + 1, cs.setIfInBounds i (.string ⟨#[63]⟩), by omega, by go_num, Lib.hid (HC.out.set_ i _), Lib.hid (fun j h1 h2 => by rw [Array.getElem?_setIfInBounds_ne (by omega)]; exact HA.out j (by omega) h2), by simpa using hcs, Lib.hid (HW.out.far (by simp; omega) _), Lib.hid ((below_drewN HB.out _).setCell (p := ⟨gk, i, none⟩) hwk _)⟩
      case measure => simp [intOf]; omega
    · obtain rfl : i = 35 := by omega
      rw [show ((35 : Nat) : Int) = 35 from rfl]
      obtain ⟨w5, rfl⟩ : ∃ x, x = wr := ⟨_, rfl⟩
      have GR := Lib.hid (GH.out.on HB.out)
      have KS5 := Lib.hid (fun W (h : Below w5.heap.size w5 W) => KS.out W (GR.out.on h))
      have HW5 := Lib.hid (fun W (h : Below w5.heap.size w5 W) => (HW.out.below h HW.out.lt))
      have K0 := KG.out 0 (by omega)
      generalize keptL.getD 0 [] = k0 at *
      clear HC HA KS KG RKS B3 B4
      go_upto_region 14 with fail
      go_loopw [42] (fun iv ws => ∃ i : Nat, i ≤ n ∧ i ≤ 30 ∧ iv = .int .i64 (i : Int) ∧ Hid (Below w5.heap.size w5 ws)) (fun iv _ => n - (intOf iv).toNat)
      case atStart => exact ⟨0, Nat.zero_le _, by omega, rfl, Lib.hid (Below.refl _ _)⟩
      case round =>
        obtain ⟨i, hi, hi30, rfl, HS⟩ := hrel
        obtain ⟨ws, rfl⟩ : ∃ x, x = wr := ⟨_, rfl⟩
        by_cases hlt2 : i < n
        · have j0 : (0 : Int) ≤ (i : Int) := by omega
          have j1 : (i : Int) < (n : Int) := by omega
          obtain ⟨b, o, ha, hb, hx⟩ := XH.out i hlt2
          subst ha
          have HWS := Lib.hid (HB.out.trans (HS.out.mono HB.out.size))
          have x0 : w5.cell? ⟨b, o + i, none⟩ = some (tx (X i)) := (HB.out.cell hb).trans hx
          have x1 := (HWS.out.cell (p := ⟨b, o + i, none⟩) hb).trans hx
          clear x0 hx
          by_cases h30 : i = 30
          · subst h30
            rw [show ((30 : Nat) : Int) = 30 from rfl]
            go_upto_region 23 with fail
            go_region_with (first
              | (go_at_call 17; refine (KS5.out _ P2.out).mono ?_; rintro e W3 ⟨rfl, hb, hw⟩; have P3 := Lib.hid (P2.out.trans (hw.mono P2.out.size)); have xk := (hb.cell 0).trans K0; have xw3 := ((HW5.out W3 P3.out).cell 0).trans K0; clear hb hw)
              | (go_at_call 17; refine (KS5.out _ HS.out.drew).mono ?_; rintro e W2 ⟨rfl, hb, hw⟩; have P2 := Lib.hid (HS.out.drew.trans (hw.mono HS.out.size)); have xw2 := ((HW5.out W2 P2.out).cell 0).trans K0; clear hb hw))
            all_goals (go_wp2_with fail; go_ret; exact ⟨rfl, HB.out.trans (P3.out.mono HB.out.size)⟩)
          · have e30 : ((i : Int) == 30) = false := by simp; omega
            generalize X i = x at *
            obtain ⟨m, hm⟩ : ∃ m : Nat, min (x.length : Int) 200 = (m : Int) := ⟨min x.length 200, by omega⟩
            have m0 : (0 : Int) ≤ (m : Int) := by omega
            have m1 : (m : Int) ≤ (x.length : Int) := by omega
            have EX := ext_eq x 0 m
            have hs : (cutF x 0 m).length ≤ 200 := by rw [cut_len (Nat.zero_le _) (by omega)]; omega
            generalize cutF x 0 m = s at *
            obtain ⟨kb, kk, hkr⟩ : ∃ kb kk, keyR s = .tuple #[tx kk, .bool kb] := by
              unfold keyR
              cases keyF s with
              | some k => exact ⟨true, k, rfl⟩
              | none => exact ⟨false, [], rfl⟩
            have C1 := Lib.hid (key_any s (by omega) ws (GH.out.on HWS.out))
            have C2 := Lib.hid (fun W => rkey_any s (by omega) W)
            rw [hkr] at C1 C2
            have C3 := Lib.hid (fun W hg => name_any s (by omega) W hg)
            have C4 := Lib.hid (fun W => rname_any s (by omega) W)
            have C5 := Lib.hid (fun W => quote_any s (by omega) W)
            have C6 := Lib.hid (fun W => rquote_any s (by omega) W)
            generalize nameB s = nb at *
            generalize quoteF s = qf at *
            clear hkr hs
            go_upto_region 20 with (first
              | (go_at_call 19; refine C1.out.mono ?_; rintro e w4 ⟨rfl, hb4⟩; have S4 := Lib.hid (HS.out.trans (hb4.mono HS.out.size)); clear hb4 C1)
              | (go_at_call 20; refine (C2.out _).mono ?_; rintro e v5 ⟨rfl, hb5⟩; have S5 := Lib.hid (S4.out.trans (hb5.mono S4.out.size)); have D3 := Lib.hid (C3.out v5 (GR.out.on S5.out)); clear hb5 C2 C3))
            go_wp2_with (first
              | (go_at_call 21; refine D3.out.mono ?_; rintro e w6 ⟨rfl, hb6⟩; have S6 := Lib.hid (S5.out.trans (hb6.mono S5.out.size)); clear hb6 D3)
              | (go_at_call 22; refine (C4.out _).mono ?_; rintro e w7 ⟨rfl, hb7⟩; have S7 := Lib.hid (S6.out.trans (hb7.mono S6.out.size)); clear hb7 C4)
              | (go_at_call 23; refine (C5.out _).mono ?_; rintro e w8 ⟨rfl, hb8⟩; have S8 := Lib.hid (S7.out.trans (hb8.mono S7.out.size)); clear hb8 C5)
              | (go_at_call 24; refine (C6.out _).mono ?_; rintro e w9 ⟨rfl, hb9⟩; have S9 := Lib.hid (S8.out.trans (hb9.mono S8.out.size)); clear hb9 C6))
            go_roundw
            case rel => exact ⟨i + 1, by omega, by omega, by go_num, S9⟩
            case measure => simp [intOf]; omega
        · obtain rfl : i = n := by omega
          go_upto_region 23 with fail
          go_region_with (first
            | (go_at_call 17; refine (KS5.out _ P2.out).mono ?_; rintro e W3 ⟨rfl, hb, hw⟩; have P3 := Lib.hid (P2.out.trans (hw.mono P2.out.size)); have xk := (hb.cell 0).trans K0; have xw3 := ((HW5.out W3 P3.out).cell 0).trans K0; clear hb hw)
            | (go_at_call 17; refine (KS5.out _ HS.out.drew).mono ?_; rintro e W2 ⟨rfl, hb, hw⟩; have P2 := Lib.hid (HS.out.drew.trans (hw.mono HS.out.size)); have xw2 := ((HW5.out W2 P2.out).cell 0).trans K0; clear hb hw))
          all_goals (go_wp2_with fail; go_ret; exact ⟨rfl, HB.out.trans (P3.out.mono HB.out.size)⟩)
end Go.Proofs.YtblcfjliabeaiaaDoor
