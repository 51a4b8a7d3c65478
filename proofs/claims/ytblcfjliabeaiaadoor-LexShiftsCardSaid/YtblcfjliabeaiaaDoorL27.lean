/-
  Which tokens are the same: the program's Same.
-/
import Derived.Test.YtblcfjliabeaiaaDoorL26
namespace Go.Proofs.YtblcfjliabeaiaaDoor
open Go.RowKit Go.Shelf
attribute [local go_sem] Oper.semAt_some
theorem below_dr {B : Nat} {a w : World} (h : Below B a w) (n : Nat) : Below B a (w.drewN n) := ⟨h.os, h.tape, h.output, h.size, h.block⟩

set_option maxRecDepth 100000 in
set_option maxHeartbeats 8000000 in
theorem same_any (A A' : Option Addr) (n n' c c' B : Nat) (ts us : List Tq) (w : World) (h : Trd w B A n ts) (h' : Trd w B A' n' us) (hn : n ≤ 1000000) (hn' : n' ≤ 1000000) (hB : B ≤ w.heap.size) :
    Calls Tryd.prog 12 #[.slice A n c, .slice A' n' c'] w fun e w' => e = .returned (.bool (samR ts us)) ∧ Below w.heap.size w w' := by
  by_cases hlen : n = n'
  · subst hlen
    have Y : Hid ((∀ j, j < n → coreT (ts.getD j errQ) = coreT (us.getD j errQ)) → samR ts us = true) := Lib.hid (fun ha => samR_yes (h.len.trans h'.len.symm) (fun j hj => ha j (by rw [← h.len]; exact hj)))
    have N : Hid (∀ j, j < n → ¬ coreT (ts.getD j errQ) = coreT (us.getD j errQ) → samR ts us = false) := Lib.hid (fun j hj ha => samR_no (h.len.trans h'.len.symm) (by rw [h.len]; exact hj) ha)
    have H := Lib.hid h
    have H' := Lib.hid h'
    generalize samR ts us = R at *
    clear h h'
    go_enter Tryd.func12, Tryd.ntmps12
    go_upto_region 4 with fail
    go_loopw [14] (fun iv wr => ∃ i : Nat, i ≤ n ∧ iv = .int .i64 (i : Int) ∧ Hid (∀ j, j < i → coreT (ts.getD j errQ) = coreT (us.getD j errQ)) ∧ Hid (Below w.heap.size w wr)) (fun iv _ => n - (intOf iv).toNat)
    case atStart => exact ⟨0, Nat.zero_le _, rfl, Lib.hid (fun j hj => absurd hj (by omega)), Lib.hid (Below.refl _ _)⟩
    case round =>
      obtain ⟨i, hi, rfl, HA, HB⟩ := hrel
      by_cases hlt : i < n
      · have i0 : (0 : Int) ≤ (i : Int) := by omega
        have i1 : (i : Int) < (n : Int) := by omega
        obtain ⟨b, o, rfl, hbB, x0, x1, x2, x3, x4⟩ := (H.out.below (HB.out.mono hB)).at_ hlt
        obtain ⟨b', o', rfl, hbB', y0, y1, y2, y3, y4⟩ := (H'.out.below (HB.out.mono hB)).at_ hlt
        have N1 := Lib.hid (N.out i hlt)
        have HA1 : Hid (coreT (ts.getD i errQ) = coreT (us.getD i errQ) → ∀ j, j < i + 1 → coreT (ts.getD j errQ) = coreT (us.getD j errQ)) := Lib.hid (fun e j hj => by
          by_cases hji : j = i
          · subst hji; exact e
          · exact HA.out j (by omega))
        generalize ts.getD i errQ = t at *
        generalize us.getD i errQ = u at *
        obtain ⟨kind, text, num, aa, to_⟩ := t
        obtain ⟨kind', text', num', aa', to'⟩ := u
        simp only at x0 x1 x2 x3 x4 y0 y1 y2 y3 y4
        have AL : Below wr.heap.size wr (wr.alloc (.cells #[.int .i64 kind, tx text, .int .i64 num, .int .i64 (aa : Int), .int .i64 (to_ : Int)] 47)) := (Below.refl _ _).alloc (Nat.le_refl _) _
        have HV : Hid (Below w.heap.size w (wr.alloc (.cells #[.int .i64 kind, tx text, .int .i64 num, .int .i64 (aa : Int), .int .i64 (to_ : Int)] 47))) := Lib.hid (HB.out.trans (AL.mono HB.out.size))
        have lb' : b' < wr.heap.size := by have := HB.out.size; omega
        have yy0 := (AL.cell (p := ⟨b', o' + i * 5, none⟩) lb').trans y0
        have yy1 := (AL.cell (p := ⟨b', o' + i * 5 + 1, none⟩) lb').trans y1
        have yy2 := (AL.cell (p := ⟨b', o' + i * 5 + 2, none⟩) lb').trans y2
        have yy3 := (AL.cell (p := ⟨b', o' + i * 5 + 3, none⟩) lb').trans y3
        have yy4 := (AL.cell (p := ⟨b', o' + i * 5 + 4, none⟩) lb').trans y4
        obtain ⟨p, hp⟩ : ∃ p, wr.heap.size = p := ⟨_, rfl⟩
        have Z : Blk (wr.alloc (.cells #[.int .i64 kind, tx text, .int .i64 num, .int .i64 (aa : Int), .int .i64 (to_ : Int)] 47)) p 47 #[.int .i64 kind, tx text, .int .i64 num, .int .i64 (aa : Int), .int .i64 (to_ : Int)] := by rw [← hp]; exact Blk.new _ _ _
        have hwp : w.heap.size ≤ p := by rw [← hp]; exact HB.out.size
        have nb : ¬ p = b' := by omega
        have nb2 : ¬ b' = p := by omega
        have z0 : World.cell? _ ⟨p, 0, none⟩ = some (.int .i64 kind) := Z.cell 0
        have z1 : World.cell? _ ⟨p, 1, none⟩ = some (tx text) := Z.cell 1
        have z2 : World.cell? _ ⟨p, 2, none⟩ = some (.int .i64 num) := Z.cell 2
        have z3 : World.cell? _ ⟨p, 3, none⟩ = some (.int .i64 (aa : Int)) := Z.cell 3
        have z4 : World.cell? _ ⟨p, 4, none⟩ = some (.int .i64 (to_ : Int)) := Z.cell 4
        have zf3 := Z.frozen 3
        have zf4 := Z.frozen 4
        have ZH := Lib.hid Z
        have lp : b' < p := by omega
        clear AL Z
        go_upto_region 6 with fail
        try rw [hp]
        clear x0 x1 x2 x3 x4 y0 y1 y2 y3 y4
        generalize wr.alloc (.cells #[.int .i64 kind, tx text, .int .i64 num, .int .i64 (aa : Int), .int .i64 (to_ : Int)] 47) = w1 at *
        by_cases h1 : kind = kind'
        · subst h1
          by_cases h2 : text = text'
          · subst h2
            by_cases h3 : num = num'
            · subst h3
              have HA2 := Lib.hid (HA1.out rfl)
              clear N1 HA1
              go_region
              go_upto_region 7 with fail
              have Z2 : Hid (Blk (((w1.setCell ⟨p, 3, none⟩ (.int .i64 (aa' : Int))).setCell ⟨p, 4, none⟩ (.int .i64 (to' : Int))).drew) p 47 #[.int .i64 kind, tx text, .int .i64 num, .int .i64 (aa' : Int), .int .i64 (to' : Int)]) := Lib.hid ((ZH.out.set_ 3 _).set_ 4 _)
              have B2 : Hid (Below p w1 (((w1.setCell ⟨p, 3, none⟩ (.int .i64 (aa' : Int))).setCell ⟨p, 4, none⟩ (.int .i64 (to' : Int))).drew)) := Lib.hid ((((Below.refl p w1).setCell (p := ⟨p, 3, none⟩) (Nat.le_refl _) _).setCell (p := ⟨p, 4, none⟩) (Nat.le_refl _) _).drew)
              generalize (((w1.setCell ⟨p, 3, none⟩ (.int .i64 (aa' : Int))).setCell ⟨p, 4, none⟩ (.int .i64 (to' : Int))).drew) = w2 at *
              clear z0 z1 z2 z3 z4 zf3 zf4
              have z0 := Z2.out.cell 0
              have z1 := Z2.out.cell 1
              have z2 := Z2.out.cell 2
              have z3 := Z2.out.cell 3
              have z4 := Z2.out.cell 4
              have q0 := (B2.out.cell (p := ⟨b', o' + i * 5, none⟩) lp).trans yy0
              have q1 := (B2.out.cell (p := ⟨b', o' + i * 5 + 1, none⟩) lp).trans yy1
              have q2 := (B2.out.cell (p := ⟨b', o' + i * 5 + 2, none⟩) lp).trans yy2
              have q3 := (B2.out.cell (p := ⟨b', o' + i * 5 + 3, none⟩) lp).trans yy3
              have q4 := (B2.out.cell (p := ⟨b', o' + i * 5 + 4, none⟩) lp).trans yy4
              clear yy0 yy1 yy2 yy3 yy4
              go_quiet (fail)
              go_wp2_with fail
              go_roundw
              case rel => exact ⟨i + 1, by omega, by go_num, HA2, Lib.hid (below_dr (HV.out.trans (B2.out.mono hwp)) _)⟩
              case measure => simp [intOf]; omega
            · have hR := Lib.hid (N1.out (fun e => h3 (congrArg (fun x => x.2.2) e)))
              have f5 : (num == num') = false := beq_eq_false_iff_ne.2 h3
              have f7 : (num != num') = true := by simpa using h3
              clear N1 HA1
              go_region
              go_upto_region 7 with fail
              have Z2 : Hid (Blk (((w1.setCell ⟨p, 3, none⟩ (.int .i64 (aa' : Int))).setCell ⟨p, 4, none⟩ (.int .i64 (to' : Int))).drew) p 47 #[.int .i64 kind, tx text, .int .i64 num, .int .i64 (aa' : Int), .int .i64 (to' : Int)]) := Lib.hid ((ZH.out.set_ 3 _).set_ 4 _)
              have B2 : Hid (Below p w1 (((w1.setCell ⟨p, 3, none⟩ (.int .i64 (aa' : Int))).setCell ⟨p, 4, none⟩ (.int .i64 (to' : Int))).drew)) := Lib.hid ((((Below.refl p w1).setCell (p := ⟨p, 3, none⟩) (Nat.le_refl _) _).setCell (p := ⟨p, 4, none⟩) (Nat.le_refl _) _).drew)
              generalize (((w1.setCell ⟨p, 3, none⟩ (.int .i64 (aa' : Int))).setCell ⟨p, 4, none⟩ (.int .i64 (to' : Int))).drew) = w2 at *
              clear z0 z1 z2 z3 z4 zf3 zf4
              have z0 := Z2.out.cell 0
              have z1 := Z2.out.cell 1
              have z2 := Z2.out.cell 2
              have z3 := Z2.out.cell 3
              have z4 := Z2.out.cell 4
              have q0 := (B2.out.cell (p := ⟨b', o' + i * 5, none⟩) lp).trans yy0
              have q1 := (B2.out.cell (p := ⟨b', o' + i * 5 + 1, none⟩) lp).trans yy1
              have q2 := (B2.out.cell (p := ⟨b', o' + i * 5 + 2, none⟩) lp).trans yy2
              have q3 := (B2.out.cell (p := ⟨b', o' + i * 5 + 3, none⟩) lp).trans yy3
              have q4 := (B2.out.cell (p := ⟨b', o' + i * 5 + 4, none⟩) lp).trans yy4
              clear yy0 yy1 yy2 yy3 yy4
              go_quiet (fail)
              go_wp2_with fail
              go_ret
              exact ⟨by rw [hR.out]; rfl, below_dr (HV.out.trans (B2.out.mono hwp)) _⟩
          · have hR := Lib.hid (N1.out (fun e => h2 (congrArg (fun x => x.2.1) e)))
            have f5 : (text == text') = false := beq_eq_false_iff_ne.2 h2
            have f6 : ((⟨text.toArray⟩ : ByteArray) == ⟨text'.toArray⟩) = false := by rw [ba_beq]; exact f5
            have f7 : ((⟨text.toArray⟩ : ByteArray) != ⟨text'.toArray⟩) = true := by unfold bne; rw [f6]; rfl
            clear N1 HA1
            go_region
            go_upto_region 7 with fail
            have Z2 : Hid (Blk (((w1.setCell ⟨p, 3, none⟩ (.int .i64 (aa' : Int))).setCell ⟨p, 4, none⟩ (.int .i64 (to' : Int))).drew) p 47 #[.int .i64 kind, tx text, .int .i64 num, .int .i64 (aa' : Int), .int .i64 (to' : Int)]) := Lib.hid ((ZH.out.set_ 3 _).set_ 4 _)
            have B2 : Hid (Below p w1 (((w1.setCell ⟨p, 3, none⟩ (.int .i64 (aa' : Int))).setCell ⟨p, 4, none⟩ (.int .i64 (to' : Int))).drew)) := Lib.hid ((((Below.refl p w1).setCell (p := ⟨p, 3, none⟩) (Nat.le_refl _) _).setCell (p := ⟨p, 4, none⟩) (Nat.le_refl _) _).drew)
            generalize (((w1.setCell ⟨p, 3, none⟩ (.int .i64 (aa' : Int))).setCell ⟨p, 4, none⟩ (.int .i64 (to' : Int))).drew) = w2 at *
            clear z0 z1 z2 z3 z4 zf3 zf4
            have z0 := Z2.out.cell 0
            have z1 := Z2.out.cell 1
            have z2 := Z2.out.cell 2
            have z3 := Z2.out.cell 3
            have z4 := Z2.out.cell 4
            have q0 := (B2.out.cell (p := ⟨b', o' + i * 5, none⟩) lp).trans yy0
            have q1 := (B2.out.cell (p := ⟨b', o' + i * 5 + 1, none⟩) lp).trans yy1
            have q2 := (B2.out.cell (p := ⟨b', o' + i * 5 + 2, none⟩) lp).trans yy2
            have q3 := (B2.out.cell (p := ⟨b', o' + i * 5 + 3, none⟩) lp).trans yy3
            have q4 := (B2.out.cell (p := ⟨b', o' + i * 5 + 4, none⟩) lp).trans yy4
            clear yy0 yy1 yy2 yy3 yy4
            go_quiet (fail)
            go_wp2_with fail
            go_ret
            exact ⟨by rw [hR.out]; rfl, below_dr (HV.out.trans (B2.out.mono hwp)) _⟩
        · have hR := Lib.hid (N1.out (fun e => h1 (congrArg (fun x => x.1) e)))
          have f5 : (kind == kind') = false := beq_eq_false_iff_ne.2 h1
          have f7 : (kind != kind') = true := by simpa using h1
          clear N1 HA1
          go_region
          go_upto_region 7 with fail
          have Z2 : Hid (Blk (((w1.setCell ⟨p, 3, none⟩ (.int .i64 (aa' : Int))).setCell ⟨p, 4, none⟩ (.int .i64 (to' : Int))).drew) p 47 #[.int .i64 kind, tx text, .int .i64 num, .int .i64 (aa' : Int), .int .i64 (to' : Int)]) := Lib.hid ((ZH.out.set_ 3 _).set_ 4 _)
          have B2 : Hid (Below p w1 (((w1.setCell ⟨p, 3, none⟩ (.int .i64 (aa' : Int))).setCell ⟨p, 4, none⟩ (.int .i64 (to' : Int))).drew)) := Lib.hid ((((Below.refl p w1).setCell (p := ⟨p, 3, none⟩) (Nat.le_refl _) _).setCell (p := ⟨p, 4, none⟩) (Nat.le_refl _) _).drew)
          generalize (((w1.setCell ⟨p, 3, none⟩ (.int .i64 (aa' : Int))).setCell ⟨p, 4, none⟩ (.int .i64 (to' : Int))).drew) = w2 at *
          clear z0 z1 z2 z3 z4 zf3 zf4
          have z0 := Z2.out.cell 0
          have z1 := Z2.out.cell 1
          have z2 := Z2.out.cell 2
          have z3 := Z2.out.cell 3
          have z4 := Z2.out.cell 4
          have q0 := (B2.out.cell (p := ⟨b', o' + i * 5, none⟩) lp).trans yy0
          have q1 := (B2.out.cell (p := ⟨b', o' + i * 5 + 1, none⟩) lp).trans yy1
          have q2 := (B2.out.cell (p := ⟨b', o' + i * 5 + 2, none⟩) lp).trans yy2
          have q3 := (B2.out.cell (p := ⟨b', o' + i * 5 + 3, none⟩) lp).trans yy3
          have q4 := (B2.out.cell (p := ⟨b', o' + i * 5 + 4, none⟩) lp).trans yy4
          clear yy0 yy1 yy2 yy3 yy4
          go_quiet (fail)
          go_wp2_with fail
          go_ret
          exact ⟨by rw [hR.out]; rfl, below_dr (HV.out.trans (B2.out.mono hwp)) _⟩
      · obtain rfl : i = n := by omega
        have hR := Lib.hid (Y.out HA.out)
        go_wp2_with fail
        go_ret
        exact ⟨by rw [hR.out]; rfl, HB.out⟩
  · have d : samR ts us = false := samR_len (fun e => hlen (by rw [← h.len, ← h'.len, e]))
    rw [d]
    have e : ((n : Int) != (n' : Int)) = true := by simp; omega
    have e2 : ¬ (n : Int) = (n' : Int) := by omega
    clear h h' d
    go_enter Tryd.func12, Tryd.ntmps12
    go_wp2
    go_ret
    exact ⟨rfl, Below.refl _ _⟩

end Go.Proofs.YtblcfjliabeaiaaDoor
