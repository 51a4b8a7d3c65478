/-
  What a log meets of offers, and what it is when it takes them: the law LogMeets.
-/
import Derived.Test.YtmgaihdepglahaaQX
import Derived.Test.YtmgaihdepglahaaOW
import Derived.Test.YtmgaihdepglahaaMA
import Derived.Deep.CutBlock
namespace Go.Proofs.Ytmgaihdepglahaa
open Go.RowKit
attribute [local go_sem ↓] eqA neA eqGA field1

set_option linter.unusedSimpArgs false in
set_option maxRecDepth 100000 in
set_option maxHeartbeats 16000000 in
theorem meets_walk (g : Gc) (oA : Option Addr) (on oc : Nat) (gs : List Gc) (w : World) (hg : g.raw w w.heap.size) (hG : Gin w w.heap.size oA on gs) :
    Calls Try.prog 3 #[.agg #[.int .u64 g.bi, .int .u64 g.bt, .slice g.A g.n g.c], .slice oA on oc] w fun e w' => e = .returned (.bool true) ∧ Below w.heap.size w w' := by
  have H := Lib.hid hG
  obtain ⟨L, hL⟩ : ∃ L, fewG g.bi g.bt (g.xs.map Ec.en) = L := ⟨_, rfl⟩
  have OW := Lib.hid (fun W (hW : Below w.heap.size w W) => own_any g.bi g.bt g.A g.n g.c w.heap.size g.xs W (hg.es.below hW) hW.size)
  rw [hL] at OW
  have hLF : Few L.es := by rw [← hL]; exact fewL_few _
  have hLok : Lok L := by
    rw [← hL]
    exact ⟨by have := (fewL_few (g.xs.map Ec.en)).1; show (fewL _).length ≤ 100; omega, hg.bi0, hg.bi1, hg.bt0, hg.bt1⟩
  have b30 : Blk (w.alloc (.cells #[.int .u64 g.bi, .int .u64 g.bt, .slice g.A g.n g.c] 27)) w.heap.size 27 #[.int .u64 g.bi, .int .u64 g.bt, .slice g.A g.n g.c] := Blk.new w 27 _
  have hb30 : Below w.heap.size w (w.alloc (.cells #[.int .u64 g.bi, .int .u64 g.bt, .slice g.A g.n g.c] 27)) := (Below.refl _ _).alloc (Nat.le_refl _) _
  clear hL hg hG
  go_enter Try.func3, Try.ntmps3
  go_wp2_with fail
  refine (wakes_any _).mono ?_
  rintro e w0 ⟨rfl, hb0⟩
  have b3 := b30.below hb0 b30.lt
  have HB0 := hb30.trans (hb0.mono hb30.size)
  clear hb0 b30 hb30
  obtain ⟨x0, x1, x2⟩ := b3.three
  go_wp2_with fail
  refine (OW.out _ HB0).mono ?_
  rintro e w1 ⟨AL, nL, cL, rfl, ho1, hb1⟩
  have b31 := b3.below hb1 b3.lt
  have HB1' := HB0.trans (hb1.mono HB0.size)
  have ho1' := ho1.down HB0.size
  clear hb1 ho1 x0 x1 x2
  obtain ⟨x0, x1, x2⟩ := b31.three
  have y0 := b31.frozen 0
  have y1 := b31.frozen 1
  have y2 := b31.frozen 2
  have hon := set3_only w1 w.heap.size (.int .u64 L.bi) (.int .u64 L.bt) (.slice AL nL cL)
  have B32 : Hid (Blk (((w1.setCell ⟨w.heap.size, 0, none⟩ (.int .u64 L.bi)).setCell ⟨w.heap.size, 1, none⟩ (.int .u64 L.bt)).setCell ⟨w.heap.size, 2, none⟩ (.slice AL nL cL)) w.heap.size 27 #[.int .u64 L.bi, .int .u64 L.bt, .slice AL nL cL]) := Lib.hid (((b31.set_ 0 _).set_ 1 _).set_ 2 _)
  have HL2 := Lib.hid (EoT.of (ho1'.only27 b31 hon))
  have HB2 := Lib.hid (HB1'.trans (hon.below (Nat.le_refl _)))
  clear hon ho1' HB1' b3 HB0 b31
  go_wp2_with fail
  clear x0 x1 x2 y0 y1 y2
  generalize (((w1.setCell ⟨w.heap.size, 0, none⟩ (.int .u64 L.bi)).setCell ⟨w.heap.size, 1, none⟩ (.int .u64 L.bt)).setCell ⟨w.heap.size, 2, none⟩ (.slice AL nL cL)) = w2 at *
  have OL : Hid (∀ W b s, EoT W b s AL nL cL L.es → Calls Try.prog 11 #[.agg #[.int .u64 L.bi, .int .u64 L.bt, .slice AL nL cL]] W (Lgd W L)) := Lib.hid (fun W b s ho => by
    obtain ⟨xs, hx1, hx2⟩ := ho.eo.read.ein
    have := own_any L.bi L.bt AL nL cL W.heap.size xs W hx2 (Nat.le_refl _)
    unfold fewG at this
    rw [hx1, fewL_id hLF] at this
    exact this)
  refine (OL.out w2 _ _ HL2.out).mono ?_
  rintro e w3 ⟨AW, nW, cW, rfl, ho, hb⟩
  have B33 := Lib.hid (B32.out.below hb B32.out.lt)
  have HL3 := Lib.hid (EoT.below HL2.out hb)
  have HB3 := Lib.hid (HB2.out.trans (hb.mono HB2.out.size))
  have HW3 := Lib.hid (EoT.of (ho.down HB2.out.size))
  clear hb ho
  go_wp2_with fail
  have hb : Below w3.heap.size w3 (w3.alloc (.cells #[.int .u64 L.bi, .int .u64 L.bt, .slice AW nW cW] 27)) := (Below.refl _ _).alloc (Nat.le_refl _) _
  have B34 := Lib.hid (B33.out.below hb B33.out.lt)
  have HL4 := Lib.hid (EoT.below HL3.out hb)
  have HW4 := Lib.hid (EoT.below HW3.out hb)
  have HB4 := Lib.hid (HB3.out.trans (hb.mono HB3.out.size))
  have B74 : Hid (Blk (w3.alloc (.cells #[.int .u64 L.bi, .int .u64 L.bt, .slice AW nW cW] 27)) w3.heap.size 27 #[.int .u64 L.bi, .int .u64 L.bt, .slice AW nW cW]) := Lib.hid (Blk.new _ _ _)
  clear hb
  generalize (w3.alloc (.cells #[.int .u64 L.bi, .int .u64 L.bt, .slice AW nW cW] 27)) = w4 at *
  generalize w3.heap.size = p7 at *
  have LR : Hid (∀ W A n c b s, EoT W b s A n c L.es → Lr W W.heap.size A n c L) := Lib.hid (fun W A n c b s ho => hLok.lr ho.eo)
  have RI : Hid (∀ W b s, EoT W b s AW nW cW L.es → Calls Try.prog 12 #[.agg #[.int .u64 L.bi, .int .u64 L.bt, .slice AW nW cW]] W fun e w' => e = .returned (.bool (right L)) ∧ Below W.heap.size W w') := Lib.hid (fun W b s ho => refright_any L AW nW cW _ W (LR.out W _ _ _ _ _ ho) (Nat.le_refl _))
  have RS : Hid (∀ (l : Lg), Lok l → ∀ W A n c b A' n' c' b', Eo W b A n c l.es → Eo W b' A' n' c' l.es → Calls Try.prog 18 #[.agg #[.int .u64 l.bi, .int .u64 l.bt, .slice A n c], .agg #[.int .u64 l.bi, .int .u64 l.bt, .slice A' n' c']] W fun e w' => e = .returned (.bool true) ∧ Below W.heap.size W w') := Lib.hid (fun l hl W A n c b A' n' c' b' ho ho' => by
    have := refsame_any l l A A' n n' c c' _ W (hl.lr ho) (hl.lr ho') (Nat.le_refl _)
    rw [decide_eq_true rfl] at this
    exact this)
  have HLK := Lib.hid hLok
  have HL32 := Lib.hid hLF.1
  have HN := Lib.hid (show nL ≤ 32 by have := HL4.out.eo.len; have := hLF.1; omega)
  clear OW OL hLok hLF HB2 HB3 B32 B33 HL2 HL3 HW3
  generalize w2.heap.size = T2 at *
  refine (RI.out w4 _ _ HW4.out).mono ?_
  rintro e w5 ⟨rfl, hb⟩
  have B35 := Lib.hid (B34.out.below hb B34.out.lt)
  have B75 := Lib.hid (B74.out.below hb B74.out.lt)
  have HL5 := Lib.hid (EoT.below HL4.out hb)
  have HW5 := Lib.hid (EoT.below HW4.out hb)
  have HB5 := Lib.hid (HB4.out.trans (hb.mono HB4.out.size))
  clear hb HB4 B34 B74 HL4 HW4 RI
  cases hr : right L with
  | true =>
    go_wp2_with fail
    go_loopw [31] (fun ix wr => ∃ k : Nat, k ≤ on ∧ k ≤ 8 ∧ ix = .int .i64 k ∧ Below w.heap.size w wr ∧ Blk wr w.heap.size 27 #[.int .u64 L.bi, .int .u64 L.bt, .slice AL nL cL] ∧ Blk wr p7 27 #[.int .u64 L.bi, .int .u64 L.bt, .slice AW nW cW] ∧ EoT wr w.heap.size T2 AL nL cL L.es ∧ EoT wr w.heap.size p7 AW nW cW L.es) (fun ix _ => on - (intOf ix).toNat)
    case atStart => exact ⟨0, Nat.zero_le _, Nat.zero_le _, rfl, HB5.out, B35.out, B75.out, HL5.out, HW5.out⟩
    case round =>
      obtain ⟨k, hk, hk8, rfl, h0, b3', b7', eL', eW'⟩ := hrel
      generalize wr = v0 at *
      have HB0 := Lib.hid h0
      have B30 := Lib.hid b3'
      have B70 := Lib.hid b7'
      have HL0 := Lib.hid eL'
      have HW0 := Lib.hid eW'
      clear h0 b3' b7' eL' eW'
      by_cases hlt : k < on
      · obtain ⟨b, o, rfl⟩ : ∃ b o, oA = some ⟨b, o, none⟩ := by
          obtain ⟨b, o, e, _⟩ := H.out.2.2 (by omega)
          exact ⟨b, o, e⟩
        obtain ⟨x, hx, hraw, hbB, c0, c1, c2⟩ := H.out.at_ hlt HB0.out
        obtain ⟨x', hx', hraw', _⟩ := H.out.at_ hlt (Below.refl _ w)
        rw [hx] at hx'
        injection hx' with hx'
        subst hx'
        obtain ⟨pi, pt, xA, xn, xc, oxs⟩ := x
        obtain ⟨hoes, hp0, hp1, ht0, ht1⟩ := hraw'
        simp only at c0 c1 c2 hoes hp0 hp1 ht0 ht1
        clear hraw hx
        have k0 : (0 : Int) ≤ (k : Int) := by omega
        have kI : (k : Int) < (on : Int) := by omega
        have hbr : b < v0.heap.size := by have := HB0.out.size; omega
        by_cases h8 : k = 8
        · have h8' : ((k : Int) == 8) = true := by simp; omega
          have HB1 := Lib.hid (HB0.out.alloc HB0.out.size (.cells #[.int .u64 pi, .int .u64 pt, .slice xA xn xc] 33))
          clear hlt hk hk8 h8
          go_wp2
          go_ret
          exact ⟨rfl, HB1.out⟩
        · have h8' : ((k : Int) == 8) = false := by simp; omega
          have HK := Lib.hid (show k + 1 ≤ 8 ∧ k < on from ⟨by omega, hlt⟩)
          clear hlt hk hk8 h8
          go_wp2_with fail
          have hb : Below v0.heap.size v0 (v0.alloc (.cells #[.int .u64 pi, .int .u64 pt, .slice xA xn xc] 33)) := (Below.refl _ _).alloc (Nat.le_refl _) _
          have B31 := Lib.hid (B30.out.below hb B30.out.lt)
          have B71 := Lib.hid (B70.out.below hb B70.out.lt)
          have HL1 := Lib.hid (EoT.below HL0.out hb)
          have HW1 := Lib.hid (EoT.below HW0.out hb)
          have HB1 := Lib.hid (HB0.out.trans (hb.mono HB0.out.size))
          have B81 : Hid (Blk (v0.alloc (.cells #[.int .u64 pi, .int .u64 pt, .slice xA xn xc] 33)) v0.heap.size 33 #[.int .u64 pi, .int .u64 pt, .slice xA xn xc]) := Lib.hid (Blk.new _ _ _)
          clear hb
          generalize (v0.alloc (.cells #[.int .u64 pi, .int .u64 pt, .slice xA xn xc] 33)) = v1 at *
          generalize v0.heap.size = p8 at *
          clear c0 c1 c2 k0 kI hbr h8'
          obtain ⟨M, hM⟩ : ∃ M, fewL (oxs.map Ec.en) = M := ⟨_, rfl⟩
          obtain ⟨nM, hnM⟩ : ∃ nM, min xn 32 = nM := ⟨_, rfl⟩
          have FW := Lib.hid (fun W (hW : Below w.heap.size w W) => few_any xA xn xc w.heap.size oxs W (hoes.below hW) hW.size)
          rw [hM, hnM] at FW
          have hM32 : M.length ≤ 32 := by rw [← hM]; exact (fewL_few _).1
          clear hM hnM hoes
          have hb : Below v1.heap.size v1 v1.drew := (Below.refl _ _).drew
          have B32 := Lib.hid (B31.out.below hb B31.out.lt)
          have B72 := Lib.hid (B71.out.below hb B71.out.lt)
          have B82 := Lib.hid (B81.out.below hb B81.out.lt)
          have HL2 := Lib.hid (EoT.below HL1.out hb)
          have HW2 := Lib.hid (EoT.below HW1.out hb)
          have HB2 := Lib.hid (HB1.out.trans (hb.mono HB1.out.size))
          clear hb
          have hS0 := B82.out.three
          refine wp_region_noPanic ?_
          refine wp_region_held_drew (S := fun w' => w'.cell? ⟨p8, 0, none⟩ = some (.int .u64 pi) ∧ w'.cell? ⟨p8, 1, none⟩ = some (.int .u64 pt) ∧ w'.cell? ⟨p8, 2, none⟩ = some (.slice xA xn xc)) (by kernel_rfl) hS0 (fun hHeld => ?_)
          generalize v1.drew = v2 at *
          refine take_d (i := 0) (d := 38) (v := ?rt38) rfl rfl (by kernel_rfl) (by kernel_rfl) (by kernel_rfl) (fun _ _ _ h => h) (Or.inl ⟨by kernel_rfl, ?rt38h⟩) hHeld ?rt38n
          case rt38h => (intro w hSw; (try dsimp only at hSw); go_split_ands; go_simp; (try exact rfl))
          try simp only [Act.put, List.setIfInBounds_toArray, List.set_cons_zero, List.set_cons_succ]
          refine take_d (i := 1) (d := 39) (v := ?rt39) rfl rfl (by kernel_rfl) (by kernel_rfl) (by kernel_rfl) (fun _ _ _ h => h) (Or.inl ⟨by kernel_rfl, ?rt39h⟩) hHeld ?rt39n
          case rt39h => (intro w hSw; (try dsimp only at hSw); go_split_ands; go_simp; (try exact rfl))
          try simp only [Act.put, List.setIfInBounds_toArray, List.set_cons_zero, List.set_cons_succ]
          refine take_d (i := 3) (d := 41) (v := ?rt41) rfl rfl (by kernel_rfl) (by kernel_rfl) (by kernel_rfl) (fun _ _ _ h => h) (Or.inl ⟨by kernel_rfl, ?rt41h⟩) hHeld ?rt41n
          case rt41h => (intro w hSw; (try dsimp only at hSw); go_split_ands; go_simp; (try exact rfl))
          try simp only [Act.put, List.setIfInBounds_toArray, List.set_cons_zero, List.set_cons_succ]
          refine take_d (i := 4) (d := 42) (v := ?rt42) rfl rfl (by kernel_rfl) (by kernel_rfl) (by kernel_rfl) (fun _ _ _ h => h) (Or.inl ⟨by kernel_rfl, ?rt42h⟩) hHeld ?rt42n
          case rt42h => (intro w hSw; (try dsimp only at hSw); go_split_ands; go_simp; (try exact rfl))
          try simp only [Act.put, List.setIfInBounds_toArray, List.set_cons_zero, List.set_cons_succ]
          refine wpAnyH_ready (rs := [2]) (by kernel_rfl) (by simp) ?_
          refine AllReadyH.cons rfl (fun K hK => ?_) AllReadyH.nil
          go_simp
          refine (FW.out v2 HB2.out).mono ?_
          rintro e v3 ⟨AI, cI, rfl, ho, hb⟩
          have B33 := Lib.hid (B32.out.below hb B32.out.lt)
          have B73 := Lib.hid (B72.out.below hb B72.out.lt)
          have B83 := Lib.hid (B82.out.below hb B82.out.lt)
          have HL3 := Lib.hid (EoT.below HL2.out hb)
          have HW3 := Lib.hid (EoT.below HW2.out hb)
          have HB3 := Lib.hid (HB2.out.trans (hb.mono HB2.out.size))
          have HI3 := Lib.hid (EoT.of (ho.down HB2.out.size))
          clear ho hb
          refine hK.out _ _ (B83.out.three) (fun hHeld => ?_)
          clear hK K
          try simp only [Act.put, List.setIfInBounds_toArray, List.set_cons_zero, List.set_cons_succ]
          refine wpAnyH_ready (rs := [5]) (by kernel_rfl) (by simp) ?_
          refine AllReadyH.cons rfl (fun K hK => ?_) AllReadyH.nil
          go_simp
          refine (FW.out v3 HB3.out).mono ?_
          rintro e v4 ⟨AH, cH, rfl, ho, hb⟩
          have B34 := Lib.hid (B33.out.below hb B33.out.lt)
          have B74 := Lib.hid (B73.out.below hb B73.out.lt)
          have B84 := Lib.hid (B83.out.below hb B83.out.lt)
          have HL4 := Lib.hid (EoT.below HL3.out hb)
          have HW4 := Lib.hid (EoT.below HW3.out hb)
          have HI4 := Lib.hid (EoT.below HI3.out hb)
          have HB4 := Lib.hid (HB3.out.trans (hb.mono HB3.out.size))
          have HH4 := Lib.hid (EoT.of (ho.down HB3.out.size))
          clear ho hb
          refine hK.out _ _ (B84.out.three) (fun hHeld => ?_)
          clear hK K
          try simp only [Act.put, List.setIfInBounds_toArray, List.set_cons_zero, List.set_cons_succ]
          refine take_d (i := 6) (d := 9) (v := ?rt9) rfl rfl (by kernel_rfl) (by kernel_rfl) (by kernel_rfl) (fun _ _ _ h => h) (Or.inl ⟨by kernel_rfl, ?rt9h⟩) hHeld ?rt9n
          case rt9h => (intro w hSw; (try dsimp only at hSw); go_split_ands; go_simp; (try exact rfl))
          try simp only [Act.put, List.setIfInBounds_toArray, List.set_cons_zero, List.set_cons_succ]
          refine take_d (i := 7) (d := 10) (v := ?rt10) rfl rfl (by kernel_rfl) (by kernel_rfl) (by kernel_rfl) (fun _ _ _ h => h) (Or.inl ⟨by kernel_rfl, ?rt10h⟩) hHeld ?rt10n
          case rt10h => (intro w hSw; (try dsimp only at hSw); go_split_ands; go_simp; (try exact rfl))
          try simp only [Act.put, List.setIfInBounds_toArray, List.set_cons_zero, List.set_cons_succ]
          refine wpAnyH_done (by kernel_rfl) ?_ _
          refine NoPanic.normal ?_
          have hml : M.length = nM := HI4.out.eo.len
          have hm32 : nM ≤ 32 := by omega
          have hLl := HL4.out.eo.len
          have MR : Hid (∀ W A c b s, EoT W b s A nM c M → Lr W W.heap.size A nM c ⟨pi, pt, M⟩) := Lib.hid (fun W A c b s ho => Eo.lr (l := ⟨pi, pt, M⟩) ho.eo (by show M.length ≤ 1000; omega) hp0 hp1 ht0 ht1)
          have ME := Lib.hid (fun W b s b' s' ho ho' => Meet_any L ⟨pi, pt, M⟩ AL AI nL cL nM cI _ W (LR.out W AL nL cL b s ho) (MR.out W AI cI b' s' ho') (Nat.le_refl _))
          have TK := Lib.hid (fun W b s b' s' ho ho' => Take_any L ⟨pi, pt, M⟩ AL AI nL cL nM cI _ W (LR.out W AL nL cL b s ho) (MR.out W AI cI b' s' ho') (Nat.le_refl _) (by omega))
          have DM := Lib.hid (fun W b s b' s' ho ho' => refmeet_any L ⟨pi, pt, M⟩ AW AH nW cW nM cH _ W (LR.out W AW nW cW b s ho) (MR.out W AH cH b' s' ho') (Nat.le_refl _))
          have DT := Lib.hid (fun W b s b' s' ho ho' => reftake_any L ⟨pi, pt, M⟩ AW AH nW cW nM cH _ W (LR.out W AW nW cW b s ho) (MR.out W AH cH b' s' ho') (Nat.le_refl _) (by omega))
          simp only at ME TK DM DT
          have SE : Hid (∀ W b s b' s', EoT W b s AI nM cI M → EoT W b' s' AH nM cH M → Calls Try.prog 20 #[.slice AI nM cI, .slice AH nM cH] W fun e w' => e = .returned (.bool true) ∧ Below W.heap.size W w') := Lib.hid (fun W b s b' s' ho ho' => by
            have := sameentries_any AI AH nM nM cI cH _ M M W ho.eo.read ho'.eo.read (Nat.le_refl _) (by omega)
            rw [decide_eq_true rfl] at this
            exact this)
          have HXK : Hid (Lok (pTakeL L pi pt M)) := Lib.hid (HLK.out.take (by have := HL32.out; omega))
          obtain ⟨d1, d2⟩ := meet_doc hr pi pt M
          obtain ⟨d3, d4, d5⟩ := take_doc (pt := pt) (es := M) hr HLK.out.bi0 hp0
          rw [d1, d2] at DM
          rw [d3, d4, d5] at DT
          clear d1 d2 d3 d4 d5
          generalize meetN L pi pt M = MN at *
          generalize meetE L pi pt M = MEE at *
          generalize pTakeL L pi pt M = X at *
          generalize pTakeI L pi pt M = XI at *
          generalize pTakeE L pi pt M = XE at *
          clear FW MR hS0 hml hLl hM32 hp0 hp1 ht0 ht1
          obtain ⟨x0, x1, x2⟩ := B34.out.three
          obtain ⟨y0, y1, y2⟩ := B84.out.three
          go_wp2_with fail
          clear x0 x1 x2 y0 y1 y2
          refine (ME.out v4 _ _ _ _ HL4.out HI4.out).mono ?_
          rintro e v5 ⟨rfl, hb⟩
          have B35 := Lib.hid (B34.out.below hb B34.out.lt)
          have B75 := Lib.hid (B74.out.below hb B74.out.lt)
          have B85 := Lib.hid (B84.out.below hb B84.out.lt)
          have HL5 := Lib.hid (EoT.below HL4.out hb)
          have HW5 := Lib.hid (EoT.below HW4.out hb)
          have HI5 := Lib.hid (EoT.below HI4.out hb)
          have HH5 := Lib.hid (EoT.below HH4.out hb)
          have HB5 := Lib.hid (HB4.out.trans (hb.mono HB4.out.size))
          clear hb
          obtain ⟨x0, x1, x2⟩ := B75.out.three
          obtain ⟨y0, y1, y2⟩ := B85.out.three
          go_wp2_with fail
          clear x0 x1 x2 y0 y1 y2
          refine (DM.out v5 _ _ _ _ HW5.out HH5.out).mono ?_
          rintro e v6 ⟨rfl, hb⟩
          have B36 := Lib.hid (B35.out.below hb B35.out.lt)
          have B76 := Lib.hid (B75.out.below hb B75.out.lt)
          have B86 := Lib.hid (B85.out.below hb B85.out.lt)
          have HL6 := Lib.hid (EoT.below HL5.out hb)
          have HW6 := Lib.hid (EoT.below HW5.out hb)
          have HI6 := Lib.hid (EoT.below HI5.out hb)
          have HH6 := Lib.hid (EoT.below HH5.out hb)
          have HB6 := Lib.hid (HB5.out.trans (hb.mono HB5.out.size))
          clear hb
          obtain ⟨x0, x1, x2⟩ := B36.out.three
          obtain ⟨y0, y1, y2⟩ := B86.out.three
          go_wp2_with fail
          clear x0 x1 x2 y0 y1 y2
          refine (TK.out v6 _ _ _ _ HL6.out HI6.out).mono ?_
          rintro e v7 ⟨Ax, nx, cx, rfl, ho, hb⟩
          have B37 := Lib.hid (B36.out.below hb B36.out.lt)
          have B77 := Lib.hid (B76.out.below hb B76.out.lt)
          have B87 := Lib.hid (B86.out.below hb B86.out.lt)
          have HL7 := Lib.hid (EoT.below HL6.out hb)
          have HW7 := Lib.hid (EoT.below HW6.out hb)
          have HI7 := Lib.hid (EoT.below HI6.out hb)
          have HH7 := Lib.hid (EoT.below HH6.out hb)
          have HB7 := Lib.hid (HB6.out.trans (hb.mono HB6.out.size))
          have Hx7 := Lib.hid (EoT.of ho)
          have QS := Lib.hid (show w.heap.size < v6.heap.size ∧ p7 < v6.heap.size ∧ T2 ≤ v6.heap.size ∧ p7 ≤ v6.heap.size from ⟨B36.out.lt, B76.out.lt, HL6.out.1, Nat.le_of_lt B76.out.lt⟩)
          have QX := Lib.hid (show v6.heap.size ≤ v7.heap.size from hb.size)
          have QX := Lib.hid (show v6.heap.size ≤ v7.heap.size from hb.size)
          have QI := Lib.hid HI6.out.1
          have QH := Lib.hid HH6.out.1
          clear ho hb
          obtain ⟨x0, x1, x2⟩ := B77.out.three
          obtain ⟨y0, y1, y2⟩ := B87.out.three
          have hz7 := B77.out.lt
          have hz8 := B87.out.lt
          go_wp2_with fail
          clear x0 x1 x2 y0 y1 y2 hz7 hz8
          have hb : Below v7.heap.size v7 (v7.alloc (.cells #[.int .u64 X.bi, .int .u64 X.bt, .slice Ax nx cx] 27)) := (Below.refl _ _).alloc (Nat.le_refl _) _
          have B38 := Lib.hid (B37.out.below hb B37.out.lt)
          have B78 := Lib.hid (B77.out.below hb B77.out.lt)
          have B88 := Lib.hid (B87.out.below hb B87.out.lt)
          have HL8 := Lib.hid (EoT.below HL7.out hb)
          have HW8 := Lib.hid (EoT.below HW7.out hb)
          have HI8 := Lib.hid (EoT.below HI7.out hb)
          have HH8 := Lib.hid (EoT.below HH7.out hb)
          have Hx8 := Lib.hid (EoT.below Hx7.out hb)
          have HB8 := Lib.hid (HB7.out.trans (hb.mono HB7.out.size))
          have B158 : Hid (Blk (v7.alloc (.cells #[.int .u64 X.bi, .int .u64 X.bt, .slice Ax nx cx] 27)) v7.heap.size 27 #[.int .u64 X.bi, .int .u64 X.bt, .slice Ax nx cx]) := Lib.hid (Blk.new _ _ _)
          clear hb
          generalize (v7.alloc (.cells #[.int .u64 X.bi, .int .u64 X.bt, .slice Ax nx cx] 27)) = v8 at *
          generalize v7.heap.size = p15 at *
          refine (DT.out v8 _ _ _ _ HW8.out HH8.out).mono ?_
          rintro e v9 ⟨Ay, ny, cy, rfl, ho, hb⟩
          have B39 := Lib.hid (B38.out.below hb B38.out.lt)
          have B79 := Lib.hid (B78.out.below hb B78.out.lt)
          have B89 := Lib.hid (B88.out.below hb B88.out.lt)
          have B159 := Lib.hid (B158.out.below hb B158.out.lt)
          have HL9 := Lib.hid (EoT.below HL8.out hb)
          have HW9 := Lib.hid (EoT.below HW8.out hb)
          have HI9 := Lib.hid (EoT.below HI8.out hb)
          have HH9 := Lib.hid (EoT.below HH8.out hb)
          have Hx9 := Lib.hid (EoT.below Hx8.out hb)
          have HB9 := Lib.hid (HB8.out.trans (hb.mono HB8.out.size))
          have Hy9 := Lib.hid ho
          clear ho hb ME TK DM DT
          obtain ⟨x0, x1, x2⟩ := B159.out.three
          have hz := B159.out.lt
          go_wp2_with fail
          clear x0 x1 x2 hz
          have hb : Below v9.heap.size v9 (v9.alloc (.cells #[.int .u64 X.bi, .int .u64 X.bt, .slice Ay ny cy] 27)) := (Below.refl _ _).alloc (Nat.le_refl _) _
          have B310 := Lib.hid (B39.out.below hb B39.out.lt)
          have B710 := Lib.hid (B79.out.below hb B79.out.lt)
          have B810 := Lib.hid (B89.out.below hb B89.out.lt)
          have B1510 := Lib.hid (B159.out.below hb B159.out.lt)
          have HL10 := Lib.hid (EoT.below HL9.out hb)
          have HW10 := Lib.hid (EoT.below HW9.out hb)
          have HI10 := Lib.hid (EoT.below HI9.out hb)
          have HH10 := Lib.hid (EoT.below HH9.out hb)
          have Hx10 := Lib.hid (EoT.below Hx9.out hb)
          have HB10 := Lib.hid (HB9.out.trans (hb.mono HB9.out.size))
          have Hy10 := Lib.hid (Eo.below Hy9.out hb)
          clear hb
          generalize (v9.alloc (.cells #[.int .u64 X.bi, .int .u64 X.bt, .slice Ay ny cy] 27)) = v10 at *
          refine (RS.out X HXK.out v10 _ _ _ _ _ _ _ _ Hx10.out.eo Hy10.out).mono ?_
          rintro e v11 ⟨rfl, hb⟩
          have B311 := Lib.hid (B310.out.below hb B310.out.lt)
          have B711 := Lib.hid (B710.out.below hb B710.out.lt)
          have B811 := Lib.hid (B810.out.below hb B810.out.lt)
          have B1511 := Lib.hid (B1510.out.below hb B1510.out.lt)
          have HL11 := Lib.hid (EoT.below HL10.out hb)
          have HW11 := Lib.hid (EoT.below HW10.out hb)
          have HI11 := Lib.hid (EoT.below HI10.out hb)
          have HH11 := Lib.hid (EoT.below HH10.out hb)
          have Hx11 := Lib.hid (EoT.below Hx10.out hb)
          have HB11 := Lib.hid (HB10.out.trans (hb.mono HB10.out.size))
          clear hb
          obtain ⟨x0, x1, x2⟩ := B1511.out.three
          go_wp2_with fail
          clear x0 x1 x2
          refine (over_any X.bi X.bt Ax nx cx _ _ X.es v11 Hx11.out (by have := Hx11.out.eo.len; have := HXK.out.few; omega)).mono ?_
          rintro e v12 ⟨rfl, ho⟩
          have B312 := Lib.hid (ho.keep B311.out (by have := QS.out; omega))
          have B712 := Lib.hid (ho.keep B711.out (by have := QS.out; omega))
          have HL12 := Lib.hid (HL11.out.outs ho (by have := QS.out; omega))
          have HW12 := Lib.hid (HW11.out.outs ho (by have := QS.out; omega))
          have HI12 := Lib.hid (HI11.out.outs ho (Or.inl QI.out))
          have HH12 := Lib.hid (HH11.out.outs ho (Or.inl QH.out))
          have HB12 := Lib.hid (HB11.out.trans ((ho.below (by have := Hx11.out.1; have := QX.out; omega)).mono (by have := QS.out; omega)))
          clear ho
          obtain ⟨x0, x1, x2⟩ := B312.out.three
          obtain ⟨y0, y1, y2⟩ := B712.out.three
          go_wp2_with fail
          clear x0 x1 x2 y0 y1 y2
          refine (RS.out L HLK.out v12 _ _ _ _ _ _ _ _ HL12.out.eo HW12.out.eo).mono ?_
          rintro e v13 ⟨rfl, hb⟩
          have B313 := Lib.hid (B312.out.below hb B312.out.lt)
          have B713 := Lib.hid (B712.out.below hb B712.out.lt)
          have HL13 := Lib.hid (EoT.below HL12.out hb)
          have HW13 := Lib.hid (EoT.below HW12.out hb)
          have HI13 := Lib.hid (EoT.below HI12.out hb)
          have HH13 := Lib.hid (EoT.below HH12.out hb)
          have HB13 := Lib.hid (HB12.out.trans (hb.mono HB12.out.size))
          clear hb
          go_wp2_with fail
          refine (SE.out v13 _ _ _ _ HI13.out HH13.out).mono ?_
          rintro e v14 ⟨rfl, hb⟩
          have B314 := Lib.hid (B313.out.below hb B313.out.lt)
          have B714 := Lib.hid (B713.out.below hb B713.out.lt)
          have HL14 := Lib.hid (EoT.below HL13.out hb)
          have HW14 := Lib.hid (EoT.below HW13.out hb)
          have HB14 := Lib.hid (HB13.out.trans (hb.mono HB13.out.size))
          clear hb
          have j64 : wrap64 ((k : Int) + 1) = (k : Int) + 1 := by rw [wrap64_e]; have := HK.out; omega
          go_wp2
          go_roundw
          case rel => exact ⟨k + 1, HK.out.2, HK.out.1, (by first | (rw [j64]; rfl) | go_num), HB14.out, B314.out, B714.out, HL14.out, HW14.out⟩
          case measure => (try rw [j64]); clear j64; simp [intOf]; have := HK.out.2; omega
      · have kI : ¬ ((k : Int) < (on : Int)) := by omega
        go_wp2
        go_ret
        exact ⟨rfl, HB0.out⟩
  | false =>
    go_wp2_with fail
    go_loopw [31] (fun ix wr => ∃ k : Nat, k ≤ on ∧ k ≤ 8 ∧ ix = .int .i64 k ∧ Below w.heap.size w wr ∧ Blk wr w.heap.size 27 #[.int .u64 L.bi, .int .u64 L.bt, .slice AL nL cL] ∧ Blk wr p7 27 #[.int .u64 L.bi, .int .u64 L.bt, .slice AW nW cW] ∧ EoT wr w.heap.size T2 AL nL cL L.es ∧ EoT wr w.heap.size p7 AW nW cW L.es) (fun ix _ => on - (intOf ix).toNat)
    case atStart => exact ⟨0, Nat.zero_le _, Nat.zero_le _, rfl, HB5.out, B35.out, B75.out, HL5.out, HW5.out⟩
    case round =>
      obtain ⟨k, hk, hk8, rfl, h0, b3', b7', eL', eW'⟩ := hrel
      generalize wr = v0 at *
      have HB0 := Lib.hid h0
      have B30 := Lib.hid b3'
      have B70 := Lib.hid b7'
      have HL0 := Lib.hid eL'
      have HW0 := Lib.hid eW'
      clear h0 b3' b7' eL' eW'
      by_cases hlt : k < on
      · obtain ⟨b, o, rfl⟩ : ∃ b o, oA = some ⟨b, o, none⟩ := by
          obtain ⟨b, o, e, _⟩ := H.out.2.2 (by omega)
          exact ⟨b, o, e⟩
        obtain ⟨x, hx, hraw, hbB, c0, c1, c2⟩ := H.out.at_ hlt HB0.out
        obtain ⟨x', hx', hraw', _⟩ := H.out.at_ hlt (Below.refl _ w)
        rw [hx] at hx'
        injection hx' with hx'
        subst hx'
        obtain ⟨pi, pt, xA, xn, xc, oxs⟩ := x
        obtain ⟨hoes, hp0, hp1, ht0, ht1⟩ := hraw'
        simp only at c0 c1 c2 hoes hp0 hp1 ht0 ht1
        clear hraw hx
        have k0 : (0 : Int) ≤ (k : Int) := by omega
        have kI : (k : Int) < (on : Int) := by omega
        have hbr : b < v0.heap.size := by have := HB0.out.size; omega
        by_cases h8 : k = 8
        · have h8' : ((k : Int) == 8) = true := by simp; omega
          have HB1 := Lib.hid (HB0.out.alloc HB0.out.size (.cells #[.int .u64 pi, .int .u64 pt, .slice xA xn xc] 33))
          clear hlt hk hk8 h8
          go_wp2
          go_ret
          exact ⟨rfl, HB1.out⟩
        · have h8' : ((k : Int) == 8) = false := by simp; omega
          have HK := Lib.hid (show k + 1 ≤ 8 ∧ k < on from ⟨by omega, hlt⟩)
          clear hlt hk hk8 h8
          go_wp2_with fail
          have hb : Below v0.heap.size v0 (v0.alloc (.cells #[.int .u64 pi, .int .u64 pt, .slice xA xn xc] 33)) := (Below.refl _ _).alloc (Nat.le_refl _) _
          have B31 := Lib.hid (B30.out.below hb B30.out.lt)
          have B71 := Lib.hid (B70.out.below hb B70.out.lt)
          have HL1 := Lib.hid (EoT.below HL0.out hb)
          have HW1 := Lib.hid (EoT.below HW0.out hb)
          have HB1 := Lib.hid (HB0.out.trans (hb.mono HB0.out.size))
          have B81 : Hid (Blk (v0.alloc (.cells #[.int .u64 pi, .int .u64 pt, .slice xA xn xc] 33)) v0.heap.size 33 #[.int .u64 pi, .int .u64 pt, .slice xA xn xc]) := Lib.hid (Blk.new _ _ _)
          clear hb
          generalize (v0.alloc (.cells #[.int .u64 pi, .int .u64 pt, .slice xA xn xc] 33)) = v1 at *
          generalize v0.heap.size = p8 at *
          clear c0 c1 c2 k0 kI hbr h8'
          obtain ⟨M, hM⟩ : ∃ M, fewL (oxs.map Ec.en) = M := ⟨_, rfl⟩
          obtain ⟨nM, hnM⟩ : ∃ nM, min xn 32 = nM := ⟨_, rfl⟩
          have FW := Lib.hid (fun W (hW : Below w.heap.size w W) => few_any xA xn xc w.heap.size oxs W (hoes.below hW) hW.size)
          rw [hM, hnM] at FW
          have hM32 : M.length ≤ 32 := by rw [← hM]; exact (fewL_few _).1
          clear hM hnM hoes
          have hb : Below v1.heap.size v1 v1.drew := (Below.refl _ _).drew
          have B32 := Lib.hid (B31.out.below hb B31.out.lt)
          have B72 := Lib.hid (B71.out.below hb B71.out.lt)
          have B82 := Lib.hid (B81.out.below hb B81.out.lt)
          have HL2 := Lib.hid (EoT.below HL1.out hb)
          have HW2 := Lib.hid (EoT.below HW1.out hb)
          have HB2 := Lib.hid (HB1.out.trans (hb.mono HB1.out.size))
          clear hb
          have hS0 := B82.out.three
          refine wp_region_noPanic ?_
          refine wp_region_held_drew (S := fun w' => w'.cell? ⟨p8, 0, none⟩ = some (.int .u64 pi) ∧ w'.cell? ⟨p8, 1, none⟩ = some (.int .u64 pt) ∧ w'.cell? ⟨p8, 2, none⟩ = some (.slice xA xn xc)) (by kernel_rfl) hS0 (fun hHeld => ?_)
          generalize v1.drew = v2 at *
          refine take_d (i := 0) (d := 38) (v := ?rf38) rfl rfl (by kernel_rfl) (by kernel_rfl) (by kernel_rfl) (fun _ _ _ h => h) (Or.inl ⟨by kernel_rfl, ?rf38h⟩) hHeld ?rf38n
          case rf38h => (intro w hSw; (try dsimp only at hSw); go_split_ands; go_simp; (try exact rfl))
          try simp only [Act.put, List.setIfInBounds_toArray, List.set_cons_zero, List.set_cons_succ]
          refine take_d (i := 1) (d := 39) (v := ?rf39) rfl rfl (by kernel_rfl) (by kernel_rfl) (by kernel_rfl) (fun _ _ _ h => h) (Or.inl ⟨by kernel_rfl, ?rf39h⟩) hHeld ?rf39n
          case rf39h => (intro w hSw; (try dsimp only at hSw); go_split_ands; go_simp; (try exact rfl))
          try simp only [Act.put, List.setIfInBounds_toArray, List.set_cons_zero, List.set_cons_succ]
          refine take_d (i := 3) (d := 41) (v := ?rf41) rfl rfl (by kernel_rfl) (by kernel_rfl) (by kernel_rfl) (fun _ _ _ h => h) (Or.inl ⟨by kernel_rfl, ?rf41h⟩) hHeld ?rf41n
          case rf41h => (intro w hSw; (try dsimp only at hSw); go_split_ands; go_simp; (try exact rfl))
          try simp only [Act.put, List.setIfInBounds_toArray, List.set_cons_zero, List.set_cons_succ]
          refine take_d (i := 4) (d := 42) (v := ?rf42) rfl rfl (by kernel_rfl) (by kernel_rfl) (by kernel_rfl) (fun _ _ _ h => h) (Or.inl ⟨by kernel_rfl, ?rf42h⟩) hHeld ?rf42n
          case rf42h => (intro w hSw; (try dsimp only at hSw); go_split_ands; go_simp; (try exact rfl))
          try simp only [Act.put, List.setIfInBounds_toArray, List.set_cons_zero, List.set_cons_succ]
          refine wpAnyH_ready (rs := [2]) (by kernel_rfl) (by simp) ?_
          refine AllReadyH.cons rfl (fun K hK => ?_) AllReadyH.nil
          go_simp
          refine (FW.out v2 HB2.out).mono ?_
          rintro e v3 ⟨AI, cI, rfl, ho, hb⟩
          have B33 := Lib.hid (B32.out.below hb B32.out.lt)
          have B73 := Lib.hid (B72.out.below hb B72.out.lt)
          have B83 := Lib.hid (B82.out.below hb B82.out.lt)
          have HL3 := Lib.hid (EoT.below HL2.out hb)
          have HW3 := Lib.hid (EoT.below HW2.out hb)
          have HB3 := Lib.hid (HB2.out.trans (hb.mono HB2.out.size))
          have HI3 := Lib.hid (EoT.of (ho.down HB2.out.size))
          clear ho hb
          refine hK.out _ _ (B83.out.three) (fun hHeld => ?_)
          clear hK K
          try simp only [Act.put, List.setIfInBounds_toArray, List.set_cons_zero, List.set_cons_succ]
          refine wpAnyH_ready (rs := [5]) (by kernel_rfl) (by simp) ?_
          refine AllReadyH.cons rfl (fun K hK => ?_) AllReadyH.nil
          go_simp
          refine (FW.out v3 HB3.out).mono ?_
          rintro e v4 ⟨AH, cH, rfl, ho, hb⟩
          have B34 := Lib.hid (B33.out.below hb B33.out.lt)
          have B74 := Lib.hid (B73.out.below hb B73.out.lt)
          have B84 := Lib.hid (B83.out.below hb B83.out.lt)
          have HL4 := Lib.hid (EoT.below HL3.out hb)
          have HW4 := Lib.hid (EoT.below HW3.out hb)
          have HI4 := Lib.hid (EoT.below HI3.out hb)
          have HB4 := Lib.hid (HB3.out.trans (hb.mono HB3.out.size))
          have HH4 := Lib.hid (EoT.of (ho.down HB3.out.size))
          clear ho hb
          refine hK.out _ _ (B84.out.three) (fun hHeld => ?_)
          clear hK K
          try simp only [Act.put, List.setIfInBounds_toArray, List.set_cons_zero, List.set_cons_succ]
          refine take_d (i := 6) (d := 9) (v := ?rf9) rfl rfl (by kernel_rfl) (by kernel_rfl) (by kernel_rfl) (fun _ _ _ h => h) (Or.inl ⟨by kernel_rfl, ?rf9h⟩) hHeld ?rf9n
          case rf9h => (intro w hSw; (try dsimp only at hSw); go_split_ands; go_simp; (try exact rfl))
          try simp only [Act.put, List.setIfInBounds_toArray, List.set_cons_zero, List.set_cons_succ]
          refine take_d (i := 7) (d := 10) (v := ?rf10) rfl rfl (by kernel_rfl) (by kernel_rfl) (by kernel_rfl) (fun _ _ _ h => h) (Or.inl ⟨by kernel_rfl, ?rf10h⟩) hHeld ?rf10n
          case rf10h => (intro w hSw; (try dsimp only at hSw); go_split_ands; go_simp; (try exact rfl))
          try simp only [Act.put, List.setIfInBounds_toArray, List.set_cons_zero, List.set_cons_succ]
          refine wpAnyH_done (by kernel_rfl) ?_ _
          refine NoPanic.normal ?_
          have hml : M.length = nM := HI4.out.eo.len
          have hm32 : nM ≤ 32 := by omega
          have hLl := HL4.out.eo.len
          have MR : Hid (∀ W A c b s, EoT W b s A nM c M → Lr W W.heap.size A nM c ⟨pi, pt, M⟩) := Lib.hid (fun W A c b s ho => Eo.lr (l := ⟨pi, pt, M⟩) ho.eo (by show M.length ≤ 1000; omega) hp0 hp1 ht0 ht1)
          have ME := Lib.hid (fun W b s b' s' ho ho' => Meet_any L ⟨pi, pt, M⟩ AL AI nL cL nM cI _ W (LR.out W AL nL cL b s ho) (MR.out W AI cI b' s' ho') (Nat.le_refl _))
          have TK := Lib.hid (fun W b s b' s' ho ho' => Take_any L ⟨pi, pt, M⟩ AL AI nL cL nM cI _ W (LR.out W AL nL cL b s ho) (MR.out W AI cI b' s' ho') (Nat.le_refl _) (by omega))
          have DM := Lib.hid (fun W b s b' s' ho ho' => refmeet_any L ⟨pi, pt, M⟩ AW AH nW cW nM cH _ W (LR.out W AW nW cW b s ho) (MR.out W AH cH b' s' ho') (Nat.le_refl _))
          have DT := Lib.hid (fun W b s b' s' ho ho' => reftake_any L ⟨pi, pt, M⟩ AW AH nW cW nM cH _ W (LR.out W AW nW cW b s ho) (MR.out W AH cH b' s' ho') (Nat.le_refl _) (by omega))
          simp only at ME TK DM DT
          have SE : Hid (∀ W b s b' s', EoT W b s AI nM cI M → EoT W b' s' AH nM cH M → Calls Try.prog 20 #[.slice AI nM cI, .slice AH nM cH] W fun e w' => e = .returned (.bool true) ∧ Below W.heap.size W w') := Lib.hid (fun W b s b' s' ho ho' => by
            have := sameentries_any AI AH nM nM cI cH _ M M W ho.eo.read ho'.eo.read (Nat.le_refl _) (by omega)
            rw [decide_eq_true rfl] at this
            exact this)
          have HXK : Hid (Lok (pTakeL L pi pt M)) := Lib.hid (HLK.out.take (by have := HL32.out; omega))
          obtain ⟨d1, d2, d3, d4, d5⟩ := take_not hr pi pt M
          rw [d1, d2] at ME
          rw [d3, d4, d5] at TK
          rw [d4] at HXK
          clear d1 d2 d3 d4 d5
          generalize rMeetN L pi pt M = RN at *
          generalize rMeetE L pi pt M = RE at *
          generalize rTakeL L pi pt M = RL at *
          generalize rTakeI L pi pt M = RT at *
          generalize rTakeE L pi pt M = RX at *
          clear FW MR hS0 hml hLl hM32 hp0 hp1 ht0 ht1
          obtain ⟨x0, x1, x2⟩ := B34.out.three
          obtain ⟨y0, y1, y2⟩ := B84.out.three
          go_wp2_with fail
          clear x0 x1 x2 y0 y1 y2
          refine (ME.out v4 _ _ _ _ HL4.out HI4.out).mono ?_
          rintro e v5 ⟨rfl, hb⟩
          have B35 := Lib.hid (B34.out.below hb B34.out.lt)
          have B75 := Lib.hid (B74.out.below hb B74.out.lt)
          have B85 := Lib.hid (B84.out.below hb B84.out.lt)
          have HL5 := Lib.hid (EoT.below HL4.out hb)
          have HW5 := Lib.hid (EoT.below HW4.out hb)
          have HI5 := Lib.hid (EoT.below HI4.out hb)
          have HH5 := Lib.hid (EoT.below HH4.out hb)
          have HB5 := Lib.hid (HB4.out.trans (hb.mono HB4.out.size))
          clear hb
          obtain ⟨x0, x1, x2⟩ := B75.out.three
          obtain ⟨y0, y1, y2⟩ := B85.out.three
          go_wp2_with fail
          clear x0 x1 x2 y0 y1 y2
          refine (DM.out v5 _ _ _ _ HW5.out HH5.out).mono ?_
          rintro e v6 ⟨rfl, hb⟩
          have B36 := Lib.hid (B35.out.below hb B35.out.lt)
          have B76 := Lib.hid (B75.out.below hb B75.out.lt)
          have B86 := Lib.hid (B85.out.below hb B85.out.lt)
          have HL6 := Lib.hid (EoT.below HL5.out hb)
          have HW6 := Lib.hid (EoT.below HW5.out hb)
          have HI6 := Lib.hid (EoT.below HI5.out hb)
          have HH6 := Lib.hid (EoT.below HH5.out hb)
          have HB6 := Lib.hid (HB5.out.trans (hb.mono HB5.out.size))
          clear hb
          obtain ⟨x0, x1, x2⟩ := B36.out.three
          obtain ⟨y0, y1, y2⟩ := B86.out.three
          go_wp2_with fail
          clear x0 x1 x2 y0 y1 y2
          refine (TK.out v6 _ _ _ _ HL6.out HI6.out).mono ?_
          rintro e v7 ⟨Ax, nx, cx, rfl, ho, hb⟩
          have B37 := Lib.hid (B36.out.below hb B36.out.lt)
          have B77 := Lib.hid (B76.out.below hb B76.out.lt)
          have B87 := Lib.hid (B86.out.below hb B86.out.lt)
          have HL7 := Lib.hid (EoT.below HL6.out hb)
          have HW7 := Lib.hid (EoT.below HW6.out hb)
          have HI7 := Lib.hid (EoT.below HI6.out hb)
          have HH7 := Lib.hid (EoT.below HH6.out hb)
          have HB7 := Lib.hid (HB6.out.trans (hb.mono HB6.out.size))
          have Hx7 := Lib.hid (EoT.of ho)
          have QS := Lib.hid (show w.heap.size < v6.heap.size ∧ p7 < v6.heap.size ∧ T2 ≤ v6.heap.size ∧ p7 ≤ v6.heap.size from ⟨B36.out.lt, B76.out.lt, HL6.out.1, Nat.le_of_lt B76.out.lt⟩)
          have QX := Lib.hid (show v6.heap.size ≤ v7.heap.size from hb.size)
          have QI := Lib.hid HI6.out.1
          have QH := Lib.hid HH6.out.1
          clear ho hb
          obtain ⟨x0, x1, x2⟩ := B77.out.three
          obtain ⟨y0, y1, y2⟩ := B87.out.three
          have hz7 := B77.out.lt
          have hz8 := B87.out.lt
          go_wp2_with fail
          clear x0 x1 x2 y0 y1 y2 hz7 hz8
          have hb : Below v7.heap.size v7 (v7.alloc (.cells #[.int .u64 lg0.bi, .int .u64 lg0.bt, .slice Ax nx cx] 27)) := (Below.refl _ _).alloc (Nat.le_refl _) _
          have B38 := Lib.hid (B37.out.below hb B37.out.lt)
          have B78 := Lib.hid (B77.out.below hb B77.out.lt)
          have B88 := Lib.hid (B87.out.below hb B87.out.lt)
          have HL8 := Lib.hid (EoT.below HL7.out hb)
          have HW8 := Lib.hid (EoT.below HW7.out hb)
          have HI8 := Lib.hid (EoT.below HI7.out hb)
          have HH8 := Lib.hid (EoT.below HH7.out hb)
          have Hx8 := Lib.hid (EoT.below Hx7.out hb)
          have HB8 := Lib.hid (HB7.out.trans (hb.mono HB7.out.size))
          have B158 : Hid (Blk (v7.alloc (.cells #[.int .u64 lg0.bi, .int .u64 lg0.bt, .slice Ax nx cx] 27)) v7.heap.size 27 #[.int .u64 lg0.bi, .int .u64 lg0.bt, .slice Ax nx cx]) := Lib.hid (Blk.new _ _ _)
          clear hb
          generalize (v7.alloc (.cells #[.int .u64 lg0.bi, .int .u64 lg0.bt, .slice Ax nx cx] 27)) = v8 at *
          generalize v7.heap.size = p15 at *
          refine (DT.out v8 _ _ _ _ HW8.out HH8.out).mono ?_
          rintro e v9 ⟨Ay, ny, cy, rfl, ho, hb⟩
          have B39 := Lib.hid (B38.out.below hb B38.out.lt)
          have B79 := Lib.hid (B78.out.below hb B78.out.lt)
          have B89 := Lib.hid (B88.out.below hb B88.out.lt)
          have B159 := Lib.hid (B158.out.below hb B158.out.lt)
          have HL9 := Lib.hid (EoT.below HL8.out hb)
          have HW9 := Lib.hid (EoT.below HW8.out hb)
          have HI9 := Lib.hid (EoT.below HI8.out hb)
          have HH9 := Lib.hid (EoT.below HH8.out hb)
          have Hx9 := Lib.hid (EoT.below Hx8.out hb)
          have HB9 := Lib.hid (HB8.out.trans (hb.mono HB8.out.size))
          have Hy9 := Lib.hid ho
          clear ho hb ME TK DM DT
          have x0 := B159.out.cell 0
          have x1 := B159.out.cell 1
          have x2 := B159.out.cell 2
          have hz := B159.out.lt
          have hz' : p15 ≠ v9.heap.size := by omega
          go_wp2_with fail
          clear x0 x1 x2 hz hz'
          have hb : Below v9.heap.size v9 (v9.alloc (.cells #[.int .u64 0, .int .u64 0, .slice none 0 0] 27)) := (Below.refl _ _).alloc (Nat.le_refl _) _
          have B310 := Lib.hid (B39.out.below hb B39.out.lt)
          have B710 := Lib.hid (B79.out.below hb B79.out.lt)
          have B810 := Lib.hid (B89.out.below hb B89.out.lt)
          have B1510 := Lib.hid (B159.out.below hb B159.out.lt)
          have HL10 := Lib.hid (EoT.below HL9.out hb)
          have HW10 := Lib.hid (EoT.below HW9.out hb)
          have HI10 := Lib.hid (EoT.below HI9.out hb)
          have HH10 := Lib.hid (EoT.below HH9.out hb)
          have Hx10 := Lib.hid (EoT.below Hx9.out hb)
          have HB10 := Lib.hid (HB9.out.trans (hb.mono HB9.out.size))
          clear hb
          generalize (v9.alloc (.cells #[.int .u64 0, .int .u64 0, .slice none 0 0] 27)) = v10 at *
          refine (RS.out lg0 Lok.lg0 v10 _ _ _ _ _ _ _ _ Hx10.out.eo (Eo.nothing v10 w.heap.size)).mono ?_
          rintro e v11 ⟨rfl, hb⟩
          have B311 := Lib.hid (B310.out.below hb B310.out.lt)
          have B711 := Lib.hid (B710.out.below hb B710.out.lt)
          have B811 := Lib.hid (B810.out.below hb B810.out.lt)
          have B1511 := Lib.hid (B1510.out.below hb B1510.out.lt)
          have HL11 := Lib.hid (EoT.below HL10.out hb)
          have HW11 := Lib.hid (EoT.below HW10.out hb)
          have HI11 := Lib.hid (EoT.below HI10.out hb)
          have HH11 := Lib.hid (EoT.below HH10.out hb)
          have Hx11 := Lib.hid (EoT.below Hx10.out hb)
          have HB11 := Lib.hid (HB10.out.trans (hb.mono HB10.out.size))
          clear hb
          obtain ⟨x0, x1, x2⟩ := B1511.out.three
          go_wp2_with fail
          clear x0 x1 x2
          refine (over_any lg0.bi lg0.bt Ax nx cx _ _ lg0.es v11 Hx11.out (by have := Hx11.out.eo.len; have := HXK.out.few; omega)).mono ?_
          rintro e v12 ⟨rfl, ho⟩
          have B312 := Lib.hid (ho.keep B311.out (by have := QS.out; omega))
          have B712 := Lib.hid (ho.keep B711.out (by have := QS.out; omega))
          have HL12 := Lib.hid (HL11.out.outs ho (by have := QS.out; omega))
          have HW12 := Lib.hid (HW11.out.outs ho (by have := QS.out; omega))
          have HI12 := Lib.hid (HI11.out.outs ho (Or.inl QI.out))
          have HH12 := Lib.hid (HH11.out.outs ho (Or.inl QH.out))
          have HB12 := Lib.hid (HB11.out.trans ((ho.below (by have := Hx11.out.1; have := QX.out; omega)).mono (by have := QS.out; omega)))
          clear ho
          obtain ⟨x0, x1, x2⟩ := B312.out.three
          obtain ⟨y0, y1, y2⟩ := B712.out.three
          go_wp2_with fail
          clear x0 x1 x2 y0 y1 y2
          refine (RS.out L HLK.out v12 _ _ _ _ _ _ _ _ HL12.out.eo HW12.out.eo).mono ?_
          rintro e v13 ⟨rfl, hb⟩
          have B313 := Lib.hid (B312.out.below hb B312.out.lt)
          have B713 := Lib.hid (B712.out.below hb B712.out.lt)
          have HL13 := Lib.hid (EoT.below HL12.out hb)
          have HW13 := Lib.hid (EoT.below HW12.out hb)
          have HI13 := Lib.hid (EoT.below HI12.out hb)
          have HH13 := Lib.hid (EoT.below HH12.out hb)
          have HB13 := Lib.hid (HB12.out.trans (hb.mono HB12.out.size))
          clear hb
          go_wp2_with fail
          refine (SE.out v13 _ _ _ _ HI13.out HH13.out).mono ?_
          rintro e v14 ⟨rfl, hb⟩
          have B314 := Lib.hid (B313.out.below hb B313.out.lt)
          have B714 := Lib.hid (B713.out.below hb B713.out.lt)
          have HL14 := Lib.hid (EoT.below HL13.out hb)
          have HW14 := Lib.hid (EoT.below HW13.out hb)
          have HB14 := Lib.hid (HB13.out.trans (hb.mono HB13.out.size))
          clear hb
          have j64 : wrap64 ((k : Int) + 1) = (k : Int) + 1 := by rw [wrap64_e]; have := HK.out; omega
          go_wp2
          go_roundw
          case rel => exact ⟨k + 1, HK.out.2, HK.out.1, (by first | (rw [j64]; rfl) | go_num), HB14.out, B314.out, B714.out, HL14.out, HW14.out⟩
          case measure => (try rw [j64]); clear j64; simp [intOf]; have := HK.out.2; omega
      · have kI : ¬ ((k : Int) < (on : Int)) := by omega
        go_wp2
        go_ret
        exact ⟨rfl, HB0.out⟩

end Go.Proofs.Ytmgaihdepglahaa
