/-
  What a log is extended by, cut, given up at its beginning: the law LogEnds.
-/
import Derived.Test.YtmgaihdepglahaaQD
import Derived.Test.YtmgaihdepglahaaOW
import Derived.Test.YtmgaihdepglahaaAP
import Derived.Test.YtmgaihdepglahaaM8
import Derived.Test.YtmgaihdepglahaaIX
import Derived.Deep.CutBlock
namespace Go.Proofs.Ytmgaihdepglahaa
open Go.RowKit
attribute [local go_sem ↓] eqA neA eqGA field1 index50_0 index50_1 index50_2

set_option linter.unusedSimpArgs false in
set_option maxRecDepth 100000 in
set_option maxHeartbeats 16000000 in
theorem ends_walk (g : Gc) (mA : Option Addr) (mn mc : Nat) (ms : List Ec) (i : Int) (w : World) (hg : g.raw w w.heap.size) (hm : Ein w w.heap.size mA mn ms) (hi : 0 ≤ i ∧ i < 18446744073709551616) :
    Calls Try.prog 4 #[.agg #[.int .u64 g.bi, .int .u64 g.bt, .slice g.A g.n g.c], .slice mA mn mc, .int .u64 i] w fun e w' => e = .returned (.bool true) ∧ Below w.heap.size w w' := by
  obtain ⟨L, hL⟩ : ∃ L, fewG g.bi g.bt (g.xs.map Ec.en) = L := ⟨_, rfl⟩
  obtain ⟨M, hM⟩ : ∃ M, fewL (ms.map Ec.en) = M := ⟨_, rfl⟩
  obtain ⟨nM, hnM⟩ : ∃ nM, min mn 32 = nM := ⟨_, rfl⟩
  have OW := Lib.hid (fun W (hW : Below w.heap.size w W) => own_any g.bi g.bt g.A g.n g.c w.heap.size g.xs W (hg.es.below hW) hW.size)
  have FW := Lib.hid (fun W (hW : Below w.heap.size w W) => few_any mA mn mc w.heap.size ms W (hm.below hW) hW.size)
  rw [hL] at OW
  rw [hM, hnM] at FW
  have hLF : Few L.es := by rw [← hL]; exact fewL_few _
  have hLok : Lok L := by
    rw [← hL]
    exact ⟨by have := (fewL_few (g.xs.map Ec.en)).1; show (fewL _).length ≤ 100; omega, hg.bi0, hg.bi1, hg.bt0, hg.bt1⟩
  have hMF : Few M := by rw [← hM]; exact fewL_few _
  have b30 : Blk (w.alloc (.cells #[.int .u64 g.bi, .int .u64 g.bt, .slice g.A g.n g.c] 27)) w.heap.size 27 #[.int .u64 g.bi, .int .u64 g.bt, .slice g.A g.n g.c] := Blk.new w 27 _
  have hb30 : Below w.heap.size w (w.alloc (.cells #[.int .u64 g.bi, .int .u64 g.bt, .slice g.A g.n g.c] 27)) := (Below.refl _ _).alloc (Nat.le_refl _) _
  clear hL hM hnM hg hm
  go_enter Try.func4, Try.ntmps4
  go_wp2_with fail
  refine (wakes_any _).mono ?_
  rintro e w0 ⟨rfl, hb0⟩
  have b3 := b30.below hb0 b30.lt
  have HB0 := hb30.trans (hb0.mono hb30.size)
  clear hb0 b30 hb30
  obtain ⟨x0, x1, x2⟩ := b3.three
  go_wp2_with fail
  refine (OW.out _ HB0).mono ?_
  rintro e w1 ⟨AL, nL, cL, rfl, ho1, hb1⟩
  have b31 := b3.below hb1 b3.lt
  have HB1' := HB0.trans (hb1.mono HB0.size)
  have ho1' := ho1.down HB0.size
  clear hb1 ho1 x0 x1 x2
  obtain ⟨x0, x1, x2⟩ := b31.three
  have y0 := b31.frozen 0
  have y1 := b31.frozen 1
  have y2 := b31.frozen 2
  have hon := set3_only w1 w.heap.size (.int .u64 L.bi) (.int .u64 L.bt) (.slice AL nL cL)
  have B32 : Hid (Blk (((w1.setCell ⟨w.heap.size, 0, none⟩ (.int .u64 L.bi)).setCell ⟨w.heap.size, 1, none⟩ (.int .u64 L.bt)).setCell ⟨w.heap.size, 2, none⟩ (.slice AL nL cL)) w.heap.size 27 #[.int .u64 L.bi, .int .u64 L.bt, .slice AL nL cL]) := Lib.hid (((b31.set_ 0 _).set_ 1 _).set_ 2 _)
  have HL2 := Lib.hid (EoT.of (ho1'.only27 b31 hon))
  have HB2 := Lib.hid (HB1'.trans (hon.below (Nat.le_refl _)))
  clear hon ho1' HB1' b3 HB0 b31
  go_wp2_with fail
  clear x0 x1 x2 y0 y1 y2
  generalize (((w1.setCell ⟨w.heap.size, 0, none⟩ (.int .u64 L.bi)).setCell ⟨w.heap.size, 1, none⟩ (.int .u64 L.bt)).setCell ⟨w.heap.size, 2, none⟩ (.slice AL nL cL)) = w2 at *
  have OL : Hid (∀ W b s, EoT W b s AL nL cL L.es → Calls Try.prog 11 #[.agg #[.int .u64 L.bi, .int .u64 L.bt, .slice AL nL cL]] W (Lgd W L)) := Lib.hid (fun W b s ho => by
    obtain ⟨xs, hx1, hx2⟩ := ho.eo.read.ein
    have := own_any L.bi L.bt AL nL cL W.heap.size xs W hx2 (Nat.le_refl _)
    unfold fewG at this
    rw [hx1, fewL_id hLF] at this
    exact this)
  refine (OL.out w2 _ _ HL2.out).mono ?_
  rintro e w3 ⟨AW, nW, cW, rfl, ho, hb⟩
  have B33 := Lib.hid (B32.out.below hb B32.out.lt)
  have HL3 := Lib.hid (EoT.below HL2.out hb)
  have HB3 := Lib.hid (HB2.out.trans (hb.mono HB2.out.size))
  have O3 := Lib.hid hb.size
  have HW3 := Lib.hid (EoT.of (ho.down HB2.out.size))
  clear hb ho
  go_wp2_with fail
  refine (FW.out w3 HB3.out).mono ?_
  rintro e w4 ⟨AI, cI, rfl, ho, hb⟩
  have B34 := Lib.hid (B33.out.below hb B33.out.lt)
  have HL4 := Lib.hid (EoT.below HL3.out hb)
  have HW4 := Lib.hid (EoT.below HW3.out hb)
  have HB4 := Lib.hid (HB3.out.trans (hb.mono HB3.out.size))
  have O4 := Lib.hid hb.size
  have HI4 := Lib.hid (EoT.of (ho.down HB3.out.size))
  clear hb ho
  go_wp2_with fail
  refine (FW.out w4 HB4.out).mono ?_
  rintro e w5 ⟨AH, cH, rfl, ho, hb⟩
  have B35 := Lib.hid (B34.out.below hb B34.out.lt)
  have HL5 := Lib.hid (EoT.below HL4.out hb)
  have HW5 := Lib.hid (EoT.below HW4.out hb)
  have HI5 := Lib.hid (EoT.below HI4.out hb)
  have HB5 := Lib.hid (HB4.out.trans (hb.mono HB4.out.size))
  have O5 := Lib.hid hb.size
  have HH5 := Lib.hid (EoT.of (ho.down HB4.out.size))
  clear hb ho
  obtain ⟨x0, x1, x2⟩ := B35.out.three
  have hz := B35.out.lt
  have P37 := Lib.hid hz
  go_wp2_with fail
  clear x0 x1 x2 hz
  have hb : Below w5.heap.size w5 (w5.alloc (.cells #[.int .u64 L.bi, .int .u64 L.bt, .slice AW nW cW] 27)) := (Below.refl _ _).alloc (Nat.le_refl _) _
  have B36 := Lib.hid (B35.out.below hb B35.out.lt)
  have HL6 := Lib.hid (EoT.below HL5.out hb)
  have HW6 := Lib.hid (EoT.below HW5.out hb)
  have HI6 := Lib.hid (EoT.below HI5.out hb)
  have HH6 := Lib.hid (EoT.below HH5.out hb)
  have HB6 := Lib.hid (HB5.out.trans (hb.mono HB5.out.size))
  have O6 := Lib.hid hb.size
  have B76 : Hid (Blk (w5.alloc (.cells #[.int .u64 L.bi, .int .u64 L.bt, .slice AW nW cW] 27)) w5.heap.size 27 #[.int .u64 L.bi, .int .u64 L.bt, .slice AW nW cW]) := Lib.hid (Blk.new _ _ _)
  clear hb
  generalize (w5.alloc (.cells #[.int .u64 L.bi, .int .u64 L.bt, .slice AW nW cW] 27)) = w6 at *
  generalize w5.heap.size = p7 at *
  have hnL := HL6.out.eo.len
  have hnI := HI6.out.eo.len
  have hm32 := hMF.1
  have LR : Hid (∀ W A n c b s, EoT W b s A n c L.es → Lr W W.heap.size A n c L) := Lib.hid (fun W A n c b s ho => hLok.lr ho.eo)
  have hTb : ∀ k, k ≤ L.es.length → 0 ≤ L.T k ∧ L.T k < 18446744073709551616 := fun k hk => (LR.out w6 _ _ _ _ _ HL6.out).T01 (k := k) (by omega)
  have hPok : Lok (pExtL L M) := hLok.ext (by have := hLF.1; omega)
  have hCok : Lok (pCutL L (subw i)) := hLok.cut _
  have hKok : Lok (pComL L i) := hLok.com hTb hi.1 hi.2
  have EXT : Hid (∀ W b s b' s', EoT W b s AL nL cL L.es → EoT W b' s' AI nM cI M → Calls Try.prog 21 #[.agg #[.int .u64 L.bi, .int .u64 L.bt, .slice AL nL cL], .slice AI nM cI] W (Lgx W (pExtL L M) (pExtI L M) (pExtT L M) (pExtE L M))) := Lib.hid (fun W b s b' s' ho ho' => Extend_any L AL nL cL _ W (LR.out W _ _ _ _ _ ho) (Nat.le_refl _) AI nM cI M ho'.eo.read (by omega))
  have CUT : Hid (∀ W b s, EoT W b s AL nL cL L.es → Calls Try.prog 22 #[.agg #[.int .u64 L.bi, .int .u64 L.bt, .slice AL nL cL], .int .u64 i] W (Lge W (pCutL L (subw i)) (.int .i64 (spotE L (subw i))))) := Lib.hid (fun W b s ho => Cut_any L AL nL cL _ W (LR.out W _ _ _ _ _ ho) (Nat.le_refl _) i)
  have COM : Hid (∀ W b s, EoT W b s AL nL cL L.es → Calls Try.prog 23 #[.agg #[.int .u64 L.bi, .int .u64 L.bt, .slice AL nL cL], .int .u64 i] W (Lge W (pComL L i) (.int .i64 (spotE L i)))) := Lib.hid (fun W b s ho => Compact_any L AL nL cL _ W (LR.out W _ _ _ _ _ ho) (Nat.le_refl _) i hi.1 hi.2)
  have REX : Hid (∀ W b s b' s' A n c m c', EoT W b s AW nW cW L.es → (EoT W b' s' A n c M ∧ m ≤ n ∧ m ≤ c') → Calls Try.prog 24 #[.agg #[.int .u64 L.bi, .int .u64 L.bt, .slice AW nW cW], .slice A m c'] W (Lgx W (rExtL L (M.take m)) (rExtI L (M.take m)) (rExtT L (M.take m)) (rExtE L (M.take m)))) := Lib.hid (fun W b s b' s' A n c m c' ho ho' => refextend_any L AW nW cW _ W (LR.out W _ _ _ _ _ ho) (Nat.le_refl _) A m c' (M.take m) (ho'.1.eo.read.take ho'.2.1) (by have := ho'.1.eo.len; omega) ho'.2.2)
  have RCU : Hid (∀ W b s, EoT W b s AW nW cW L.es → Calls Try.prog 25 #[.agg #[.int .u64 L.bi, .int .u64 L.bt, .slice AW nW cW], .int .u64 i] W (Lge W (rCutL L i) (.int .i64 (rCutE L i)))) := Lib.hid (fun W b s ho => refcut_any L AW nW cW _ W (LR.out W _ _ _ _ _ ho) (Nat.le_refl _) i hi.1 hi.2)
  have RCO : Hid (∀ W b s, EoT W b s AW nW cW L.es → Calls Try.prog 26 #[.agg #[.int .u64 L.bi, .int .u64 L.bt, .slice AW nW cW], .int .u64 i] W (Lge W (rComL L i) (.bool (rComB L i)))) := Lib.hid (fun W b s ho => refcompact_any L AW nW cW _ W (LR.out W _ _ _ _ _ ho) (Nat.le_refl _) i hi.1 hi.2)
  have RI : Hid (∀ W b s, EoT W b s AW nW cW L.es → Calls Try.prog 12 #[.agg #[.int .u64 L.bi, .int .u64 L.bt, .slice AW nW cW]] W fun e w' => e = .returned (.bool (right L)) ∧ Below W.heap.size W w') := Lib.hid (fun W b s ho => refright_any L AW nW cW _ W (LR.out W _ _ _ _ _ ho) (Nat.le_refl _))
  have RS : Hid (∀ (l : Lg), Lok l → ∀ W A n c b A' n' c' b', Eo W b A n c l.es → Eo W b' A' n' c' l.es → Calls Try.prog 18 #[.agg #[.int .u64 l.bi, .int .u64 l.bt, .slice A n c], .agg #[.int .u64 l.bi, .int .u64 l.bt, .slice A' n' c']] W fun e w' => e = .returned (.bool true) ∧ Below W.heap.size W w') := Lib.hid (fun l hl W A n c b A' n' c' b' ho ho' => by
    have := refsame_any l l A A' n n' c c' _ W (hl.lr ho) (hl.lr ho') (Nat.le_refl _)
    rw [decide_eq_true rfl] at this
    exact this)
  have SE : Hid (∀ W b s b' s', EoT W b s AI nM cI M → EoT W b' s' AH nM cH M → Calls Try.prog 20 #[.slice AI nM cI, .slice AH nM cH] W fun e w' => e = .returned (.bool true) ∧ Below W.heap.size W w') := Lib.hid (fun W b s b' s' ho ho' => by
    have := sameentries_any AI AH nM nM cI cH _ M M W ho.eo.read ho'.eo.read (Nat.le_refl _) (by omega)
    rw [decide_eq_true rfl] at this
    exact this)
  have AP : Hid (∀ W b s (x : Ec), EoT W b s AL nL cL L.es → x.ok W W.heap.size → Calls Try.prog 27 #[.agg #[.int .u64 L.bi, .int .u64 L.bt, .slice AL nL cL], .agg #[.int .u64 x.t, .int .i64 x.k, .slice x.A x.n x.c]] W (Lgx W (pExtL L [x.en]) (pExtI L [x.en]) (pExtT L [x.en]) (pExtE L [x.en]))) := Lib.hid (fun W b s x ho hx => Append_any L AL nL cL _ x W (LR.out W _ _ _ _ _ ho) (Nat.le_refl _) hx.raw hx.n)
  have hXD : right L = true → rExtL L M = pExtL L M ∧ rExtI L M = pExtI L M ∧ rExtT L M = pExtT L M ∧ rExtE L M = pExtE L M ∧ rCutL L i = pCutL L (subw i) ∧ rCutE L i = spotE L (subw i) ∧ rComL L i = pComL L i ∧ (if rComB L i = true then (0 : Int) else 4) = spotE L i := fun hr =>
    ⟨(ext_doc hr).2.1.symm, (ext_doc hr).2.2.1.symm, (ext_doc hr).2.2.2.symm, (ext_doc hr).1.symm, (cut_doc hr hLok.bi0 hi.1 hi.2).2, (cut_doc hr hLok.bi0 hi.1 hi.2).1, (com_doc hr i).1, (com_doc hr i).2.symm⟩
  have hYD : right L = false → pExtL L M = lg0 ∧ pExtI L M = 0 ∧ pExtT L M = 0 ∧ pExtE L M = 160 ∧ pCutL L (subw i) = lg0 ∧ spotE L (subw i) = 160 ∧ pComL L i = lg0 ∧ spotE L i = 160 := fun hr =>
    ⟨(ext_not hr M).2.1, (ext_not hr M).2.2.1, (ext_not hr M).2.2.2, (ext_not hr M).1, cut_not hr _, spotE_not hr _, com_not hr _, spotE_not hr _⟩
  have hX1 : ∀ e : En, right L = true → rExtL L [e] = pExtL L [e] ∧ rExtI L [e] = pExtI L [e] ∧ rExtT L [e] = pExtT L [e] ∧ rExtE L [e] = pExtE L [e] := fun e hr => ⟨(ext_doc hr).2.1.symm, (ext_doc hr).2.2.1.symm, (ext_doc hr).2.2.2.symm, (ext_doc hr).1.symm⟩
  have hY1 : ∀ e : En, right L = false → pExtL L [e] = lg0 ∧ pExtI L [e] = 0 ∧ pExtT L [e] = 0 ∧ pExtE L [e] = 160 := fun e hr => ⟨(ext_not hr _).2.1, (ext_not hr _).2.2.1, (ext_not hr _).2.2.2, (ext_not hr _).1⟩
  have hO1 : ∀ e : En, Lok (pExtL L [e]) := fun e => hLok.ext (by have := hLF.1; simp; omega)
  have hMt : M.take nM = M := List.take_of_length_le (by omega)
  have hncH := HH6.out.eo.cap
  have HMT := Lib.hid hMt
  have HNI := Lib.hid hnI
  have HNC := Lib.hid hncH
  have HM32 := Lib.hid hm32
  have HXD := Lib.hid hXD
  have HYD := Lib.hid hYD
  have HX1 := Lib.hid hX1
  have HY1 := Lib.hid hY1
  have HO1 := Lib.hid hO1
  have HPK := Lib.hid hPok
  have HCK := Lib.hid hCok
  have HKK := Lib.hid hKok
  have HLK := Lib.hid hLok
  clear hXD hYD hX1 hY1 hO1 hMt hncH hnL hnI hm32 hTb hPok hCok hKok hLok hLF hMF hi OW FW OL LR
  generalize pExtL L M = PL at *
  generalize pExtI L M = PI at *
  generalize pExtT L M = PT at *
  generalize pExtE L M = PE at *
  generalize pCutL L (subw i) = CL at *
  generalize spotE L (subw i) = CE at *
  generalize pComL L i = KL at *
  generalize spotE L i = KE at *
  generalize rCutL L i = RCL at *
  generalize rCutE L i = RCE at *
  generalize rComL L i = RKL at *
  refine (EXT.out w6 _ _ _ _ HL6.out HI6.out).mono ?_
  rintro e w7 ⟨Aa, na, ca, rfl, ho, hb⟩
  have B37 := Lib.hid (B36.out.below hb B36.out.lt)
  have B77 := Lib.hid (B76.out.below hb B76.out.lt)
  have HL7 := Lib.hid (EoT.below HL6.out hb)
  have HW7 := Lib.hid (EoT.below HW6.out hb)
  have HI7 := Lib.hid (EoT.below HI6.out hb)
  have HH7 := Lib.hid (EoT.below HH6.out hb)
  have HB7 := Lib.hid (HB6.out.trans (hb.mono HB6.out.size))
  have O7 := Lib.hid hb.size
  have Ha7 := Lib.hid (EoT.of ho)
  clear hb ho
  obtain ⟨x0, x1, x2⟩ := B37.out.three
  have hz := B37.out.lt
  go_wp2_with fail
  clear x0 x1 x2 hz
  have hb : Below w7.heap.size w7 ((w7.alloc (.cells #[.int .u64 PL.bi, .int .u64 PL.bt, .slice Aa na ca] 27)).alloc (.cells #[.int .u64 PI, .int .u64 PT] 24)) := ((Below.refl _ _).alloc (Nat.le_refl _) _).alloc (by simp) _
  have B38 := Lib.hid (B37.out.below hb B37.out.lt)
  have B78 := Lib.hid (B77.out.below hb B77.out.lt)
  have HL8 := Lib.hid (EoT.below HL7.out hb)
  have HW8 := Lib.hid (EoT.below HW7.out hb)
  have HI8 := Lib.hid (EoT.below HI7.out hb)
  have HH8 := Lib.hid (EoT.below HH7.out hb)
  have Ha8 := Lib.hid (EoT.below Ha7.out hb)
  have HB8 := Lib.hid (HB7.out.trans (hb.mono HB7.out.size))
  have O8 := Lib.hid hb.size
  have Ba8 : Hid (Blk ((w7.alloc (.cells #[.int .u64 PL.bi, .int .u64 PL.bt, .slice Aa na ca] 27)).alloc (.cells #[.int .u64 PI, .int .u64 PT] 24)) w7.heap.size 27 #[.int .u64 PL.bi, .int .u64 PL.bt, .slice Aa na ca]) := Lib.hid ((Blk.new _ _ _).alloc _)
  have BA8 : Hid (Blk ((w7.alloc (.cells #[.int .u64 PL.bi, .int .u64 PL.bt, .slice Aa na ca] 27)).alloc (.cells #[.int .u64 PI, .int .u64 PT] 24)) (w7.heap.size + 1) 24 #[.int .u64 PI, .int .u64 PT]) := Lib.hid (Blk.fresh (by simp))
  clear hb
  generalize ((w7.alloc (.cells #[.int .u64 PL.bi, .int .u64 PL.bt, .slice Aa na ca] 27)).alloc (.cells #[.int .u64 PI, .int .u64 PT] 24)) = w8 at *
  generalize w7.heap.size = pa at *
  refine (CUT.out w8 _ _ HL8.out).mono ?_
  rintro e w9 ⟨Ab, nb, cb, rfl, ho, hb⟩
  have B39 := Lib.hid (B38.out.below hb B38.out.lt)
  have B79 := Lib.hid (B78.out.below hb B78.out.lt)
  have Ba9 := Lib.hid (Ba8.out.below hb Ba8.out.lt)
  have BA9 := Lib.hid (BA8.out.below hb BA8.out.lt)
  have HL9 := Lib.hid (EoT.below HL8.out hb)
  have HW9 := Lib.hid (EoT.below HW8.out hb)
  have HI9 := Lib.hid (EoT.below HI8.out hb)
  have HH9 := Lib.hid (EoT.below HH8.out hb)
  have Ha9 := Lib.hid (EoT.below Ha8.out hb)
  have HB9 := Lib.hid (HB8.out.trans (hb.mono HB8.out.size))
  have O9 := Lib.hid hb.size
  have Hb9 := Lib.hid (EoT.of ho)
  clear hb ho
  obtain ⟨x0, x1, x2⟩ := B39.out.three
  have hz := B39.out.lt
  go_wp2_with fail
  clear x0 x1 x2 hz
  have hb : Below w9.heap.size w9 (w9.alloc (.cells #[.int .u64 CL.bi, .int .u64 CL.bt, .slice Ab nb cb] 27)) := (Below.refl _ _).alloc (Nat.le_refl _) _
  have B310 := Lib.hid (B39.out.below hb B39.out.lt)
  have B710 := Lib.hid (B79.out.below hb B79.out.lt)
  have Ba10 := Lib.hid (Ba9.out.below hb Ba9.out.lt)
  have BA10 := Lib.hid (BA9.out.below hb BA9.out.lt)
  have HL10 := Lib.hid (EoT.below HL9.out hb)
  have HW10 := Lib.hid (EoT.below HW9.out hb)
  have HI10 := Lib.hid (EoT.below HI9.out hb)
  have HH10 := Lib.hid (EoT.below HH9.out hb)
  have Ha10 := Lib.hid (EoT.below Ha9.out hb)
  have Hb10 := Lib.hid (EoT.below Hb9.out hb)
  have HB10 := Lib.hid (HB9.out.trans (hb.mono HB9.out.size))
  have O10 := Lib.hid hb.size
  have Bb10 : Hid (Blk (w9.alloc (.cells #[.int .u64 CL.bi, .int .u64 CL.bt, .slice Ab nb cb] 27)) w9.heap.size 27 #[.int .u64 CL.bi, .int .u64 CL.bt, .slice Ab nb cb]) := Lib.hid (Blk.new _ _ _)
  clear hb
  generalize (w9.alloc (.cells #[.int .u64 CL.bi, .int .u64 CL.bt, .slice Ab nb cb] 27)) = w10 at *
  generalize w9.heap.size = pb at *
  refine (COM.out w10 _ _ HL10.out).mono ?_
  rintro e w11 ⟨Ac, nc, cc, rfl, ho, hb⟩
  have B311 := Lib.hid (B310.out.below hb B310.out.lt)
  have B711 := Lib.hid (B710.out.below hb B710.out.lt)
  have Ba11 := Lib.hid (Ba10.out.below hb Ba10.out.lt)
  have BA11 := Lib.hid (BA10.out.below hb BA10.out.lt)
  have Bb11 := Lib.hid (Bb10.out.below hb Bb10.out.lt)
  have HL11 := Lib.hid (EoT.below HL10.out hb)
  have HW11 := Lib.hid (EoT.below HW10.out hb)
  have HI11 := Lib.hid (EoT.below HI10.out hb)
  have HH11 := Lib.hid (EoT.below HH10.out hb)
  have Ha11 := Lib.hid (EoT.below Ha10.out hb)
  have Hb11 := Lib.hid (EoT.below Hb10.out hb)
  have HB11 := Lib.hid (HB10.out.trans (hb.mono HB10.out.size))
  have O11 := Lib.hid hb.size
  have Hc11 := Lib.hid (EoT.of ho)
  clear hb ho
  obtain ⟨x0, x1, x2⟩ := B711.out.three
  have hz := B711.out.lt
  go_wp2_with fail
  clear x0 x1 x2 hz
  have hb : Below w11.heap.size w11 (w11.alloc (.cells #[.int .u64 KL.bi, .int .u64 KL.bt, .slice Ac nc cc] 27)) := (Below.refl _ _).alloc (Nat.le_refl _) _
  have B312 := Lib.hid (B311.out.below hb B311.out.lt)
  have B712 := Lib.hid (B711.out.below hb B711.out.lt)
  have Ba12 := Lib.hid (Ba11.out.below hb Ba11.out.lt)
  have BA12 := Lib.hid (BA11.out.below hb BA11.out.lt)
  have Bb12 := Lib.hid (Bb11.out.below hb Bb11.out.lt)
  have HL12 := Lib.hid (EoT.below HL11.out hb)
  have HW12 := Lib.hid (EoT.below HW11.out hb)
  have HI12 := Lib.hid (EoT.below HI11.out hb)
  have HH12 := Lib.hid (EoT.below HH11.out hb)
  have Ha12 := Lib.hid (EoT.below Ha11.out hb)
  have Hb12 := Lib.hid (EoT.below Hb11.out hb)
  have Hc12 := Lib.hid (EoT.below Hc11.out hb)
  have HB12 := Lib.hid (HB11.out.trans (hb.mono HB11.out.size))
  have O12 := Lib.hid hb.size
  have Bc12 : Hid (Blk (w11.alloc (.cells #[.int .u64 KL.bi, .int .u64 KL.bt, .slice Ac nc cc] 27)) w11.heap.size 27 #[.int .u64 KL.bi, .int .u64 KL.bt, .slice Ac nc cc]) := Lib.hid (Blk.new _ _ _)
  clear hb
  generalize (w11.alloc (.cells #[.int .u64 KL.bi, .int .u64 KL.bt, .slice Ac nc cc] 27)) = w12 at *
  generalize w11.heap.size = pc at *
  have RE0 := Lib.hid (REX.out w12 _ _ _ _ AH nM cH nM cH HW12.out ⟨HH12.out, Nat.le_refl _, HNC.out⟩)
  rw [HMT.out] at RE0
  generalize rExtL L M = RXL at *
  generalize rExtI L M = RXI at *
  generalize rExtT L M = RXT at *
  generalize rExtE L M = RXE at *
  refine RE0.out.mono ?_
  rintro e w13 ⟨Ax, nx, cx, rfl, ho, hb⟩
  have B313 := Lib.hid (B312.out.below hb B312.out.lt)
  have B713 := Lib.hid (B712.out.below hb B712.out.lt)
  have Ba13 := Lib.hid (Ba12.out.below hb Ba12.out.lt)
  have BA13 := Lib.hid (BA12.out.below hb BA12.out.lt)
  have Bb13 := Lib.hid (Bb12.out.below hb Bb12.out.lt)
  have Bc13 := Lib.hid (Bc12.out.below hb Bc12.out.lt)
  have HL13 := Lib.hid (EoT.below HL12.out hb)
  have HW13 := Lib.hid (EoT.below HW12.out hb)
  have HI13 := Lib.hid (EoT.below HI12.out hb)
  have HH13 := Lib.hid (EoT.below HH12.out hb)
  have Ha13 := Lib.hid (EoT.below Ha12.out hb)
  have Hb13 := Lib.hid (EoT.below Hb12.out hb)
  have Hc13 := Lib.hid (EoT.below Hc12.out hb)
  have HB13 := Lib.hid (HB12.out.trans (hb.mono HB12.out.size))
  have O13 := Lib.hid hb.size
  have Hx13 := Lib.hid (EoT.of ho)
  clear hb ho RE0
  obtain ⟨x0, x1, x2⟩ := B713.out.three
  have hz := B713.out.lt
  go_wp2_with fail
  clear x0 x1 x2 hz
  have hb : Below w13.heap.size w13 ((w13.alloc (.cells #[.int .u64 RXL.bi, .int .u64 RXL.bt, .slice Ax nx cx] 27)).alloc (.cells #[.int .u64 RXI, .int .u64 RXT] 24)) := ((Below.refl _ _).alloc (Nat.le_refl _) _).alloc (by simp) _
  have B314 := Lib.hid (B313.out.below hb B313.out.lt)
  have B714 := Lib.hid (B713.out.below hb B713.out.lt)
  have Ba14 := Lib.hid (Ba13.out.below hb Ba13.out.lt)
  have BA14 := Lib.hid (BA13.out.below hb BA13.out.lt)
  have Bb14 := Lib.hid (Bb13.out.below hb Bb13.out.lt)
  have Bc14 := Lib.hid (Bc13.out.below hb Bc13.out.lt)
  have HL14 := Lib.hid (EoT.below HL13.out hb)
  have HW14 := Lib.hid (EoT.below HW13.out hb)
  have HI14 := Lib.hid (EoT.below HI13.out hb)
  have HH14 := Lib.hid (EoT.below HH13.out hb)
  have Ha14 := Lib.hid (EoT.below Ha13.out hb)
  have Hb14 := Lib.hid (EoT.below Hb13.out hb)
  have Hc14 := Lib.hid (EoT.below Hc13.out hb)
  have Hx14 := Lib.hid (EoT.below Hx13.out hb)
  have HB14 := Lib.hid (HB13.out.trans (hb.mono HB13.out.size))
  have O14 := Lib.hid hb.size
  have Bx14 : Hid (Blk ((w13.alloc (.cells #[.int .u64 RXL.bi, .int .u64 RXL.bt, .slice Ax nx cx] 27)).alloc (.cells #[.int .u64 RXI, .int .u64 RXT] 24)) w13.heap.size 27 #[.int .u64 RXL.bi, .int .u64 RXL.bt, .slice Ax nx cx]) := Lib.hid ((Blk.new _ _ _).alloc _)
  have BX14 : Hid (Blk ((w13.alloc (.cells #[.int .u64 RXL.bi, .int .u64 RXL.bt, .slice Ax nx cx] 27)).alloc (.cells #[.int .u64 RXI, .int .u64 RXT] 24)) (w13.heap.size + 1) 24 #[.int .u64 RXI, .int .u64 RXT]) := Lib.hid (Blk.fresh (by simp))
  clear hb
  generalize ((w13.alloc (.cells #[.int .u64 RXL.bi, .int .u64 RXL.bt, .slice Ax nx cx] 27)).alloc (.cells #[.int .u64 RXI, .int .u64 RXT] 24)) = w14 at *
  generalize w13.heap.size = px at *
  refine (RCU.out w14 _ _ HW14.out).mono ?_
  rintro e w15 ⟨Ay, ny, cy, rfl, ho, hb⟩
  have B315 := Lib.hid (B314.out.below hb B314.out.lt)
  have B715 := Lib.hid (B714.out.below hb B714.out.lt)
  have Ba15 := Lib.hid (Ba14.out.below hb Ba14.out.lt)
  have BA15 := Lib.hid (BA14.out.below hb BA14.out.lt)
  have Bb15 := Lib.hid (Bb14.out.below hb Bb14.out.lt)
  have Bc15 := Lib.hid (Bc14.out.below hb Bc14.out.lt)
  have Bx15 := Lib.hid (Bx14.out.below hb Bx14.out.lt)
  have BX15 := Lib.hid (BX14.out.below hb BX14.out.lt)
  have HL15 := Lib.hid (EoT.below HL14.out hb)
  have HW15 := Lib.hid (EoT.below HW14.out hb)
  have HI15 := Lib.hid (EoT.below HI14.out hb)
  have HH15 := Lib.hid (EoT.below HH14.out hb)
  have Ha15 := Lib.hid (EoT.below Ha14.out hb)
  have Hb15 := Lib.hid (EoT.below Hb14.out hb)
  have Hc15 := Lib.hid (EoT.below Hc14.out hb)
  have Hx15 := Lib.hid (EoT.below Hx14.out hb)
  have HB15 := Lib.hid (HB14.out.trans (hb.mono HB14.out.size))
  have O15 := Lib.hid hb.size
  have Hy15 := Lib.hid (EoT.of ho)
  clear hb ho
  obtain ⟨x0, x1, x2⟩ := B715.out.three
  have hz := B715.out.lt
  go_wp2_with fail
  clear x0 x1 x2 hz
  have hb : Below w15.heap.size w15 (w15.alloc (.cells #[.int .u64 RCL.bi, .int .u64 RCL.bt, .slice Ay ny cy] 27)) := (Below.refl _ _).alloc (Nat.le_refl _) _
  have B316 := Lib.hid (B315.out.below hb B315.out.lt)
  have B716 := Lib.hid (B715.out.below hb B715.out.lt)
  have Ba16 := Lib.hid (Ba15.out.below hb Ba15.out.lt)
  have BA16 := Lib.hid (BA15.out.below hb BA15.out.lt)
  have Bb16 := Lib.hid (Bb15.out.below hb Bb15.out.lt)
  have Bc16 := Lib.hid (Bc15.out.below hb Bc15.out.lt)
  have Bx16 := Lib.hid (Bx15.out.below hb Bx15.out.lt)
  have BX16 := Lib.hid (BX15.out.below hb BX15.out.lt)
  have HL16 := Lib.hid (EoT.below HL15.out hb)
  have HW16 := Lib.hid (EoT.below HW15.out hb)
  have HI16 := Lib.hid (EoT.below HI15.out hb)
  have HH16 := Lib.hid (EoT.below HH15.out hb)
  have Ha16 := Lib.hid (EoT.below Ha15.out hb)
  have Hb16 := Lib.hid (EoT.below Hb15.out hb)
  have Hc16 := Lib.hid (EoT.below Hc15.out hb)
  have Hx16 := Lib.hid (EoT.below Hx15.out hb)
  have Hy16 := Lib.hid (EoT.below Hy15.out hb)
  have HB16 := Lib.hid (HB15.out.trans (hb.mono HB15.out.size))
  have O16 := Lib.hid hb.size
  have By16 : Hid (Blk (w15.alloc (.cells #[.int .u64 RCL.bi, .int .u64 RCL.bt, .slice Ay ny cy] 27)) w15.heap.size 27 #[.int .u64 RCL.bi, .int .u64 RCL.bt, .slice Ay ny cy]) := Lib.hid (Blk.new _ _ _)
  clear hb
  generalize (w15.alloc (.cells #[.int .u64 RCL.bi, .int .u64 RCL.bt, .slice Ay ny cy] 27)) = w16 at *
  generalize w15.heap.size = py at *
  refine (RCO.out w16 _ _ HW16.out).mono ?_
  rintro e w17 ⟨Az, nz, cz, rfl, ho, hb⟩
  have B317 := Lib.hid (B316.out.below hb B316.out.lt)
  have B717 := Lib.hid (B716.out.below hb B716.out.lt)
  have Ba17 := Lib.hid (Ba16.out.below hb Ba16.out.lt)
  have BA17 := Lib.hid (BA16.out.below hb BA16.out.lt)
  have Bb17 := Lib.hid (Bb16.out.below hb Bb16.out.lt)
  have Bc17 := Lib.hid (Bc16.out.below hb Bc16.out.lt)
  have Bx17 := Lib.hid (Bx16.out.below hb Bx16.out.lt)
  have BX17 := Lib.hid (BX16.out.below hb BX16.out.lt)
  have By17 := Lib.hid (By16.out.below hb By16.out.lt)
  have HL17 := Lib.hid (EoT.below HL16.out hb)
  have HW17 := Lib.hid (EoT.below HW16.out hb)
  have HI17 := Lib.hid (EoT.below HI16.out hb)
  have HH17 := Lib.hid (EoT.below HH16.out hb)
  have Ha17 := Lib.hid (EoT.below Ha16.out hb)
  have Hb17 := Lib.hid (EoT.below Hb16.out hb)
  have Hc17 := Lib.hid (EoT.below Hc16.out hb)
  have Hx17 := Lib.hid (EoT.below Hx16.out hb)
  have Hy17 := Lib.hid (EoT.below Hy16.out hb)
  have HB17 := Lib.hid (HB16.out.trans (hb.mono HB16.out.size))
  have O17 := Lib.hid hb.size
  have Hz17 := Lib.hid (EoT.of ho)
  clear hb ho
  go_upto_if 82 with fail
  have hb : Below w17.heap.size w17 (w17.alloc (.cells #[.int .u64 RKL.bi, .int .u64 RKL.bt, .slice Az nz cz] 27)) := (Below.refl _ _).alloc (Nat.le_refl _) _
  have B318 := Lib.hid (B317.out.below hb B317.out.lt)
  have B718 := Lib.hid (B717.out.below hb B717.out.lt)
  have Ba18 := Lib.hid (Ba17.out.below hb Ba17.out.lt)
  have BA18 := Lib.hid (BA17.out.below hb BA17.out.lt)
  have Bb18 := Lib.hid (Bb17.out.below hb Bb17.out.lt)
  have Bc18 := Lib.hid (Bc17.out.below hb Bc17.out.lt)
  have Bx18 := Lib.hid (Bx17.out.below hb Bx17.out.lt)
  have BX18 := Lib.hid (BX17.out.below hb BX17.out.lt)
  have By18 := Lib.hid (By17.out.below hb By17.out.lt)
  have HL18 := Lib.hid (EoT.below HL17.out hb)
  have HW18 := Lib.hid (EoT.below HW17.out hb)
  have HI18 := Lib.hid (EoT.below HI17.out hb)
  have HH18 := Lib.hid (EoT.below HH17.out hb)
  have Ha18 := Lib.hid (EoT.below Ha17.out hb)
  have Hb18 := Lib.hid (EoT.below Hb17.out hb)
  have Hc18 := Lib.hid (EoT.below Hc17.out hb)
  have Hx18 := Lib.hid (EoT.below Hx17.out hb)
  have Hy18 := Lib.hid (EoT.below Hy17.out hb)
  have Hz18 := Lib.hid (EoT.below Hz17.out hb)
  have HB18 := Lib.hid (HB17.out.trans (hb.mono HB17.out.size))
  have O18 := Lib.hid hb.size
  have Bz18 : Hid (Blk (w17.alloc (.cells #[.int .u64 RKL.bi, .int .u64 RKL.bt, .slice Az nz cz] 27)) w17.heap.size 27 #[.int .u64 RKL.bi, .int .u64 RKL.bt, .slice Az nz cz]) := Lib.hid (Blk.new _ _ _)
  clear hb
  generalize (w17.alloc (.cells #[.int .u64 RKL.bi, .int .u64 RKL.bt, .slice Az nz cz] 27)) = w18 at *
  generalize w17.heap.size = pz at *
  go_cut [23, 24] from 33 (fun v23 v24 wx => wx = w18 ∧ v23 = .bool (rComB L i) ∧ v24 = .int .i64 (if rComB L i = true then 0 else 4))
  case first =>
    cases hc : rComB L i with
    | true =>
      go_wp2
      go_meet
      case rel => exact ⟨rfl, by rw [hc], by rw [hc]; rfl⟩
    | false =>
      go_wp2
      go_meet
      case rel => exact ⟨rfl, by rw [hc], by rw [hc]; rfl⟩
  case rest =>
    obtain ⟨rfl, rfl, rfl⟩ := hcut
    generalize (if rComB L i = true then (0 : Int) else 4) = NR at *
    obtain ⟨x0, x1, x2⟩ := B718.out.three
    go_wp2_with fail
    clear x0 x1 x2
    refine (RI.out wc _ _ HW18.out).mono ?_
    rintro e w19 ⟨rfl, hb⟩
    have B319 := Lib.hid (B318.out.below hb B318.out.lt)
    have B719 := Lib.hid (B718.out.below hb B718.out.lt)
    have Ba19 := Lib.hid (Ba18.out.below hb Ba18.out.lt)
    have BA19 := Lib.hid (BA18.out.below hb BA18.out.lt)
    have Bb19 := Lib.hid (Bb18.out.below hb Bb18.out.lt)
    have Bc19 := Lib.hid (Bc18.out.below hb Bc18.out.lt)
    have Bx19 := Lib.hid (Bx18.out.below hb Bx18.out.lt)
    have BX19 := Lib.hid (BX18.out.below hb BX18.out.lt)
    have By19 := Lib.hid (By18.out.below hb By18.out.lt)
    have Bz19 := Lib.hid (Bz18.out.below hb Bz18.out.lt)
    have HL19 := Lib.hid (EoT.below HL18.out hb)
    have HW19 := Lib.hid (EoT.below HW18.out hb)
    have HI19 := Lib.hid (EoT.below HI18.out hb)
    have HH19 := Lib.hid (EoT.below HH18.out hb)
    have Ha19 := Lib.hid (EoT.below Ha18.out hb)
    have Hb19 := Lib.hid (EoT.below Hb18.out hb)
    have Hc19 := Lib.hid (EoT.below Hc18.out hb)
    have Hx19 := Lib.hid (EoT.below Hx18.out hb)
    have Hy19 := Lib.hid (EoT.below Hy18.out hb)
    have Hz19 := Lib.hid (EoT.below Hz18.out hb)
    have HB19 := Lib.hid (HB18.out.trans (hb.mono HB18.out.size))
    have O19 := Lib.hid hb.size
    clear hb
    go_upto_if 85 with fail
    have ORD := Lib.hid (show w.heap.size < p7 ∧ p7 < w6.heap.size ∧ w6.heap.size ≤ pa ∧ pa + 1 < w8.heap.size ∧ w8.heap.size ≤ pb ∧ pb < w10.heap.size ∧ w10.heap.size ≤ pc ∧ pc < w12.heap.size ∧ w12.heap.size ≤ px ∧ px + 1 < w14.heap.size ∧ w14.heap.size ≤ py ∧ py < w16.heap.size ∧ w16.heap.size ≤ pz ∧ w2.heap.size ≤ w3.heap.size ∧ w3.heap.size ≤ w4.heap.size ∧ w4.heap.size ≤ p7 from
      ⟨P37.out, B76.out.lt, O7.out, BA8.out.lt, O9.out, Bb10.out.lt, O11.out, Bc12.out.lt, O13.out, BX14.out.lt, O15.out, By16.out.lt, O17.out, O3.out, O4.out, O5.out⟩)
    clear B32 HB2 HL2 B33 HB3 HL3 B34 HB4 HL4 B35 HB5 HL5 B36 HB6 HL6 B37 HB7 HL7 B38 HB8 HL8 B39 HB9 HL9 B310 HB10 HL10 B311 HB11 HL11 B312 HB12 HL12 B313 HB13 HL13 B314 HB14 HL14 B315 HB15 HL15 B316 HB16 HL16 B317 HB17 HL17 B318 HB18 HL18 HW3 HW4 HW5 HW6 HW7 HW8 HW9 HW10 HW11 HW12 HW13 HW14 HW15 HW16 HW17 HW18 HI4 HI5 HI6 HI7 HI8 HI9 HI10 HI11 HI12 HI13 HI14 HI15 HI16 HI17 HI18 HH5 HH6 HH7 HH8 HH9 HH10 HH11 HH12 HH13 HH14 HH15 HH16 HH17 HH18 B76 B77 B78 B79 B710 B711 B712 B713 B714 B715 B716 B717 B718 Ha7 Ha8 Ha9 Ha10 Ha11 Ha12 Ha13 Ha14 Ha15 Ha16 Ha17 Ha18 Ba8 BA8 Ba9 BA9 Ba10 BA10 Ba11 BA11 Ba12 BA12 Ba13 BA13 Ba14 BA14 Ba15 BA15 Ba16 BA16 Ba17 BA17 Ba18 BA18 Hb9 Hb10 Hb11 Hb12 Hb13 Hb14 Hb15 Hb16 Hb17 Hb18 Bb10 Bb11 Bb12 Bb13 Bb14 Bb15 Bb16 Bb17 Bb18 Hc11 Hc12 Hc13 Hc14 Hc15 Hc16 Hc17 Hc18 Bc12 Bc13 Bc14 Bc15 Bc16 Bc17 Bc18 Hx13 Hx14 Hx15 Hx16 Hx17 Hx18 Bx14 BX14 Bx15 BX15 Bx16 BX16 Bx17 BX17 Bx18 BX18 Hy15 Hy16 Hy17 Hy18 By16 By17 By18 Hz17 Hz18 Bz18 O3 O4 O5 O6 O7 O8 O9 O10 O11 O12 O13 O14 O15 O16 O17 O18 O19 P37 EXT CUT COM RCU RCO
    generalize w2.heap.size = T2 at *
    generalize w3.heap.size = T3 at *
    generalize w4.heap.size = T4 at *
    generalize w6.heap.size = Sa at *
    generalize w8.heap.size = Sb at *
    generalize w10.heap.size = Sc at *
    generalize w12.heap.size = Sx at *
    generalize w14.heap.size = Sy at *
    generalize w16.heap.size = Sz at *
    go_cut [19, 21, 24] from 33 (fun v19 v21 v24 wx => v19 = .int .i64 PE ∧ v21 = .int .i64 CE ∧ v24 = .int .i64 KE ∧ (Below w.heap.size w wx ∧ Blk wx w.heap.size 27 #[.int .u64 L.bi, .int .u64 L.bt, .slice AL nL cL] ∧ Blk wx p7 27 #[.int .u64 L.bi, .int .u64 L.bt, .slice AW nW cW] ∧ Blk wx pa 27 #[.int .u64 PL.bi, .int .u64 PL.bt, .slice Aa na ca] ∧ Blk wx (pa + 1) 24 #[.int .u64 PI, .int .u64 PT] ∧ Blk wx pb 27 #[.int .u64 CL.bi, .int .u64 CL.bt, .slice Ab nb cb] ∧ Blk wx pc 27 #[.int .u64 KL.bi, .int .u64 KL.bt, .slice Ac nc cc] ∧ EoT wx w.heap.size T2 AL nL cL L.es ∧ EoT wx w.heap.size T3 AW nW cW L.es ∧ EoT wx w.heap.size T4 AI nM cI M ∧ EoT wx w.heap.size p7 AH nM cH M ∧ EoT wx Sa pa Aa na ca PL.es ∧ EoT wx Sb pb Ab nb cb CL.es ∧ EoT wx Sc pc Ac nc cc KL.es) ∧ ∃ Ax nx cx Ay ny cy Az nz cz, Blk wx px 27 #[.int .u64 PL.bi, .int .u64 PL.bt, .slice Ax nx cx] ∧ Blk wx (px + 1) 24 #[.int .u64 PI, .int .u64 PT] ∧ Blk wx py 27 #[.int .u64 CL.bi, .int .u64 CL.bt, .slice Ay ny cy] ∧ Blk wx pz 27 #[.int .u64 KL.bi, .int .u64 KL.bt, .slice Az nz cz] ∧ Eo wx w.heap.size Ax nx cx PL.es ∧ Eo wx w.heap.size Ay ny cy CL.es ∧ Eo wx w.heap.size Az nz cz KL.es)
    case first =>
      cases hr : right L with
      | true =>
        obtain ⟨e1, e2, e3, e4, e5, e6, e7, e8⟩ := HXD.out hr
        subst e1 e2 e3 e4 e5 e6 e7 e8
        go_wp2
        go_meet
        case rel => exact ⟨rfl, rfl, rfl, ⟨HB19.out, B319.out, B719.out, Ba19.out, BA19.out, Bb19.out, Bc19.out, HL19.out, HW19.out, HI19.out, HH19.out, Ha19.out, Hb19.out, Hc19.out⟩, Ax, nx, cx, Ay, ny, cy, Az, nz, cz, Bx19.out, BX19.out, By19.out, Bz19.out, Hx19.out.eo.down (by have := ORD.out; omega), Hy19.out.eo.down (by have := ORD.out; omega), Hz19.out.eo.down (by have := ORD.out; omega)⟩
      | false =>
        obtain ⟨e1, e2, e3, e4, e5, e6, e7, e8⟩ := HYD.out hr
        subst e1 e2 e3 e4 e5 e6 e7 e8
        have dx0 := Bx19.out.cell 0
        have fx0 := Bx19.out.frozen 0
        have dx1 := Bx19.out.cell 1
        have fx1 := Bx19.out.frozen 1
        have dx2 := Bx19.out.cell 2
        have fx2 := Bx19.out.frozen 2
        have dX0 := BX19.out.cell 0
        have fX0 := BX19.out.frozen 0
        have dX1 := BX19.out.cell 1
        have fX1 := BX19.out.frozen 1
        have dy0 := By19.out.cell 0
        have fy0 := By19.out.frozen 0
        have dy1 := By19.out.cell 1
        have fy1 := By19.out.frozen 1
        have dy2 := By19.out.cell 2
        have fy2 := By19.out.frozen 2
        have dz0 := Bz19.out.cell 0
        have fz0 := Bz19.out.frozen 0
        have dz1 := Bz19.out.cell 1
        have fz1 := Bz19.out.frozen 1
        have dz2 := Bz19.out.cell 2
        have fz2 := Bz19.out.frozen 2
        obtain ⟨hne1, hne2, hne3, hne4, hne5⟩ : px ≠ py ∧ px ≠ pz ∧ py ≠ pz ∧ px + 1 ≠ py ∧ px + 1 ≠ pz := by have := ORD.out; omega
        obtain ⟨hme1, hme2, hme3, hme4, hme5⟩ : py ≠ px ∧ pz ≠ px ∧ pz ≠ py ∧ py ≠ px + 1 ∧ pz ≠ px + 1 := by have := ORD.out; omega
        go_wp2
        go_meet
        case rel =>
          have hon := set3_only w19 px (.int .u64 0) (.int .u64 0) (.slice none 0 0)
          have B320 := Lib.hid (hon.keep B319.out (by have := ORD.out; omega))
          have B720 := Lib.hid (hon.keep B719.out (by have := ORD.out; omega))
          have Ba20 := Lib.hid (hon.keep Ba19.out (by have := ORD.out; omega))
          have BA20 := Lib.hid (hon.keep BA19.out (by have := ORD.out; omega))
          have Bb20 := Lib.hid (hon.keep Bb19.out (by have := ORD.out; omega))
          have Bc20 := Lib.hid (hon.keep Bc19.out (by have := ORD.out; omega))
          have BX20 := Lib.hid (hon.keep BX19.out (by have := ORD.out; omega))
          have By20 := Lib.hid (hon.keep By19.out (by have := ORD.out; omega))
          have Bz20 := Lib.hid (hon.keep Bz19.out (by have := ORD.out; omega))
          have Bx20 : Hid (Blk (((w19.setCell ⟨px, 0, none⟩ (.int .u64 0)).setCell ⟨px, 1, none⟩ (.int .u64 0)).setCell ⟨px, 2, none⟩ (.slice none 0 0)) px 27 #[.int .u64 0, .int .u64 0, .slice none 0 0]) := Lib.hid (((Bx19.out.set_ 0 _).set_ 1 _).set_ 2 _)
          have HL20 := Lib.hid (HL19.out.only Bx19.out (by decide) (by decide) hon)
          have HW20 := Lib.hid (HW19.out.only Bx19.out (by decide) (by decide) hon)
          have HI20 := Lib.hid (HI19.out.only Bx19.out (by decide) (by decide) hon)
          have HH20 := Lib.hid (HH19.out.only Bx19.out (by decide) (by decide) hon)
          have Ha20 := Lib.hid (Ha19.out.only Bx19.out (by decide) (by decide) hon)
          have Hb20 := Lib.hid (Hb19.out.only Bx19.out (by decide) (by decide) hon)
          have Hc20 := Lib.hid (Hc19.out.only Bx19.out (by decide) (by decide) hon)
          have HB20 := Lib.hid (HB19.out.trans (hon.below (by have := ORD.out; omega)))
          clear hon
          generalize ((w19.setCell ⟨px, 0, none⟩ (.int .u64 0)).setCell ⟨px, 1, none⟩ (.int .u64 0)).setCell ⟨px, 2, none⟩ (.slice none 0 0) = w20 at *
          have hon := set3_only w20 py (.int .u64 0) (.int .u64 0) (.slice none 0 0)
          have B321 := Lib.hid (hon.keep B320.out (by have := ORD.out; omega))
          have B721 := Lib.hid (hon.keep B720.out (by have := ORD.out; omega))
          have Ba21 := Lib.hid (hon.keep Ba20.out (by have := ORD.out; omega))
          have BA21 := Lib.hid (hon.keep BA20.out (by have := ORD.out; omega))
          have Bb21 := Lib.hid (hon.keep Bb20.out (by have := ORD.out; omega))
          have Bc21 := Lib.hid (hon.keep Bc20.out (by have := ORD.out; omega))
          have Bx21 := Lib.hid (hon.keep Bx20.out (by have := ORD.out; omega))
          have BX21 := Lib.hid (hon.keep BX20.out (by have := ORD.out; omega))
          have Bz21 := Lib.hid (hon.keep Bz20.out (by have := ORD.out; omega))
          have By21 : Hid (Blk (((w20.setCell ⟨py, 0, none⟩ (.int .u64 0)).setCell ⟨py, 1, none⟩ (.int .u64 0)).setCell ⟨py, 2, none⟩ (.slice none 0 0)) py 27 #[.int .u64 0, .int .u64 0, .slice none 0 0]) := Lib.hid (((By20.out.set_ 0 _).set_ 1 _).set_ 2 _)
          have HL21 := Lib.hid (HL20.out.only By20.out (by decide) (by decide) hon)
          have HW21 := Lib.hid (HW20.out.only By20.out (by decide) (by decide) hon)
          have HI21 := Lib.hid (HI20.out.only By20.out (by decide) (by decide) hon)
          have HH21 := Lib.hid (HH20.out.only By20.out (by decide) (by decide) hon)
          have Ha21 := Lib.hid (Ha20.out.only By20.out (by decide) (by decide) hon)
          have Hb21 := Lib.hid (Hb20.out.only By20.out (by decide) (by decide) hon)
          have Hc21 := Lib.hid (Hc20.out.only By20.out (by decide) (by decide) hon)
          have HB21 := Lib.hid (HB20.out.trans (hon.below (by have := ORD.out; omega)))
          clear hon
          generalize ((w20.setCell ⟨py, 0, none⟩ (.int .u64 0)).setCell ⟨py, 1, none⟩ (.int .u64 0)).setCell ⟨py, 2, none⟩ (.slice none 0 0) = w21 at *
          have hon := set3_only w21 pz (.int .u64 0) (.int .u64 0) (.slice none 0 0)
          have B322 := Lib.hid (hon.keep B321.out (by have := ORD.out; omega))
          have B722 := Lib.hid (hon.keep B721.out (by have := ORD.out; omega))
          have Ba22 := Lib.hid (hon.keep Ba21.out (by have := ORD.out; omega))
          have BA22 := Lib.hid (hon.keep BA21.out (by have := ORD.out; omega))
          have Bb22 := Lib.hid (hon.keep Bb21.out (by have := ORD.out; omega))
          have Bc22 := Lib.hid (hon.keep Bc21.out (by have := ORD.out; omega))
          have Bx22 := Lib.hid (hon.keep Bx21.out (by have := ORD.out; omega))
          have BX22 := Lib.hid (hon.keep BX21.out (by have := ORD.out; omega))
          have By22 := Lib.hid (hon.keep By21.out (by have := ORD.out; omega))
          have Bz22 : Hid (Blk (((w21.setCell ⟨pz, 0, none⟩ (.int .u64 0)).setCell ⟨pz, 1, none⟩ (.int .u64 0)).setCell ⟨pz, 2, none⟩ (.slice none 0 0)) pz 27 #[.int .u64 0, .int .u64 0, .slice none 0 0]) := Lib.hid (((Bz21.out.set_ 0 _).set_ 1 _).set_ 2 _)
          have HL22 := Lib.hid (HL21.out.only Bz21.out (by decide) (by decide) hon)
          have HW22 := Lib.hid (HW21.out.only Bz21.out (by decide) (by decide) hon)
          have HI22 := Lib.hid (HI21.out.only Bz21.out (by decide) (by decide) hon)
          have HH22 := Lib.hid (HH21.out.only Bz21.out (by decide) (by decide) hon)
          have Ha22 := Lib.hid (Ha21.out.only Bz21.out (by decide) (by decide) hon)
          have Hb22 := Lib.hid (Hb21.out.only Bz21.out (by decide) (by decide) hon)
          have Hc22 := Lib.hid (Hc21.out.only Bz21.out (by decide) (by decide) hon)
          have HB22 := Lib.hid (HB21.out.trans (hon.below (by have := ORD.out; omega)))
          clear hon
          generalize ((w21.setCell ⟨pz, 0, none⟩ (.int .u64 0)).setCell ⟨pz, 1, none⟩ (.int .u64 0)).setCell ⟨pz, 2, none⟩ (.slice none 0 0) = w22 at *
          have hon := set2_only w22 (px + 1) (.int .u64 0) (.int .u64 0)
          have B323 := Lib.hid (hon.keep B322.out (by have := ORD.out; omega))
          have B723 := Lib.hid (hon.keep B722.out (by have := ORD.out; omega))
          have Ba23 := Lib.hid (hon.keep Ba22.out (by have := ORD.out; omega))
          have BA23 := Lib.hid (hon.keep BA22.out (by have := ORD.out; omega))
          have Bb23 := Lib.hid (hon.keep Bb22.out (by have := ORD.out; omega))
          have Bc23 := Lib.hid (hon.keep Bc22.out (by have := ORD.out; omega))
          have Bx23 := Lib.hid (hon.keep Bx22.out (by have := ORD.out; omega))
          have By23 := Lib.hid (hon.keep By22.out (by have := ORD.out; omega))
          have Bz23 := Lib.hid (hon.keep Bz22.out (by have := ORD.out; omega))
          have BX23 : Hid (Blk ((w22.setCell ⟨px + 1, 0, none⟩ (.int .u64 0)).setCell ⟨px + 1, 1, none⟩ (.int .u64 0)) (px + 1) 24 #[.int .u64 0, .int .u64 0]) := Lib.hid ((BX22.out.set_ 0 _).set_ 1 _)
          have HL23 := Lib.hid (HL22.out.only BX22.out (by decide) (by decide) hon)
          have HW23 := Lib.hid (HW22.out.only BX22.out (by decide) (by decide) hon)
          have HI23 := Lib.hid (HI22.out.only BX22.out (by decide) (by decide) hon)
          have HH23 := Lib.hid (HH22.out.only BX22.out (by decide) (by decide) hon)
          have Ha23 := Lib.hid (Ha22.out.only BX22.out (by decide) (by decide) hon)
          have Hb23 := Lib.hid (Hb22.out.only BX22.out (by decide) (by decide) hon)
          have Hc23 := Lib.hid (Hc22.out.only BX22.out (by decide) (by decide) hon)
          have HB23 := Lib.hid (HB22.out.trans (hon.below (by have := ORD.out; omega)))
          clear hon
          generalize (w22.setCell ⟨px + 1, 0, none⟩ (.int .u64 0)).setCell ⟨px + 1, 1, none⟩ (.int .u64 0) = w23 at *
          exact ⟨rfl, rfl, rfl, ⟨HB23.out, B323.out, B723.out, Ba23.out, BA23.out, Bb23.out, Bc23.out, HL23.out, HW23.out, HI23.out, HH23.out, Ha23.out, Hb23.out, Hc23.out⟩, none, 0, 0, none, 0, 0, none, 0, 0, Bx23.out, BX23.out, By23.out, Bz23.out, Eo.nothing _ _, Eo.nothing _ _, Eo.nothing _ _⟩
    case rest =>
      obtain ⟨rfl, rfl, rfl, ⟨h0, b3', b7', ba', bA', bb', bc', eL', eW', eI', eH', ea', eb', ec'⟩, Ax', nx', cx', Ay', ny', cy', Az', nz', cz', bx', bX', bq', bz', ex', ey', ez'⟩ := hcut
      have HB20 := Lib.hid h0
      have B320 := Lib.hid b3'
      have B720 := Lib.hid b7'
      have Ba20 := Lib.hid ba'
      have BA20 := Lib.hid bA'
      have Bb20 := Lib.hid bb'
      have Bc20 := Lib.hid bc'
      have Bx20 := Lib.hid bx'
      have BX20 := Lib.hid bX'
      have Bz20 := Lib.hid bz'
      have By20 := Lib.hid bq'
      have HL20 := Lib.hid eL'
      have HW20 := Lib.hid eW'
      have HI20 := Lib.hid eI'
      have HH20 := Lib.hid eH'
      have Ha20 := Lib.hid ea'
      have Hb20 := Lib.hid eb'
      have Hc20 := Lib.hid ec'
      have Hx20 := Lib.hid ex'
      have Hy20 := Lib.hid ey'
      have Hz20 := Lib.hid ez'
      clear h0 b3' b7' ba' bA' bb' bc' bx' bX' bq' bz' eL' eW' eI' eH' ea' eb' ec' ex' ey' ez' HB19 B319 B719 Ba19 BA19 Bb19 Bc19 Bx19 BX19 By19 Bz19 HL19 HW19 HI19 HH19 Ha19 Hb19 Hc19 Hx19 Hy19 Hz19
      obtain ⟨x0, x1, x2⟩ := Ba20.out.three
      obtain ⟨z0, z1, z2⟩ := Bx20.out.three
      obtain ⟨u0, u1⟩ := BA20.out.two
      obtain ⟨v0, v1⟩ := BX20.out.two
      have q1 := Eqa_refl PI PT
      go_wp2_with fail
      clear x0 x1 x2 z0 z1 z2 u0 u1 v0 v1
      refine (RS.out PL HPK.out wc _ _ _ _ _ _ _ _ Ha20.out.eo Hx20.out).mono ?_
      rintro e w21 ⟨rfl, hb⟩
      have B321 := Lib.hid (B320.out.below hb B320.out.lt)
      have B721 := Lib.hid (B720.out.below hb B720.out.lt)
      have Ba21 := Lib.hid (Ba20.out.below hb Ba20.out.lt)
      have BA21 := Lib.hid (BA20.out.below hb BA20.out.lt)
      have Bb21 := Lib.hid (Bb20.out.below hb Bb20.out.lt)
      have Bc21 := Lib.hid (Bc20.out.below hb Bc20.out.lt)
      have By21 := Lib.hid (By20.out.below hb By20.out.lt)
      have Bz21 := Lib.hid (Bz20.out.below hb Bz20.out.lt)
      have HL21 := Lib.hid (EoT.below HL20.out hb)
      have HW21 := Lib.hid (EoT.below HW20.out hb)
      have HI21 := Lib.hid (EoT.below HI20.out hb)
      have HH21 := Lib.hid (EoT.below HH20.out hb)
      have Ha21 := Lib.hid (EoT.below Ha20.out hb)
      have Hb21 := Lib.hid (EoT.below Hb20.out hb)
      have Hc21 := Lib.hid (EoT.below Hc20.out hb)
      have Hy21 := Lib.hid (Eo.below Hy20.out hb)
      have Hz21 := Lib.hid (Eo.below Hz20.out hb)
      have HB21 := Lib.hid (HB20.out.trans (hb.mono HB20.out.size))
      clear hb
      obtain ⟨x0, x1, x2⟩ := Bb21.out.three
      obtain ⟨z0, z1, z2⟩ := By21.out.three
      go_wp2_with fail
      clear x0 x1 x2 z0 z1 z2
      refine (RS.out CL HCK.out w21 _ _ _ _ _ _ _ _ Hb21.out.eo Hy21.out).mono ?_
      rintro e w22 ⟨rfl, hb⟩
      have B322 := Lib.hid (B321.out.below hb B321.out.lt)
      have B722 := Lib.hid (B721.out.below hb B721.out.lt)
      have Ba22 := Lib.hid (Ba21.out.below hb Ba21.out.lt)
      have BA22 := Lib.hid (BA21.out.below hb BA21.out.lt)
      have Bb22 := Lib.hid (Bb21.out.below hb Bb21.out.lt)
      have Bc22 := Lib.hid (Bc21.out.below hb Bc21.out.lt)
      have Bz22 := Lib.hid (Bz21.out.below hb Bz21.out.lt)
      have HL22 := Lib.hid (EoT.below HL21.out hb)
      have HW22 := Lib.hid (EoT.below HW21.out hb)
      have HI22 := Lib.hid (EoT.below HI21.out hb)
      have HH22 := Lib.hid (EoT.below HH21.out hb)
      have Ha22 := Lib.hid (EoT.below Ha21.out hb)
      have Hb22 := Lib.hid (EoT.below Hb21.out hb)
      have Hc22 := Lib.hid (EoT.below Hc21.out hb)
      have Hz22 := Lib.hid (Eo.below Hz21.out hb)
      have HB22 := Lib.hid (HB21.out.trans (hb.mono HB21.out.size))
      clear hb
      obtain ⟨x0, x1, x2⟩ := Bc22.out.three
      obtain ⟨z0, z1, z2⟩ := Bz22.out.three
      go_wp2_with fail
      clear x0 x1 x2 z0 z1 z2
      refine (RS.out KL HKK.out w22 _ _ _ _ _ _ _ _ Hc22.out.eo Hz22.out).mono ?_
      rintro e w23 ⟨rfl, hb⟩
      have B323 := Lib.hid (B322.out.below hb B322.out.lt)
      have B723 := Lib.hid (B722.out.below hb B722.out.lt)
      have Ba23 := Lib.hid (Ba22.out.below hb Ba22.out.lt)
      have BA23 := Lib.hid (BA22.out.below hb BA22.out.lt)
      have Bb23 := Lib.hid (Bb22.out.below hb Bb22.out.lt)
      have Bc23 := Lib.hid (Bc22.out.below hb Bc22.out.lt)
      have HL23 := Lib.hid (EoT.below HL22.out hb)
      have HW23 := Lib.hid (EoT.below HW22.out hb)
      have HI23 := Lib.hid (EoT.below HI22.out hb)
      have HH23 := Lib.hid (EoT.below HH22.out hb)
      have Ha23 := Lib.hid (EoT.below Ha22.out hb)
      have Hb23 := Lib.hid (EoT.below Hb22.out hb)
      have Hc23 := Lib.hid (EoT.below Hc22.out hb)
      have HB23 := Lib.hid (HB22.out.trans (hb.mono HB22.out.size))
      clear hb
      obtain ⟨x0, x1, x2⟩ := Ba23.out.three
      obtain ⟨z0, z1, z2⟩ := Bb23.out.three
      obtain ⟨u0, u1, u2⟩ := Bc23.out.three
      go_wp2_with fail
      clear x0 x1 x2 z0 z1 z2 u0 u1 u2 q1
      have hna : na ≤ 1000 := by have := Ha23.out.eo.len; have := HPK.out.few; omega
      have hnb : nb ≤ 1000 := by have := Hb23.out.eo.len; have := HCK.out.few; omega
      have hnc : nc ≤ 1000 := by have := Hc23.out.eo.len; have := HKK.out.few; omega
      have FEW := Lib.hid (And.intro hna (And.intro hnb hnc))
      clear hna hnb hnc
      go_loopw [130] (fun ix wr => ∃ j : Nat, j ≤ 3 ∧ ix = .int .i64 j ∧ Below w.heap.size w wr ∧ Blk wr w.heap.size 27 #[.int .u64 L.bi, .int .u64 L.bt, .slice AL nL cL] ∧ Blk wr p7 27 #[.int .u64 L.bi, .int .u64 L.bt, .slice AW nW cW] ∧ EoT wr w.heap.size T2 AL nL cL L.es ∧ EoT wr w.heap.size T3 AW nW cW L.es ∧ EoT wr w.heap.size T4 AI nM cI M ∧ EoT wr w.heap.size p7 AH nM cH M ∧ (j ≤ 0 → EoT wr Sa pa Aa na ca PL.es) ∧ (j ≤ 1 → EoT wr Sb pb Ab nb cb CL.es) ∧ (j ≤ 2 → EoT wr Sc pc Ac nc cc KL.es)) (fun ix _ => 3 - (intOf ix).toNat)
      case atStart => exact ⟨0, by omega, rfl, HB23.out, B323.out, B723.out, HL23.out, HW23.out, HI23.out, HH23.out, fun _ => Ha23.out, fun _ => Hb23.out, fun _ => Hc23.out⟩
      case round =>
        obtain ⟨j, hj, rfl, h0, b3', b7', eL', eW', eI', eH', ea', eb', ec'⟩ := hrel
        have HB0 := Lib.hid h0
        have B30 := Lib.hid b3'
        have B70 := Lib.hid b7'
        have HL0 := Lib.hid eL'
        have HW0 := Lib.hid eW'
        have HI0 := Lib.hid eI'
        have HH0 := Lib.hid eH'
        have Ha0 := Lib.hid ea'
        have Hb0 := Lib.hid eb'
        have Hc0 := Lib.hid ec'
        clear h0 b3' b7' eL' eW' eI' eH' ea' eb' ec' HB23 B323 B723 HL23 HW23 HI23 HH23 Ha23 Hb23 Hc23 Ba23 BA23 Bb23 Bc23
        by_cases hlt : j < 3
        · have hj3 : j = 0 ∨ j = 1 ∨ j = 2 := by omega
          clear hlt hj
          rcases hj3 with rfl | rfl | rfl
          · go_wp2_with fail
            have hb : Below wr.heap.size wr (wr.alloc (.cells #[.int .u64 PL.bi, .int .u64 PL.bt, .slice Aa na ca] 27)) := (Below.refl _ _).alloc (Nat.le_refl _) _
            refine (over_any PL.bi PL.bt Aa na ca Sa pa PL.es _ (EoT.below (Ha0.out (Nat.le_refl _)) hb) FEW.out.1).mono ?_
            rintro e w1 ⟨rfl, ho⟩
            have HB1 := Lib.hid ((HB0.out.trans (hb.mono HB0.out.size)).trans ((ho.below (by have := (EoT.below (Ha0.out (Nat.le_refl _)) hb).1; have := ORD.out; omega)).mono (by have := ORD.out; omega)))
            have B31 := Lib.hid (ho.keep (B30.out.below hb B30.out.lt) (by have := ORD.out; omega))
            have B71 := Lib.hid (ho.keep (B70.out.below hb B70.out.lt) (by have := ORD.out; omega))
            have HL1 := Lib.hid ((EoT.below HL0.out hb).outs ho (by have := ORD.out; omega))
            have HW1 := Lib.hid ((EoT.below HW0.out hb).outs ho (by have := ORD.out; omega))
            have HI1 := Lib.hid ((EoT.below HI0.out hb).outs ho (by have := ORD.out; omega))
            have HH1 := Lib.hid ((EoT.below HH0.out hb).outs ho (by have := ORD.out; omega))
            have Hb1 := Lib.hid ((EoT.below (Hb0.out (by omega)) hb).outs ho (by have := ORD.out; omega))
            have Hc1 := Lib.hid ((EoT.below (Hc0.out (by omega)) hb).outs ho (by have := ORD.out; omega))
            clear hb ho
            go_wp2
            go_roundw
            case rel => exact ⟨1, by omega, rfl, HB1.out, B31.out, B71.out, HL1.out, HW1.out, HI1.out, HH1.out, fun h => absurd h (by omega), fun _ => Hb1.out, fun _ => Hc1.out⟩
            case measure => simp [intOf]
          · go_wp2_with fail
            have hb : Below wr.heap.size wr (wr.alloc (.cells #[.int .u64 CL.bi, .int .u64 CL.bt, .slice Ab nb cb] 27)) := (Below.refl _ _).alloc (Nat.le_refl _) _
            refine (over_any CL.bi CL.bt Ab nb cb Sb pb CL.es _ (EoT.below (Hb0.out (Nat.le_refl _)) hb) FEW.out.2.1).mono ?_
            rintro e w1 ⟨rfl, ho⟩
            have HB1 := Lib.hid ((HB0.out.trans (hb.mono HB0.out.size)).trans ((ho.below (by have := (EoT.below (Hb0.out (Nat.le_refl _)) hb).1; have := ORD.out; omega)).mono (by have := ORD.out; omega)))
            have B31 := Lib.hid (ho.keep (B30.out.below hb B30.out.lt) (by have := ORD.out; omega))
            have B71 := Lib.hid (ho.keep (B70.out.below hb B70.out.lt) (by have := ORD.out; omega))
            have HL1 := Lib.hid ((EoT.below HL0.out hb).outs ho (by have := ORD.out; omega))
            have HW1 := Lib.hid ((EoT.below HW0.out hb).outs ho (by have := ORD.out; omega))
            have HI1 := Lib.hid ((EoT.below HI0.out hb).outs ho (by have := ORD.out; omega))
            have HH1 := Lib.hid ((EoT.below HH0.out hb).outs ho (by have := ORD.out; omega))
            have Hc1 := Lib.hid ((EoT.below (Hc0.out (by omega)) hb).outs ho (by have := ORD.out; omega))
            clear hb ho
            go_wp2
            go_roundw
            case rel => exact ⟨2, by omega, rfl, HB1.out, B31.out, B71.out, HL1.out, HW1.out, HI1.out, HH1.out, fun h => absurd h (by omega), fun h => absurd h (by omega), fun _ => Hc1.out⟩
            case measure => simp [intOf]
          · go_wp2_with fail
            have hb : Below wr.heap.size wr (wr.alloc (.cells #[.int .u64 KL.bi, .int .u64 KL.bt, .slice Ac nc cc] 27)) := (Below.refl _ _).alloc (Nat.le_refl _) _
            refine (over_any KL.bi KL.bt Ac nc cc Sc pc KL.es _ (EoT.below (Hc0.out (Nat.le_refl _)) hb) FEW.out.2.2).mono ?_
            rintro e w1 ⟨rfl, ho⟩
            have HB1 := Lib.hid ((HB0.out.trans (hb.mono HB0.out.size)).trans ((ho.below (by have := (EoT.below (Hc0.out (Nat.le_refl _)) hb).1; have := ORD.out; omega)).mono (by have := ORD.out; omega)))
            have B31 := Lib.hid (ho.keep (B30.out.below hb B30.out.lt) (by have := ORD.out; omega))
            have B71 := Lib.hid (ho.keep (B70.out.below hb B70.out.lt) (by have := ORD.out; omega))
            have HL1 := Lib.hid ((EoT.below HL0.out hb).outs ho (by have := ORD.out; omega))
            have HW1 := Lib.hid ((EoT.below HW0.out hb).outs ho (by have := ORD.out; omega))
            have HI1 := Lib.hid ((EoT.below HI0.out hb).outs ho (by have := ORD.out; omega))
            have HH1 := Lib.hid ((EoT.below HH0.out hb).outs ho (by have := ORD.out; omega))
            clear hb ho
            go_wp2
            go_roundw
            case rel => exact ⟨3, by omega, rfl, HB1.out, B31.out, B71.out, HL1.out, HW1.out, HI1.out, HH1.out, fun h => absurd h (by omega), fun h => absurd h (by omega), fun h => absurd h (by omega)⟩
            case measure => simp [intOf]
        · have l0 : ¬ ((j : Int) < 3) := by omega
          have hj3 : j = 3 := by omega
          clear hlt hj Ha0 Hb0 Hc0 FEW HPK HCK HKK
          obtain ⟨x0, x1, x2⟩ := B30.out.three
          obtain ⟨z0, z1, z2⟩ := B70.out.three
          go_wp2_with fail
          clear x0 x1 x2 z0 z1 z2
          refine (RS.out L HLK.out wr _ _ _ _ _ _ _ _ HL0.out.eo HW0.out.eo).mono ?_
          rintro e w1 ⟨rfl, hb⟩
          have B31 := Lib.hid (B30.out.below hb B30.out.lt)
          have B71 := Lib.hid (B70.out.below hb B70.out.lt)
          have HL1 := Lib.hid (EoT.below HL0.out hb)
          have HW1 := Lib.hid (EoT.below HW0.out hb)
          have HI1 := Lib.hid (EoT.below HI0.out hb)
          have HH1 := Lib.hid (EoT.below HH0.out hb)
          have HB1 := Lib.hid (HB0.out.trans (hb.mono HB0.out.size))
          clear hb
          go_wp2_with fail
          refine (SE.out w1 _ _ _ _ HI1.out HH1.out).mono ?_
          rintro e w2 ⟨rfl, hb⟩
          have B32 := Lib.hid (B31.out.below hb B31.out.lt)
          have B72 := Lib.hid (B71.out.below hb B71.out.lt)
          have HL2 := Lib.hid (EoT.below HL1.out hb)
          have HW2 := Lib.hid (EoT.below HW1.out hb)
          have HI2 := Lib.hid (EoT.below HI1.out hb)
          have HH2 := Lib.hid (EoT.below HH1.out hb)
          have HB2 := Lib.hid (HB1.out.trans (hb.mono HB1.out.size))
          clear hb
          by_cases hn0 : nM = 0
          · have hnn : ¬ ((0 : Int) < (nM : Int)) := by omega
            go_wp2
            go_ret
            exact ⟨rfl, HB2.out⟩
          · have hnn : ((0 : Int) < (nM : Int)) := by omega
            obtain ⟨bI, oI, x, rfl, hbI, hxe, hxo, hrng⟩ := HI2.out.eo.read.at_ (show 0 < nM by omega)
            rw [Nat.zero_mul, Nat.add_zero] at hrng
            obtain ⟨e1, he1⟩ : ∃ e1, M.getD 0 e0 = e1 := ⟨_, rfl⟩
            rw [he1] at hxe
            have hM1 : M.take 1 = [e1] := by
              rw [← he1]
              have hl := HNI.out
              cases M with
              | nil => simp at hl; omega
              | cons a r => rfl
            have c0 := hrng 0 (.int .u64 x.t) rfl
            have c1 := hrng 1 (.int .i64 x.k) rfl
            have c2 := hrng 2 (.slice x.A x.n x.c) rfl
            rw [Nat.add_zero] at c0
            have HD : Hid (∀ W, Below w2.heap.size w2 W → (W.cell? ⟨w.heap.size, 0, none⟩ = some (.int .u64 L.bi) ∧ W.cell? ⟨w.heap.size, 1, none⟩ = some (.int .u64 L.bt) ∧ W.cell? ⟨w.heap.size, 2, none⟩ = some (.slice AL nL cL)) ∧ (W.cell? ⟨bI, oI, none⟩ = some (.int .u64 x.t) ∧ W.cell? ⟨bI, oI + 1, none⟩ = some (.int .i64 x.k) ∧ W.cell? ⟨bI, oI + 2, none⟩ = some (.slice x.A x.n x.c))) := Lib.hid (fun W hW => ⟨(B32.out.below hW B32.out.lt).three, (hW.cell (p := ⟨bI, oI, none⟩) hbI).trans c0, (hW.cell (p := ⟨bI, oI + 1, none⟩) hbI).trans c1, (hW.cell (p := ⟨bI, oI + 2, none⟩) hbI).trans c2⟩)
            have AP1 : Hid (∀ W, Below w2.heap.size w2 W → Calls Try.prog 27 #[.agg #[.int .u64 L.bi, .int .u64 L.bt, .slice AL nL cL], .agg #[.int .u64 x.t, .int .i64 x.k, .slice x.A x.n x.c]] W (Lgx W (pExtL L [e1]) (pExtI L [e1]) (pExtT L [e1]) (pExtE L [e1]))) := Lib.hid (fun W hW => by
              have := AP.out W _ _ x (EoT.below HL2.out hW) ((hxo.below hW).more hW.size)
              rw [hxe] at this
              exact this)
            have HX2 := Lib.hid (HX1.out e1)
            have HY2 := Lib.hid (HY1.out e1)
            have HO2 := Lib.hid (HO1.out e1)
            clear hbI hxe hxo hrng c0 c1 c2 he1 HX1 HY1 HO1 AP
            generalize pExtL L [e1] = PL1 at *
            generalize pExtI L [e1] = PI1 at *
            generalize pExtT L [e1] = PT1 at *
            generalize pExtE L [e1] = PE1 at *
            have hk0 : (0 : Int) ≤ 0 := by omega
            go_upto_region 26 with fail
            go_cut [27, 28, 29] from 33 (fun vA vB vE wx => ∃ pA pB Ae ne ce, vA = .pointer (some ⟨pA, 0, none⟩) ∧ vB = .pointer (some ⟨pB, 0, none⟩) ∧ vE = .int .i64 PE1 ∧ Blk wx pA 27 #[.int .u64 PL1.bi, .int .u64 PL1.bt, .slice Ae ne ce] ∧ Blk wx pB 24 #[.int .u64 PI1, .int .u64 PT1] ∧ Eo wx w.heap.size Ae ne ce PL1.es ∧ Below w2.heap.size w2 wx ∧ w2.heap.size ≤ pA ∧ w2.heap.size ≤ pB ∧ pA ≠ pB)
            case first =>
              as_aux_lemma =>
                have HC0 := Lib.hid (show Below w2.heap.size w2 w2.drew from (Below.refl _ _).drew)
                have hS0 := HD.out _ HC0.out
                refine wp_region_noPanic ?_
                refine wp_region_held_drew (S := fun w' => (w'.cell? ⟨w.heap.size, 0, none⟩ = some (.int .u64 L.bi) ∧ w'.cell? ⟨w.heap.size, 1, none⟩ = some (.int .u64 L.bt) ∧ w'.cell? ⟨w.heap.size, 2, none⟩ = some (.slice AL nL cL)) ∧ (w'.cell? ⟨bI, oI, none⟩ = some (.int .u64 x.t) ∧ w'.cell? ⟨bI, oI + 1, none⟩ = some (.int .i64 x.k) ∧ w'.cell? ⟨bI, oI + 2, none⟩ = some (.slice x.A x.n x.c))) (by kernel_rfl) hS0 (fun hHeld => ?_)
                generalize w2.drew = v0 at *
                refine take_d (i := 0) (d := 150) (v := ?t1) rfl rfl (by kernel_rfl) (by kernel_rfl) (by kernel_rfl) (fun _ _ _ h => h) (Or.inl ⟨by kernel_rfl, ?t1h⟩) hHeld ?t1n
                case t1h => (intro w hSw; (try dsimp only at hSw); go_split_ands; go_simp; (try exact rfl))
                try simp only [Act.put, List.setIfInBounds_toArray, List.set_cons_zero, List.set_cons_succ]
                refine take_d (i := 1) (d := 151) (v := ?t2) rfl rfl (by kernel_rfl) (by kernel_rfl) (by kernel_rfl) (fun _ _ _ h => h) (Or.inl ⟨by kernel_rfl, ?t2h⟩) hHeld ?t2n
                case t2h => (intro w hSw; (try dsimp only at hSw); go_split_ands; go_simp; (try exact rfl))
                try simp only [Act.put, List.setIfInBounds_toArray, List.set_cons_zero, List.set_cons_succ]
                refine take_d (i := 2) (d := 152) (v := ?t3) rfl rfl (by kernel_rfl) (by kernel_rfl) (by kernel_rfl) (fun _ _ _ h => h) (Or.inl ⟨by kernel_rfl, ?t3h⟩) hHeld ?t3n
                case t3h => (intro w hSw; (try dsimp only at hSw); go_split_ands; go_simp; (try exact rfl))
                try simp only [Act.put, List.setIfInBounds_toArray, List.set_cons_zero, List.set_cons_succ]
                refine take_d (i := 3) (d := 153) (v := ?t4) rfl rfl (by kernel_rfl) (by kernel_rfl) (by kernel_rfl) (fun _ _ _ h => h) (Or.inl ⟨by kernel_rfl, ?t4h⟩) hHeld ?t4n
                case t4h => (intro w hSw; (try dsimp only at hSw); go_split_ands; go_simp; (try exact rfl))
                try simp only [Act.put, List.setIfInBounds_toArray, List.set_cons_zero, List.set_cons_succ]
                refine wpAnyH_ready (rs := [4, 9, 10]) (by kernel_rfl) (by simp) ?_
                refine AllReadyH.cons rfl (fun K hK => ?_) (AllReadyH.cons rfl (fun K hK => ?_) (AllReadyH.cons rfl (fun K hK => ?_) AllReadyH.nil))
                · skip
                  go_simp
                  refine (AP1.out v0 HC0.out).mono ?_
                  rintro e v1 ⟨Ae, ne, ce, rfl, ho, hb⟩
                  have HC1 := Lib.hid (HC0.out.trans (hb.mono HC0.out.size))
                  have He1 := Lib.hid (ho.down (show w.heap.size ≤ v0.heap.size from Nat.le_trans HB2.out.size HC0.out.size))
                  clear ho hb
                  refine hK.out _ _ (HD.out _ HC1.out) (fun hHeld => ?_)
                  clear hK K
                  try simp only [Act.put, List.setIfInBounds_toArray, List.set_cons_zero, List.set_cons_succ]
                  refine take_d (i := 5) (d := 149) (v := ?t5) rfl rfl (by kernel_rfl) (by kernel_rfl) (by kernel_rfl) (fun _ _ _ h => h) (Or.inl ⟨by kernel_rfl, ?t5h⟩) hHeld ?t5n
                  case t5h => (intro w hSw; (try dsimp only at hSw); go_split_ands; go_simp; (try exact rfl))
                  try simp only [Act.put, List.setIfInBounds_toArray, List.set_cons_zero, List.set_cons_succ]
                  refine take_d (i := 6) (d := 155) (v := ?t6) rfl rfl (by kernel_rfl) (by kernel_rfl) (by kernel_rfl) (fun _ _ _ h => h) (Or.inl ⟨by kernel_rfl, ?t6h⟩) hHeld ?t6n
                  case t6h => (intro w hSw; (try dsimp only at hSw); go_split_ands; go_simp; (try exact rfl))
                  try simp only [Act.put, List.setIfInBounds_toArray, List.set_cons_zero, List.set_cons_succ]
                  refine take_d (i := 7) (d := 156) (v := ?t7) rfl rfl (by kernel_rfl) (by kernel_rfl) (by kernel_rfl) (fun _ _ _ h => h) (Or.inl ⟨by kernel_rfl, ?t7h⟩) hHeld ?t7n
                  case t7h => (intro w hSw; (try dsimp only at hSw); go_split_ands; go_simp; (try exact rfl))
                  try simp only [Act.put, List.setIfInBounds_toArray, List.set_cons_zero, List.set_cons_succ]
                  refine take_d (i := 8) (d := 157) (v := ?t8) rfl rfl (by kernel_rfl) (by kernel_rfl) (by kernel_rfl) (fun _ _ _ h => h) (Or.inl ⟨by kernel_rfl, ?t8h⟩) hHeld ?t8n
                  case t8h => (intro w hSw; (try dsimp only at hSw); go_split_ands; go_simp; (try exact rfl))
                  try simp only [Act.put, List.setIfInBounds_toArray, List.set_cons_zero, List.set_cons_succ]
                  refine wpAnyH_ready (rs := [9, 10]) (by kernel_rfl) (by simp) ?_
                  refine AllReadyH.cons rfl (fun K hK => ?_) (AllReadyH.cons rfl (fun K hK => ?_) AllReadyH.nil)
                  · skip
                    go_simp
                    have hb : Below v1.heap.size v1 (v1.alloc (.cells #[.int .u64 0, .int .u64 0, .slice none 0 0] 27)) := (Below.refl _ _).alloc (Nat.le_refl _) _
                    refine hK.out _ _ (HD.out _ (HC1.out.trans (hb.mono HC1.out.size))) (fun hHeld => ?_)
                    clear hK K
                    have HC2 := Lib.hid (HC1.out.trans (hb.mono HC1.out.size))
                    have He2 := Lib.hid (Eo.below He1.out hb)
                    have BA2 : Hid (Blk (v1.alloc (.cells #[.int .u64 0, .int .u64 0, .slice none 0 0] 27)) v1.heap.size 27 #[.int .u64 0, .int .u64 0, .slice none 0 0]) := Lib.hid (Blk.new _ _ _)
                    have LA := Lib.hid HC1.out.size
                    clear hb
                    generalize (v1.alloc (.cells #[.int .u64 0, .int .u64 0, .slice none 0 0] 27)) = v2 at *
                    generalize v1.heap.size = pA at *
                    try simp only [Act.put, List.setIfInBounds_toArray, List.set_cons_zero, List.set_cons_succ]
                    refine wpAnyH_ready (rs := [10]) (by kernel_rfl) (by simp) ?_
                    refine AllReadyH.cons rfl (fun K hK => ?_) AllReadyH.nil
                    go_simp
                    have hb : Below v2.heap.size v2 (v2.alloc (.cells #[.int .u64 0, .int .u64 0] 24)) := (Below.refl _ _).alloc (Nat.le_refl _) _
                    refine hK.out _ _ (HD.out _ (HC2.out.trans (hb.mono HC2.out.size))) (fun hHeld => ?_)
                    clear hK K
                    have HC3 := Lib.hid (HC2.out.trans (hb.mono HC2.out.size))
                    have He3 := Lib.hid (Eo.below He2.out hb)
                    have BA3 := Lib.hid (BA2.out.below hb BA2.out.lt)
                    have BB3 : Hid (Blk (v2.alloc (.cells #[.int .u64 0, .int .u64 0] 24)) v2.heap.size 24 #[.int .u64 0, .int .u64 0]) := Lib.hid (Blk.new _ _ _)
                    have LB := Lib.hid HC2.out.size
                    clear hb
                    generalize (v2.alloc (.cells #[.int .u64 0, .int .u64 0] 24)) = v3 at *
                    generalize v2.heap.size = pB at *
                    try simp only [Act.put, List.setIfInBounds_toArray, List.set_cons_zero, List.set_cons_succ]
                    have hpp : pA ≠ pB := fun e => by
                      have h1 := BA3.out
                      have h2 := BB3.out
                      rw [e] at h1
                      have := (h1.two_types h2).1
                      cases this
                    refine wpAnyH_ready (rs := [11]) (by kernel_rfl) (by simp) ?_
                    refine AllReadyH.cons rfl (fun K hK => ?_) AllReadyH.nil
                    refine wp_store_blk 27 _ _ rfl pA #[.int .u64 0, .int .u64 0, .slice none 0 0] 27 [.int .u64 PL1.bi, .int .u64 PL1.bt, .slice Ae ne ce] rfl rfl BA3.out rfl Try.i27 (by simp [Value.oneCell']) ?_
                    intro v4 hb ho
                    have BA4 := Lib.hid hb
                    have BB4 := Lib.hid (ho.keep BB3.out hpp.symm)
                    have He4 := Lib.hid (He3.out.only27 BA3.out ho)
                    have HC4 := Lib.hid (HC3.out.trans (ho.below LA.out))
                    clear hb ho
                    refine hK.out _ _ (HD.out _ HC4.out) (fun hHeld => ?_)
                    clear hK K
                    try simp only [Act.put, List.setIfInBounds_toArray, List.set_cons_zero, List.set_cons_succ]
                    refine wpAnyH_ready (rs := [12]) (by kernel_rfl) (by simp) ?_
                    refine AllReadyH.cons rfl (fun K hK => ?_) AllReadyH.nil
                    refine wp_store_blk 24 _ _ rfl pB #[.int .u64 0, .int .u64 0] 24 [.int .u64 PI1, .int .u64 PT1] rfl rfl BB4.out rfl Try.i24 (by simp [Value.oneCell']) ?_
                    intro v5 hb ho
                    have BB5 := Lib.hid hb
                    have BA5 := Lib.hid (ho.keep BA4.out hpp)
                    have He5 := Lib.hid (He4.out.only BB4.out (by decide) (by decide) ho)
                    have HC5 := Lib.hid (HC4.out.trans (ho.below LB.out))
                    clear hb ho
                    refine hK.out _ _ (HD.out _ HC5.out) (fun hHeld => ?_)
                    clear hK K
                    try simp only [Act.put, List.setIfInBounds_toArray, List.set_cons_zero, List.set_cons_succ]
                    refine take_d (i := 13) (d := 29) (v := ?t9) rfl rfl (by kernel_rfl) (by kernel_rfl) (by kernel_rfl) (fun _ _ _ h => h) (Or.inl ⟨by kernel_rfl, ?t9h⟩) hHeld ?t9n
                    case t9h => (intro w hSw; (try dsimp only at hSw); go_split_ands; go_simp; (try exact rfl))
                    try simp only [Act.put, List.setIfInBounds_toArray, List.set_cons_zero, List.set_cons_succ]
                    refine wpAnyH_done (by kernel_rfl) ?_ _
                    refine NoPanic.normal ?_
                    go_wp2_with fail
                    go_meet
                    case rel => exact ⟨pA, pB, Ae, ne, ce, rfl, rfl, rfl, BA5.out, BB5.out, He5.out, HC5.out, LA.out, LB.out, hpp⟩
                  · skip
                    go_simp
                    have hb : Below v1.heap.size v1 (v1.alloc (.cells #[.int .u64 0, .int .u64 0] 24)) := (Below.refl _ _).alloc (Nat.le_refl _) _
                    refine hK.out _ _ (HD.out _ (HC1.out.trans (hb.mono HC1.out.size))) (fun hHeld => ?_)
                    clear hK K
                    have HC2 := Lib.hid (HC1.out.trans (hb.mono HC1.out.size))
                    have He2 := Lib.hid (Eo.below He1.out hb)
                    have BB2 : Hid (Blk (v1.alloc (.cells #[.int .u64 0, .int .u64 0] 24)) v1.heap.size 24 #[.int .u64 0, .int .u64 0]) := Lib.hid (Blk.new _ _ _)
                    have LB := Lib.hid HC1.out.size
                    clear hb
                    generalize (v1.alloc (.cells #[.int .u64 0, .int .u64 0] 24)) = v2 at *
                    generalize v1.heap.size = pB at *
                    try simp only [Act.put, List.setIfInBounds_toArray, List.set_cons_zero, List.set_cons_succ]
                    refine wpAnyH_ready (rs := [9]) (by kernel_rfl) (by simp) ?_
                    refine AllReadyH.cons rfl (fun K hK => ?_) AllReadyH.nil
                    go_simp
                    have hb : Below v2.heap.size v2 (v2.alloc (.cells #[.int .u64 0, .int .u64 0, .slice none 0 0] 27)) := (Below.refl _ _).alloc (Nat.le_refl _) _
                    refine hK.out _ _ (HD.out _ (HC2.out.trans (hb.mono HC2.out.size))) (fun hHeld => ?_)
                    clear hK K
                    have HC3 := Lib.hid (HC2.out.trans (hb.mono HC2.out.size))
                    have He3 := Lib.hid (Eo.below He2.out hb)
                    have BB3 := Lib.hid (BB2.out.below hb BB2.out.lt)
                    have BA3 : Hid (Blk (v2.alloc (.cells #[.int .u64 0, .int .u64 0, .slice none 0 0] 27)) v2.heap.size 27 #[.int .u64 0, .int .u64 0, .slice none 0 0]) := Lib.hid (Blk.new _ _ _)
                    have LA := Lib.hid HC2.out.size
                    clear hb
                    generalize (v2.alloc (.cells #[.int .u64 0, .int .u64 0, .slice none 0 0] 27)) = v3 at *
                    generalize v2.heap.size = pA at *
                    try simp only [Act.put, List.setIfInBounds_toArray, List.set_cons_zero, List.set_cons_succ]
                    have hpp : pA ≠ pB := fun e => by
                      have h1 := BA3.out
                      have h2 := BB3.out
                      rw [e] at h1
                      have := (h1.two_types h2).1
                      cases this
                    refine wpAnyH_ready (rs := [11]) (by kernel_rfl) (by simp) ?_
                    refine AllReadyH.cons rfl (fun K hK => ?_) AllReadyH.nil
                    refine wp_store_blk 27 _ _ rfl pA #[.int .u64 0, .int .u64 0, .slice none 0 0] 27 [.int .u64 PL1.bi, .int .u64 PL1.bt, .slice Ae ne ce] rfl rfl BA3.out rfl Try.i27 (by simp [Value.oneCell']) ?_
                    intro v4 hb ho
                    have BA4 := Lib.hid hb
                    have BB4 := Lib.hid (ho.keep BB3.out hpp.symm)
                    have He4 := Lib.hid (He3.out.only27 BA3.out ho)
                    have HC4 := Lib.hid (HC3.out.trans (ho.below LA.out))
                    clear hb ho
                    refine hK.out _ _ (HD.out _ HC4.out) (fun hHeld => ?_)
                    clear hK K
                    try simp only [Act.put, List.setIfInBounds_toArray, List.set_cons_zero, List.set_cons_succ]
                    refine wpAnyH_ready (rs := [12]) (by kernel_rfl) (by simp) ?_
                    refine AllReadyH.cons rfl (fun K hK => ?_) AllReadyH.nil
                    refine wp_store_blk 24 _ _ rfl pB #[.int .u64 0, .int .u64 0] 24 [.int .u64 PI1, .int .u64 PT1] rfl rfl BB4.out rfl Try.i24 (by simp [Value.oneCell']) ?_
                    intro v5 hb ho
                    have BB5 := Lib.hid hb
                    have BA5 := Lib.hid (ho.keep BA4.out hpp)
                    have He5 := Lib.hid (He4.out.only BB4.out (by decide) (by decide) ho)
                    have HC5 := Lib.hid (HC4.out.trans (ho.below LB.out))
                    clear hb ho
                    refine hK.out _ _ (HD.out _ HC5.out) (fun hHeld => ?_)
                    clear hK K
                    try simp only [Act.put, List.setIfInBounds_toArray, List.set_cons_zero, List.set_cons_succ]
                    refine take_d (i := 13) (d := 29) (v := ?t10) rfl rfl (by kernel_rfl) (by kernel_rfl) (by kernel_rfl) (fun _ _ _ h => h) (Or.inl ⟨by kernel_rfl, ?t10h⟩) hHeld ?t10n
                    case t10h => (intro w hSw; (try dsimp only at hSw); go_split_ands; go_simp; (try exact rfl))
                    try simp only [Act.put, List.setIfInBounds_toArray, List.set_cons_zero, List.set_cons_succ]
                    refine wpAnyH_done (by kernel_rfl) ?_ _
                    refine NoPanic.normal ?_
                    go_wp2_with fail
                    go_meet
                    case rel => exact ⟨pA, pB, Ae, ne, ce, rfl, rfl, rfl, BA5.out, BB5.out, He5.out, HC5.out, LA.out, LB.out, hpp⟩
                · skip
                  go_simp
                  have hb : Below v0.heap.size v0 (v0.alloc (.cells #[.int .u64 0, .int .u64 0, .slice none 0 0] 27)) := (Below.refl _ _).alloc (Nat.le_refl _) _
                  refine hK.out _ _ (HD.out _ (HC0.out.trans (hb.mono HC0.out.size))) (fun hHeld => ?_)
                  clear hK K
                  have HC1 := Lib.hid (HC0.out.trans (hb.mono HC0.out.size))
                  have BA1 : Hid (Blk (v0.alloc (.cells #[.int .u64 0, .int .u64 0, .slice none 0 0] 27)) v0.heap.size 27 #[.int .u64 0, .int .u64 0, .slice none 0 0]) := Lib.hid (Blk.new _ _ _)
                  have LA := Lib.hid HC0.out.size
                  clear hb
                  generalize (v0.alloc (.cells #[.int .u64 0, .int .u64 0, .slice none 0 0] 27)) = v1 at *
                  generalize v0.heap.size = pA at *
                  try simp only [Act.put, List.setIfInBounds_toArray, List.set_cons_zero, List.set_cons_succ]
                  refine wpAnyH_ready (rs := [4, 10]) (by kernel_rfl) (by simp) ?_
                  refine AllReadyH.cons rfl (fun K hK => ?_) (AllReadyH.cons rfl (fun K hK => ?_) AllReadyH.nil)
                  · skip
                    go_simp
                    refine (AP1.out v1 HC1.out).mono ?_
                    rintro e v2 ⟨Ae, ne, ce, rfl, ho, hb⟩
                    have HC2 := Lib.hid (HC1.out.trans (hb.mono HC1.out.size))
                    have BA2 := Lib.hid (BA1.out.below hb BA1.out.lt)
                    have He2 := Lib.hid (ho.down (show w.heap.size ≤ v1.heap.size from Nat.le_trans HB2.out.size HC1.out.size))
                    clear ho hb
                    refine hK.out _ _ (HD.out _ HC2.out) (fun hHeld => ?_)
                    clear hK K
                    try simp only [Act.put, List.setIfInBounds_toArray, List.set_cons_zero, List.set_cons_succ]
                    refine take_d (i := 5) (d := 149) (v := ?t11) rfl rfl (by kernel_rfl) (by kernel_rfl) (by kernel_rfl) (fun _ _ _ h => h) (Or.inl ⟨by kernel_rfl, ?t11h⟩) hHeld ?t11n
                    case t11h => (intro w hSw; (try dsimp only at hSw); go_split_ands; go_simp; (try exact rfl))
                    try simp only [Act.put, List.setIfInBounds_toArray, List.set_cons_zero, List.set_cons_succ]
                    refine take_d (i := 6) (d := 155) (v := ?t12) rfl rfl (by kernel_rfl) (by kernel_rfl) (by kernel_rfl) (fun _ _ _ h => h) (Or.inl ⟨by kernel_rfl, ?t12h⟩) hHeld ?t12n
                    case t12h => (intro w hSw; (try dsimp only at hSw); go_split_ands; go_simp; (try exact rfl))
                    try simp only [Act.put, List.setIfInBounds_toArray, List.set_cons_zero, List.set_cons_succ]
                    refine take_d (i := 7) (d := 156) (v := ?t13) rfl rfl (by kernel_rfl) (by kernel_rfl) (by kernel_rfl) (fun _ _ _ h => h) (Or.inl ⟨by kernel_rfl, ?t13h⟩) hHeld ?t13n
                    case t13h => (intro w hSw; (try dsimp only at hSw); go_split_ands; go_simp; (try exact rfl))
                    try simp only [Act.put, List.setIfInBounds_toArray, List.set_cons_zero, List.set_cons_succ]
                    refine take_d (i := 8) (d := 157) (v := ?t14) rfl rfl (by kernel_rfl) (by kernel_rfl) (by kernel_rfl) (fun _ _ _ h => h) (Or.inl ⟨by kernel_rfl, ?t14h⟩) hHeld ?t14n
                    case t14h => (intro w hSw; (try dsimp only at hSw); go_split_ands; go_simp; (try exact rfl))
                    try simp only [Act.put, List.setIfInBounds_toArray, List.set_cons_zero, List.set_cons_succ]
                    refine wpAnyH_ready (rs := [10]) (by kernel_rfl) (by simp) ?_
                    refine AllReadyH.cons rfl (fun K hK => ?_) AllReadyH.nil
                    go_simp
                    have hb : Below v2.heap.size v2 (v2.alloc (.cells #[.int .u64 0, .int .u64 0] 24)) := (Below.refl _ _).alloc (Nat.le_refl _) _
                    refine hK.out _ _ (HD.out _ (HC2.out.trans (hb.mono HC2.out.size))) (fun hHeld => ?_)
                    clear hK K
                    have HC3 := Lib.hid (HC2.out.trans (hb.mono HC2.out.size))
                    have He3 := Lib.hid (Eo.below He2.out hb)
                    have BA3 := Lib.hid (BA2.out.below hb BA2.out.lt)
                    have BB3 : Hid (Blk (v2.alloc (.cells #[.int .u64 0, .int .u64 0] 24)) v2.heap.size 24 #[.int .u64 0, .int .u64 0]) := Lib.hid (Blk.new _ _ _)
                    have LB := Lib.hid HC2.out.size
                    clear hb
                    generalize (v2.alloc (.cells #[.int .u64 0, .int .u64 0] 24)) = v3 at *
                    generalize v2.heap.size = pB at *
                    try simp only [Act.put, List.setIfInBounds_toArray, List.set_cons_zero, List.set_cons_succ]
                    have hpp : pA ≠ pB := fun e => by
                      have h1 := BA3.out
                      have h2 := BB3.out
                      rw [e] at h1
                      have := (h1.two_types h2).1
                      cases this
                    refine wpAnyH_ready (rs := [11]) (by kernel_rfl) (by simp) ?_
                    refine AllReadyH.cons rfl (fun K hK => ?_) AllReadyH.nil
                    refine wp_store_blk 27 _ _ rfl pA #[.int .u64 0, .int .u64 0, .slice none 0 0] 27 [.int .u64 PL1.bi, .int .u64 PL1.bt, .slice Ae ne ce] rfl rfl BA3.out rfl Try.i27 (by simp [Value.oneCell']) ?_
                    intro v4 hb ho
                    have BA4 := Lib.hid hb
                    have BB4 := Lib.hid (ho.keep BB3.out hpp.symm)
                    have He4 := Lib.hid (He3.out.only27 BA3.out ho)
                    have HC4 := Lib.hid (HC3.out.trans (ho.below LA.out))
                    clear hb ho
                    refine hK.out _ _ (HD.out _ HC4.out) (fun hHeld => ?_)
                    clear hK K
                    try simp only [Act.put, List.setIfInBounds_toArray, List.set_cons_zero, List.set_cons_succ]
                    refine wpAnyH_ready (rs := [12]) (by kernel_rfl) (by simp) ?_
                    refine AllReadyH.cons rfl (fun K hK => ?_) AllReadyH.nil
                    refine wp_store_blk 24 _ _ rfl pB #[.int .u64 0, .int .u64 0] 24 [.int .u64 PI1, .int .u64 PT1] rfl rfl BB4.out rfl Try.i24 (by simp [Value.oneCell']) ?_
                    intro v5 hb ho
                    have BB5 := Lib.hid hb
                    have BA5 := Lib.hid (ho.keep BA4.out hpp)
                    have He5 := Lib.hid (He4.out.only BB4.out (by decide) (by decide) ho)
                    have HC5 := Lib.hid (HC4.out.trans (ho.below LB.out))
                    clear hb ho
                    refine hK.out _ _ (HD.out _ HC5.out) (fun hHeld => ?_)
                    clear hK K
                    try simp only [Act.put, List.setIfInBounds_toArray, List.set_cons_zero, List.set_cons_succ]
                    refine take_d (i := 13) (d := 29) (v := ?t15) rfl rfl (by kernel_rfl) (by kernel_rfl) (by kernel_rfl) (fun _ _ _ h => h) (Or.inl ⟨by kernel_rfl, ?t15h⟩) hHeld ?t15n
                    case t15h => (intro w hSw; (try dsimp only at hSw); go_split_ands; go_simp; (try exact rfl))
                    try simp only [Act.put, List.setIfInBounds_toArray, List.set_cons_zero, List.set_cons_succ]
                    refine wpAnyH_done (by kernel_rfl) ?_ _
                    refine NoPanic.normal ?_
                    go_wp2_with fail
                    go_meet
                    case rel => exact ⟨pA, pB, Ae, ne, ce, rfl, rfl, rfl, BA5.out, BB5.out, He5.out, HC5.out, LA.out, LB.out, hpp⟩
                  · skip
                    go_simp
                    have hb : Below v1.heap.size v1 (v1.alloc (.cells #[.int .u64 0, .int .u64 0] 24)) := (Below.refl _ _).alloc (Nat.le_refl _) _
                    refine hK.out _ _ (HD.out _ (HC1.out.trans (hb.mono HC1.out.size))) (fun hHeld => ?_)
                    clear hK K
                    have HC2 := Lib.hid (HC1.out.trans (hb.mono HC1.out.size))
                    have BA2 := Lib.hid (BA1.out.below hb BA1.out.lt)
                    have BB2 : Hid (Blk (v1.alloc (.cells #[.int .u64 0, .int .u64 0] 24)) v1.heap.size 24 #[.int .u64 0, .int .u64 0]) := Lib.hid (Blk.new _ _ _)
                    have LB := Lib.hid HC1.out.size
                    clear hb
                    generalize (v1.alloc (.cells #[.int .u64 0, .int .u64 0] 24)) = v2 at *
                    generalize v1.heap.size = pB at *
                    try simp only [Act.put, List.setIfInBounds_toArray, List.set_cons_zero, List.set_cons_succ]
                    refine wpAnyH_ready (rs := [4]) (by kernel_rfl) (by simp) ?_
                    refine AllReadyH.cons rfl (fun K hK => ?_) AllReadyH.nil
                    go_simp
                    refine (AP1.out v2 HC2.out).mono ?_
                    rintro e v3 ⟨Ae, ne, ce, rfl, ho, hb⟩
                    have HC3 := Lib.hid (HC2.out.trans (hb.mono HC2.out.size))
                    have BA3 := Lib.hid (BA2.out.below hb BA2.out.lt)
                    have BB3 := Lib.hid (BB2.out.below hb BB2.out.lt)
                    have He3 := Lib.hid (ho.down (show w.heap.size ≤ v2.heap.size from Nat.le_trans HB2.out.size HC2.out.size))
                    clear ho hb
                    refine hK.out _ _ (HD.out _ HC3.out) (fun hHeld => ?_)
                    clear hK K
                    try simp only [Act.put, List.setIfInBounds_toArray, List.set_cons_zero, List.set_cons_succ]
                    refine take_d (i := 5) (d := 149) (v := ?t16) rfl rfl (by kernel_rfl) (by kernel_rfl) (by kernel_rfl) (fun _ _ _ h => h) (Or.inl ⟨by kernel_rfl, ?t16h⟩) hHeld ?t16n
                    case t16h => (intro w hSw; (try dsimp only at hSw); go_split_ands; go_simp; (try exact rfl))
                    try simp only [Act.put, List.setIfInBounds_toArray, List.set_cons_zero, List.set_cons_succ]
                    refine take_d (i := 6) (d := 155) (v := ?t17) rfl rfl (by kernel_rfl) (by kernel_rfl) (by kernel_rfl) (fun _ _ _ h => h) (Or.inl ⟨by kernel_rfl, ?t17h⟩) hHeld ?t17n
                    case t17h => (intro w hSw; (try dsimp only at hSw); go_split_ands; go_simp; (try exact rfl))
                    try simp only [Act.put, List.setIfInBounds_toArray, List.set_cons_zero, List.set_cons_succ]
                    refine take_d (i := 7) (d := 156) (v := ?t18) rfl rfl (by kernel_rfl) (by kernel_rfl) (by kernel_rfl) (fun _ _ _ h => h) (Or.inl ⟨by kernel_rfl, ?t18h⟩) hHeld ?t18n
                    case t18h => (intro w hSw; (try dsimp only at hSw); go_split_ands; go_simp; (try exact rfl))
                    try simp only [Act.put, List.setIfInBounds_toArray, List.set_cons_zero, List.set_cons_succ]
                    refine take_d (i := 8) (d := 157) (v := ?t19) rfl rfl (by kernel_rfl) (by kernel_rfl) (by kernel_rfl) (fun _ _ _ h => h) (Or.inl ⟨by kernel_rfl, ?t19h⟩) hHeld ?t19n
                    case t19h => (intro w hSw; (try dsimp only at hSw); go_split_ands; go_simp; (try exact rfl))
                    try simp only [Act.put, List.setIfInBounds_toArray, List.set_cons_zero, List.set_cons_succ]
                    have hpp : pA ≠ pB := fun e => by
                      have h1 := BA3.out
                      have h2 := BB3.out
                      rw [e] at h1
                      have := (h1.two_types h2).1
                      cases this
                    refine wpAnyH_ready (rs := [11]) (by kernel_rfl) (by simp) ?_
                    refine AllReadyH.cons rfl (fun K hK => ?_) AllReadyH.nil
                    refine wp_store_blk 27 _ _ rfl pA #[.int .u64 0, .int .u64 0, .slice none 0 0] 27 [.int .u64 PL1.bi, .int .u64 PL1.bt, .slice Ae ne ce] rfl rfl BA3.out rfl Try.i27 (by simp [Value.oneCell']) ?_
                    intro v4 hb ho
                    have BA4 := Lib.hid hb
                    have BB4 := Lib.hid (ho.keep BB3.out hpp.symm)
                    have He4 := Lib.hid (He3.out.only27 BA3.out ho)
                    have HC4 := Lib.hid (HC3.out.trans (ho.below LA.out))
                    clear hb ho
                    refine hK.out _ _ (HD.out _ HC4.out) (fun hHeld => ?_)
                    clear hK K
                    try simp only [Act.put, List.setIfInBounds_toArray, List.set_cons_zero, List.set_cons_succ]
                    refine wpAnyH_ready (rs := [12]) (by kernel_rfl) (by simp) ?_
                    refine AllReadyH.cons rfl (fun K hK => ?_) AllReadyH.nil
                    refine wp_store_blk 24 _ _ rfl pB #[.int .u64 0, .int .u64 0] 24 [.int .u64 PI1, .int .u64 PT1] rfl rfl BB4.out rfl Try.i24 (by simp [Value.oneCell']) ?_
                    intro v5 hb ho
                    have BB5 := Lib.hid hb
                    have BA5 := Lib.hid (ho.keep BA4.out hpp)
                    have He5 := Lib.hid (He4.out.only BB4.out (by decide) (by decide) ho)
                    have HC5 := Lib.hid (HC4.out.trans (ho.below LB.out))
                    clear hb ho
                    refine hK.out _ _ (HD.out _ HC5.out) (fun hHeld => ?_)
                    clear hK K
                    try simp only [Act.put, List.setIfInBounds_toArray, List.set_cons_zero, List.set_cons_succ]
                    refine take_d (i := 13) (d := 29) (v := ?t20) rfl rfl (by kernel_rfl) (by kernel_rfl) (by kernel_rfl) (fun _ _ _ h => h) (Or.inl ⟨by kernel_rfl, ?t20h⟩) hHeld ?t20n
                    case t20h => (intro w hSw; (try dsimp only at hSw); go_split_ands; go_simp; (try exact rfl))
                    try simp only [Act.put, List.setIfInBounds_toArray, List.set_cons_zero, List.set_cons_succ]
                    refine wpAnyH_done (by kernel_rfl) ?_ _
                    refine NoPanic.normal ?_
                    go_wp2_with fail
                    go_meet
                    case rel => exact ⟨pA, pB, Ae, ne, ce, rfl, rfl, rfl, BA5.out, BB5.out, He5.out, HC5.out, LA.out, LB.out, hpp⟩
                · skip
                  go_simp
                  have hb : Below v0.heap.size v0 (v0.alloc (.cells #[.int .u64 0, .int .u64 0] 24)) := (Below.refl _ _).alloc (Nat.le_refl _) _
                  refine hK.out _ _ (HD.out _ (HC0.out.trans (hb.mono HC0.out.size))) (fun hHeld => ?_)
                  clear hK K
                  have HC1 := Lib.hid (HC0.out.trans (hb.mono HC0.out.size))
                  have BB1 : Hid (Blk (v0.alloc (.cells #[.int .u64 0, .int .u64 0] 24)) v0.heap.size 24 #[.int .u64 0, .int .u64 0]) := Lib.hid (Blk.new _ _ _)
                  have LB := Lib.hid HC0.out.size
                  clear hb
                  generalize (v0.alloc (.cells #[.int .u64 0, .int .u64 0] 24)) = v1 at *
                  generalize v0.heap.size = pB at *
                  try simp only [Act.put, List.setIfInBounds_toArray, List.set_cons_zero, List.set_cons_succ]
                  refine wpAnyH_ready (rs := [4, 9]) (by kernel_rfl) (by simp) ?_
                  refine AllReadyH.cons rfl (fun K hK => ?_) (AllReadyH.cons rfl (fun K hK => ?_) AllReadyH.nil)
                  · skip
                    go_simp
                    refine (AP1.out v1 HC1.out).mono ?_
                    rintro e v2 ⟨Ae, ne, ce, rfl, ho, hb⟩
                    have HC2 := Lib.hid (HC1.out.trans (hb.mono HC1.out.size))
                    have BB2 := Lib.hid (BB1.out.below hb BB1.out.lt)
                    have He2 := Lib.hid (ho.down (show w.heap.size ≤ v1.heap.size from Nat.le_trans HB2.out.size HC1.out.size))
                    clear ho hb
                    refine hK.out _ _ (HD.out _ HC2.out) (fun hHeld => ?_)
                    clear hK K
                    try simp only [Act.put, List.setIfInBounds_toArray, List.set_cons_zero, List.set_cons_succ]
                    refine take_d (i := 5) (d := 149) (v := ?t21) rfl rfl (by kernel_rfl) (by kernel_rfl) (by kernel_rfl) (fun _ _ _ h => h) (Or.inl ⟨by kernel_rfl, ?t21h⟩) hHeld ?t21n
                    case t21h => (intro w hSw; (try dsimp only at hSw); go_split_ands; go_simp; (try exact rfl))
                    try simp only [Act.put, List.setIfInBounds_toArray, List.set_cons_zero, List.set_cons_succ]
                    refine take_d (i := 6) (d := 155) (v := ?t22) rfl rfl (by kernel_rfl) (by kernel_rfl) (by kernel_rfl) (fun _ _ _ h => h) (Or.inl ⟨by kernel_rfl, ?t22h⟩) hHeld ?t22n
                    case t22h => (intro w hSw; (try dsimp only at hSw); go_split_ands; go_simp; (try exact rfl))
                    try simp only [Act.put, List.setIfInBounds_toArray, List.set_cons_zero, List.set_cons_succ]
                    refine take_d (i := 7) (d := 156) (v := ?t23) rfl rfl (by kernel_rfl) (by kernel_rfl) (by kernel_rfl) (fun _ _ _ h => h) (Or.inl ⟨by kernel_rfl, ?t23h⟩) hHeld ?t23n
                    case t23h => (intro w hSw; (try dsimp only at hSw); go_split_ands; go_simp; (try exact rfl))
                    try simp only [Act.put, List.setIfInBounds_toArray, List.set_cons_zero, List.set_cons_succ]
                    refine take_d (i := 8) (d := 157) (v := ?t24) rfl rfl (by kernel_rfl) (by kernel_rfl) (by kernel_rfl) (fun _ _ _ h => h) (Or.inl ⟨by kernel_rfl, ?t24h⟩) hHeld ?t24n
                    case t24h => (intro w hSw; (try dsimp only at hSw); go_split_ands; go_simp; (try exact rfl))
                    try simp only [Act.put, List.setIfInBounds_toArray, List.set_cons_zero, List.set_cons_succ]
                    refine wpAnyH_ready (rs := [9]) (by kernel_rfl) (by simp) ?_
                    refine AllReadyH.cons rfl (fun K hK => ?_) AllReadyH.nil
                    go_simp
                    have hb : Below v2.heap.size v2 (v2.alloc (.cells #[.int .u64 0, .int .u64 0, .slice none 0 0] 27)) := (Below.refl _ _).alloc (Nat.le_refl _) _
                    refine hK.out _ _ (HD.out _ (HC2.out.trans (hb.mono HC2.out.size))) (fun hHeld => ?_)
                    clear hK K
                    have HC3 := Lib.hid (HC2.out.trans (hb.mono HC2.out.size))
                    have He3 := Lib.hid (Eo.below He2.out hb)
                    have BB3 := Lib.hid (BB2.out.below hb BB2.out.lt)
                    have BA3 : Hid (Blk (v2.alloc (.cells #[.int .u64 0, .int .u64 0, .slice none 0 0] 27)) v2.heap.size 27 #[.int .u64 0, .int .u64 0, .slice none 0 0]) := Lib.hid (Blk.new _ _ _)
                    have LA := Lib.hid HC2.out.size
                    clear hb
                    generalize (v2.alloc (.cells #[.int .u64 0, .int .u64 0, .slice none 0 0] 27)) = v3 at *
                    generalize v2.heap.size = pA at *
                    try simp only [Act.put, List.setIfInBounds_toArray, List.set_cons_zero, List.set_cons_succ]
                    have hpp : pA ≠ pB := fun e => by
                      have h1 := BA3.out
                      have h2 := BB3.out
                      rw [e] at h1
                      have := (h1.two_types h2).1
                      cases this
                    refine wpAnyH_ready (rs := [11]) (by kernel_rfl) (by simp) ?_
                    refine AllReadyH.cons rfl (fun K hK => ?_) AllReadyH.nil
                    refine wp_store_blk 27 _ _ rfl pA #[.int .u64 0, .int .u64 0, .slice none 0 0] 27 [.int .u64 PL1.bi, .int .u64 PL1.bt, .slice Ae ne ce] rfl rfl BA3.out rfl Try.i27 (by simp [Value.oneCell']) ?_
                    intro v4 hb ho
                    have BA4 := Lib.hid hb
                    have BB4 := Lib.hid (ho.keep BB3.out hpp.symm)
                    have He4 := Lib.hid (He3.out.only27 BA3.out ho)
                    have HC4 := Lib.hid (HC3.out.trans (ho.below LA.out))
                    clear hb ho
                    refine hK.out _ _ (HD.out _ HC4.out) (fun hHeld => ?_)
                    clear hK K
                    try simp only [Act.put, List.setIfInBounds_toArray, List.set_cons_zero, List.set_cons_succ]
                    refine wpAnyH_ready (rs := [12]) (by kernel_rfl) (by simp) ?_
                    refine AllReadyH.cons rfl (fun K hK => ?_) AllReadyH.nil
                    refine wp_store_blk 24 _ _ rfl pB #[.int .u64 0, .int .u64 0] 24 [.int .u64 PI1, .int .u64 PT1] rfl rfl BB4.out rfl Try.i24 (by simp [Value.oneCell']) ?_
                    intro v5 hb ho
                    have BB5 := Lib.hid hb
                    have BA5 := Lib.hid (ho.keep BA4.out hpp)
                    have He5 := Lib.hid (He4.out.only BB4.out (by decide) (by decide) ho)
                    have HC5 := Lib.hid (HC4.out.trans (ho.below LB.out))
                    clear hb ho
                    refine hK.out _ _ (HD.out _ HC5.out) (fun hHeld => ?_)
                    clear hK K
                    try simp only [Act.put, List.setIfInBounds_toArray, List.set_cons_zero, List.set_cons_succ]
                    refine take_d (i := 13) (d := 29) (v := ?t25) rfl rfl (by kernel_rfl) (by kernel_rfl) (by kernel_rfl) (fun _ _ _ h => h) (Or.inl ⟨by kernel_rfl, ?t25h⟩) hHeld ?t25n
                    case t25h => (intro w hSw; (try dsimp only at hSw); go_split_ands; go_simp; (try exact rfl))
                    try simp only [Act.put, List.setIfInBounds_toArray, List.set_cons_zero, List.set_cons_succ]
                    refine wpAnyH_done (by kernel_rfl) ?_ _
                    refine NoPanic.normal ?_
                    go_wp2_with fail
                    go_meet
                    case rel => exact ⟨pA, pB, Ae, ne, ce, rfl, rfl, rfl, BA5.out, BB5.out, He5.out, HC5.out, LA.out, LB.out, hpp⟩
                  · skip
                    go_simp
                    have hb : Below v1.heap.size v1 (v1.alloc (.cells #[.int .u64 0, .int .u64 0, .slice none 0 0] 27)) := (Below.refl _ _).alloc (Nat.le_refl _) _
                    refine hK.out _ _ (HD.out _ (HC1.out.trans (hb.mono HC1.out.size))) (fun hHeld => ?_)
                    clear hK K
                    have HC2 := Lib.hid (HC1.out.trans (hb.mono HC1.out.size))
                    have BB2 := Lib.hid (BB1.out.below hb BB1.out.lt)
                    have BA2 : Hid (Blk (v1.alloc (.cells #[.int .u64 0, .int .u64 0, .slice none 0 0] 27)) v1.heap.size 27 #[.int .u64 0, .int .u64 0, .slice none 0 0]) := Lib.hid (Blk.new _ _ _)
                    have LA := Lib.hid HC1.out.size
                    clear hb
                    generalize (v1.alloc (.cells #[.int .u64 0, .int .u64 0, .slice none 0 0] 27)) = v2 at *
                    generalize v1.heap.size = pA at *
                    try simp only [Act.put, List.setIfInBounds_toArray, List.set_cons_zero, List.set_cons_succ]
                    refine wpAnyH_ready (rs := [4]) (by kernel_rfl) (by simp) ?_
                    refine AllReadyH.cons rfl (fun K hK => ?_) AllReadyH.nil
                    go_simp
                    refine (AP1.out v2 HC2.out).mono ?_
                    rintro e v3 ⟨Ae, ne, ce, rfl, ho, hb⟩
                    have HC3 := Lib.hid (HC2.out.trans (hb.mono HC2.out.size))
                    have BA3 := Lib.hid (BA2.out.below hb BA2.out.lt)
                    have BB3 := Lib.hid (BB2.out.below hb BB2.out.lt)
                    have He3 := Lib.hid (ho.down (show w.heap.size ≤ v2.heap.size from Nat.le_trans HB2.out.size HC2.out.size))
                    clear ho hb
                    refine hK.out _ _ (HD.out _ HC3.out) (fun hHeld => ?_)
                    clear hK K
                    try simp only [Act.put, List.setIfInBounds_toArray, List.set_cons_zero, List.set_cons_succ]
                    refine take_d (i := 5) (d := 149) (v := ?t26) rfl rfl (by kernel_rfl) (by kernel_rfl) (by kernel_rfl) (fun _ _ _ h => h) (Or.inl ⟨by kernel_rfl, ?t26h⟩) hHeld ?t26n
                    case t26h => (intro w hSw; (try dsimp only at hSw); go_split_ands; go_simp; (try exact rfl))
                    try simp only [Act.put, List.setIfInBounds_toArray, List.set_cons_zero, List.set_cons_succ]
                    refine take_d (i := 6) (d := 155) (v := ?t27) rfl rfl (by kernel_rfl) (by kernel_rfl) (by kernel_rfl) (fun _ _ _ h => h) (Or.inl ⟨by kernel_rfl, ?t27h⟩) hHeld ?t27n
                    case t27h => (intro w hSw; (try dsimp only at hSw); go_split_ands; go_simp; (try exact rfl))
                    try simp only [Act.put, List.setIfInBounds_toArray, List.set_cons_zero, List.set_cons_succ]
                    refine take_d (i := 7) (d := 156) (v := ?t28) rfl rfl (by kernel_rfl) (by kernel_rfl) (by kernel_rfl) (fun _ _ _ h => h) (Or.inl ⟨by kernel_rfl, ?t28h⟩) hHeld ?t28n
                    case t28h => (intro w hSw; (try dsimp only at hSw); go_split_ands; go_simp; (try exact rfl))
                    try simp only [Act.put, List.setIfInBounds_toArray, List.set_cons_zero, List.set_cons_succ]
                    refine take_d (i := 8) (d := 157) (v := ?t29) rfl rfl (by kernel_rfl) (by kernel_rfl) (by kernel_rfl) (fun _ _ _ h => h) (Or.inl ⟨by kernel_rfl, ?t29h⟩) hHeld ?t29n
                    case t29h => (intro w hSw; (try dsimp only at hSw); go_split_ands; go_simp; (try exact rfl))
                    try simp only [Act.put, List.setIfInBounds_toArray, List.set_cons_zero, List.set_cons_succ]
                    have hpp : pA ≠ pB := fun e => by
                      have h1 := BA3.out
                      have h2 := BB3.out
                      rw [e] at h1
                      have := (h1.two_types h2).1
                      cases this
                    refine wpAnyH_ready (rs := [11]) (by kernel_rfl) (by simp) ?_
                    refine AllReadyH.cons rfl (fun K hK => ?_) AllReadyH.nil
                    refine wp_store_blk 27 _ _ rfl pA #[.int .u64 0, .int .u64 0, .slice none 0 0] 27 [.int .u64 PL1.bi, .int .u64 PL1.bt, .slice Ae ne ce] rfl rfl BA3.out rfl Try.i27 (by simp [Value.oneCell']) ?_
                    intro v4 hb ho
                    have BA4 := Lib.hid hb
                    have BB4 := Lib.hid (ho.keep BB3.out hpp.symm)
                    have He4 := Lib.hid (He3.out.only27 BA3.out ho)
                    have HC4 := Lib.hid (HC3.out.trans (ho.below LA.out))
                    clear hb ho
                    refine hK.out _ _ (HD.out _ HC4.out) (fun hHeld => ?_)
                    clear hK K
                    try simp only [Act.put, List.setIfInBounds_toArray, List.set_cons_zero, List.set_cons_succ]
                    refine wpAnyH_ready (rs := [12]) (by kernel_rfl) (by simp) ?_
                    refine AllReadyH.cons rfl (fun K hK => ?_) AllReadyH.nil
                    refine wp_store_blk 24 _ _ rfl pB #[.int .u64 0, .int .u64 0] 24 [.int .u64 PI1, .int .u64 PT1] rfl rfl BB4.out rfl Try.i24 (by simp [Value.oneCell']) ?_
                    intro v5 hb ho
                    have BB5 := Lib.hid hb
                    have BA5 := Lib.hid (ho.keep BA4.out hpp)
                    have He5 := Lib.hid (He4.out.only BB4.out (by decide) (by decide) ho)
                    have HC5 := Lib.hid (HC4.out.trans (ho.below LB.out))
                    clear hb ho
                    refine hK.out _ _ (HD.out _ HC5.out) (fun hHeld => ?_)
                    clear hK K
                    try simp only [Act.put, List.setIfInBounds_toArray, List.set_cons_zero, List.set_cons_succ]
                    refine take_d (i := 13) (d := 29) (v := ?t30) rfl rfl (by kernel_rfl) (by kernel_rfl) (by kernel_rfl) (fun _ _ _ h => h) (Or.inl ⟨by kernel_rfl, ?t30h⟩) hHeld ?t30n
                    case t30h => (intro w hSw; (try dsimp only at hSw); go_split_ands; go_simp; (try exact rfl))
                    try simp only [Act.put, List.setIfInBounds_toArray, List.set_cons_zero, List.set_cons_succ]
                    refine wpAnyH_done (by kernel_rfl) ?_ _
                    refine NoPanic.normal ?_
                    go_wp2_with fail
                    go_meet
                    case rel => exact ⟨pA, pB, Ae, ne, ce, rfl, rfl, rfl, BA5.out, BB5.out, He5.out, HC5.out, LA.out, LB.out, hpp⟩
            case rest =>
              obtain ⟨p27, p28, Af, nf, cf, rfl, rfl, rfl, bf', bF', ef', hb, _, _, _⟩ := hcut
              have Bf3 := Lib.hid bf'
              have BF3 := Lib.hid bF'
              have Hf3 := Lib.hid ef'
              have B73 := Lib.hid (B72.out.below hb B72.out.lt)
              have HW3 := Lib.hid (EoT.below HW2.out hb)
              have HH3 := Lib.hid (EoT.below HH2.out hb)
              have HB3 := Lib.hid (HB2.out.trans (hb.mono HB2.out.size))
              clear bf' bF' ef' hb HD AP1 B32 HL2 HI2 B72 HW2 HH2 HB2
              generalize wc = w3 at *
              have HD : Hid (∀ W, Below w3.heap.size w3 W → W.cell? ⟨p7, 0, none⟩ = some (.int .u64 L.bi) ∧ W.cell? ⟨p7, 1, none⟩ = some (.int .u64 L.bt) ∧ W.cell? ⟨p7, 2, none⟩ = some (.slice AW nW cW)) := Lib.hid (fun W hW => (B73.out.below hW B73.out.lt).three)
              have RE1 : Hid (∀ W, Below w3.heap.size w3 W → Calls Try.prog 24 #[.agg #[.int .u64 L.bi, .int .u64 L.bt, .slice AW nW cW], .slice AH 1 cH] W (Lgx W (rExtL L [e1]) (rExtI L [e1]) (rExtT L [e1]) (rExtE L [e1]))) := Lib.hid (fun W hW => by
                have := REX.out W _ _ _ _ AH nM cH 1 cH (EoT.below HW3.out hW) ⟨EoT.below HH3.out hW, by omega, by have := HNC.out; omega⟩
                rw [hM1] at this
                exact this)
              have hc1 : (1 : Int) ≤ (cH : Int) := by have := HNC.out; omega
              have hc2 : 1 ≤ cH := by have := HNC.out; omega
              clear hM1 REX
              generalize rExtL L [e1] = RL1 at *
              generalize rExtI L [e1] = RI1 at *
              generalize rExtT L [e1] = RT1 at *
              generalize rExtE L [e1] = RE1' at *
              go_upto_region 27 with fail
              go_cut [30, 31, 32] from 33 (fun vA vB vE wx => ∃ pA pB Ae ne ce, vA = .pointer (some ⟨pA, 0, none⟩) ∧ vB = .pointer (some ⟨pB, 0, none⟩) ∧ vE = .int .i64 RE1' ∧ Blk wx pA 27 #[.int .u64 RL1.bi, .int .u64 RL1.bt, .slice Ae ne ce] ∧ Blk wx pB 24 #[.int .u64 RI1, .int .u64 RT1] ∧ Eo wx w.heap.size Ae ne ce RL1.es ∧ Below w3.heap.size w3 wx ∧ w3.heap.size ≤ pA ∧ w3.heap.size ≤ pB ∧ pA ≠ pB)
              case first =>
                as_aux_lemma =>
                  have HC0 := Lib.hid (show Below w3.heap.size w3 w3.drew from (Below.refl _ _).drew)
                  have hS0 := HD.out _ HC0.out
                  refine wp_region_noPanic ?_
                  refine wp_region_held_drew (S := fun w' => w'.cell? ⟨p7, 0, none⟩ = some (.int .u64 L.bi) ∧ w'.cell? ⟨p7, 1, none⟩ = some (.int .u64 L.bt) ∧ w'.cell? ⟨p7, 2, none⟩ = some (.slice AW nW cW)) (by kernel_rfl) hS0 (fun hHeld => ?_)
                  generalize w3.drew = v0 at *
                  refine take_d (i := 0) (d := 159) (v := ?t31) rfl rfl (by kernel_rfl) (by kernel_rfl) (by kernel_rfl) (fun _ _ _ h => h) (Or.inl ⟨by kernel_rfl, ?t31h⟩) hHeld ?t31n
                  case t31h => (intro w hSw; (try dsimp only at hSw); go_split_ands; go_simp; (try exact rfl))
                  try simp only [Act.put, List.setIfInBounds_toArray, List.set_cons_zero, List.set_cons_succ]
                  refine take_d (i := 1) (d := 160) (v := ?t32) rfl rfl (by kernel_rfl) (by kernel_rfl) (by kernel_rfl) (fun _ _ _ h => h) (Or.inl ⟨by kernel_rfl, ?t32h⟩) hHeld ?t32n
                  case t32h => (intro w hSw; (try dsimp only at hSw); go_split_ands; go_simp; (try exact rfl))
                  try simp only [Act.put, List.setIfInBounds_toArray, List.set_cons_zero, List.set_cons_succ]
                  refine take_d (i := 2) (d := 161) (v := ?t33) rfl rfl (by kernel_rfl) (by kernel_rfl) (by kernel_rfl) (fun _ _ _ h => h) (Or.inl ⟨by kernel_rfl, ?t33h⟩) hHeld ?t33n
                  case t33h => (intro w hSw; (try dsimp only at hSw); go_split_ands; go_simp; (try exact rfl))
                  try simp only [Act.put, List.setIfInBounds_toArray, List.set_cons_zero, List.set_cons_succ]
                  refine wpAnyH_ready (rs := [3, 8, 9]) (by kernel_rfl) (by simp) ?_
                  refine AllReadyH.cons rfl (fun K hK => ?_) (AllReadyH.cons rfl (fun K hK => ?_) (AllReadyH.cons rfl (fun K hK => ?_) AllReadyH.nil))
                  · skip
                    go_simp
                    refine (RE1.out v0 HC0.out).mono ?_
                    rintro e v1 ⟨Ae, ne, ce, rfl, ho, hb⟩
                    have HC1 := Lib.hid (HC0.out.trans (hb.mono HC0.out.size))
                    have He1 := Lib.hid (ho.down (show w.heap.size ≤ v0.heap.size from Nat.le_trans HB3.out.size HC0.out.size))
                    clear ho hb
                    refine hK.out _ _ (HD.out _ HC1.out) (fun hHeld => ?_)
                    clear hK K
                    try simp only [Act.put, List.setIfInBounds_toArray, List.set_cons_zero, List.set_cons_succ]
                    refine take_d (i := 4) (d := 158) (v := ?t34) rfl rfl (by kernel_rfl) (by kernel_rfl) (by kernel_rfl) (fun _ _ _ h => h) (Or.inl ⟨by kernel_rfl, ?t34h⟩) hHeld ?t34n
                    case t34h => (intro w hSw; (try dsimp only at hSw); go_split_ands; go_simp; (try exact rfl))
                    try simp only [Act.put, List.setIfInBounds_toArray, List.set_cons_zero, List.set_cons_succ]
                    refine take_d (i := 5) (d := 163) (v := ?t35) rfl rfl (by kernel_rfl) (by kernel_rfl) (by kernel_rfl) (fun _ _ _ h => h) (Or.inl ⟨by kernel_rfl, ?t35h⟩) hHeld ?t35n
                    case t35h => (intro w hSw; (try dsimp only at hSw); go_split_ands; go_simp; (try exact rfl))
                    try simp only [Act.put, List.setIfInBounds_toArray, List.set_cons_zero, List.set_cons_succ]
                    refine take_d (i := 6) (d := 164) (v := ?t36) rfl rfl (by kernel_rfl) (by kernel_rfl) (by kernel_rfl) (fun _ _ _ h => h) (Or.inl ⟨by kernel_rfl, ?t36h⟩) hHeld ?t36n
                    case t36h => (intro w hSw; (try dsimp only at hSw); go_split_ands; go_simp; (try exact rfl))
                    try simp only [Act.put, List.setIfInBounds_toArray, List.set_cons_zero, List.set_cons_succ]
                    refine take_d (i := 7) (d := 165) (v := ?t37) rfl rfl (by kernel_rfl) (by kernel_rfl) (by kernel_rfl) (fun _ _ _ h => h) (Or.inl ⟨by kernel_rfl, ?t37h⟩) hHeld ?t37n
                    case t37h => (intro w hSw; (try dsimp only at hSw); go_split_ands; go_simp; (try exact rfl))
                    try simp only [Act.put, List.setIfInBounds_toArray, List.set_cons_zero, List.set_cons_succ]
                    refine wpAnyH_ready (rs := [8, 9]) (by kernel_rfl) (by simp) ?_
                    refine AllReadyH.cons rfl (fun K hK => ?_) (AllReadyH.cons rfl (fun K hK => ?_) AllReadyH.nil)
                    · skip
                      go_simp
                      have hb : Below v1.heap.size v1 (v1.alloc (.cells #[.int .u64 0, .int .u64 0, .slice none 0 0] 27)) := (Below.refl _ _).alloc (Nat.le_refl _) _
                      refine hK.out _ _ (HD.out _ (HC1.out.trans (hb.mono HC1.out.size))) (fun hHeld => ?_)
                      clear hK K
                      have HC2 := Lib.hid (HC1.out.trans (hb.mono HC1.out.size))
                      have He2 := Lib.hid (Eo.below He1.out hb)
                      have BA2 : Hid (Blk (v1.alloc (.cells #[.int .u64 0, .int .u64 0, .slice none 0 0] 27)) v1.heap.size 27 #[.int .u64 0, .int .u64 0, .slice none 0 0]) := Lib.hid (Blk.new _ _ _)
                      have LA := Lib.hid HC1.out.size
                      clear hb
                      generalize (v1.alloc (.cells #[.int .u64 0, .int .u64 0, .slice none 0 0] 27)) = v2 at *
                      generalize v1.heap.size = pA at *
                      try simp only [Act.put, List.setIfInBounds_toArray, List.set_cons_zero, List.set_cons_succ]
                      refine wpAnyH_ready (rs := [9]) (by kernel_rfl) (by simp) ?_
                      refine AllReadyH.cons rfl (fun K hK => ?_) AllReadyH.nil
                      go_simp
                      have hb : Below v2.heap.size v2 (v2.alloc (.cells #[.int .u64 0, .int .u64 0] 24)) := (Below.refl _ _).alloc (Nat.le_refl _) _
                      refine hK.out _ _ (HD.out _ (HC2.out.trans (hb.mono HC2.out.size))) (fun hHeld => ?_)
                      clear hK K
                      have HC3 := Lib.hid (HC2.out.trans (hb.mono HC2.out.size))
                      have He3 := Lib.hid (Eo.below He2.out hb)
                      have BA3 := Lib.hid (BA2.out.below hb BA2.out.lt)
                      have BB3 : Hid (Blk (v2.alloc (.cells #[.int .u64 0, .int .u64 0] 24)) v2.heap.size 24 #[.int .u64 0, .int .u64 0]) := Lib.hid (Blk.new _ _ _)
                      have LB := Lib.hid HC2.out.size
                      clear hb
                      generalize (v2.alloc (.cells #[.int .u64 0, .int .u64 0] 24)) = v3 at *
                      generalize v2.heap.size = pB at *
                      try simp only [Act.put, List.setIfInBounds_toArray, List.set_cons_zero, List.set_cons_succ]
                      have hpp : pA ≠ pB := fun e => by
                        have h1 := BA3.out
                        have h2 := BB3.out
                        rw [e] at h1
                        have := (h1.two_types h2).1
                        cases this
                      refine wpAnyH_ready (rs := [10]) (by kernel_rfl) (by simp) ?_
                      refine AllReadyH.cons rfl (fun K hK => ?_) AllReadyH.nil
                      refine wp_store_blk 27 _ _ rfl pA #[.int .u64 0, .int .u64 0, .slice none 0 0] 27 [.int .u64 RL1.bi, .int .u64 RL1.bt, .slice Ae ne ce] rfl rfl BA3.out rfl Try.i27 (by simp [Value.oneCell']) ?_
                      intro v4 hb ho
                      have BA4 := Lib.hid hb
                      have BB4 := Lib.hid (ho.keep BB3.out hpp.symm)
                      have He4 := Lib.hid (He3.out.only27 BA3.out ho)
                      have HC4 := Lib.hid (HC3.out.trans (ho.below LA.out))
                      clear hb ho
                      refine hK.out _ _ (HD.out _ HC4.out) (fun hHeld => ?_)
                      clear hK K
                      try simp only [Act.put, List.setIfInBounds_toArray, List.set_cons_zero, List.set_cons_succ]
                      refine wpAnyH_ready (rs := [11]) (by kernel_rfl) (by simp) ?_
                      refine AllReadyH.cons rfl (fun K hK => ?_) AllReadyH.nil
                      refine wp_store_blk 24 _ _ rfl pB #[.int .u64 0, .int .u64 0] 24 [.int .u64 RI1, .int .u64 RT1] rfl rfl BB4.out rfl Try.i24 (by simp [Value.oneCell']) ?_
                      intro v5 hb ho
                      have BB5 := Lib.hid hb
                      have BA5 := Lib.hid (ho.keep BA4.out hpp)
                      have He5 := Lib.hid (He4.out.only BB4.out (by decide) (by decide) ho)
                      have HC5 := Lib.hid (HC4.out.trans (ho.below LB.out))
                      clear hb ho
                      refine hK.out _ _ (HD.out _ HC5.out) (fun hHeld => ?_)
                      clear hK K
                      try simp only [Act.put, List.setIfInBounds_toArray, List.set_cons_zero, List.set_cons_succ]
                      refine take_d (i := 12) (d := 32) (v := ?t38) rfl rfl (by kernel_rfl) (by kernel_rfl) (by kernel_rfl) (fun _ _ _ h => h) (Or.inl ⟨by kernel_rfl, ?t38h⟩) hHeld ?t38n
                      case t38h => (intro w hSw; (try dsimp only at hSw); go_split_ands; go_simp; (try exact rfl))
                      try simp only [Act.put, List.setIfInBounds_toArray, List.set_cons_zero, List.set_cons_succ]
                      refine wpAnyH_done (by kernel_rfl) ?_ _
                      refine NoPanic.normal ?_
                      go_wp2_with fail
                      go_meet
                      case rel => exact ⟨pA, pB, Ae, ne, ce, rfl, rfl, rfl, BA5.out, BB5.out, He5.out, HC5.out, LA.out, LB.out, hpp⟩
                    · skip
                      go_simp
                      have hb : Below v1.heap.size v1 (v1.alloc (.cells #[.int .u64 0, .int .u64 0] 24)) := (Below.refl _ _).alloc (Nat.le_refl _) _
                      refine hK.out _ _ (HD.out _ (HC1.out.trans (hb.mono HC1.out.size))) (fun hHeld => ?_)
                      clear hK K
                      have HC2 := Lib.hid (HC1.out.trans (hb.mono HC1.out.size))
                      have He2 := Lib.hid (Eo.below He1.out hb)
                      have BB2 : Hid (Blk (v1.alloc (.cells #[.int .u64 0, .int .u64 0] 24)) v1.heap.size 24 #[.int .u64 0, .int .u64 0]) := Lib.hid (Blk.new _ _ _)
                      have LB := Lib.hid HC1.out.size
                      clear hb
                      generalize (v1.alloc (.cells #[.int .u64 0, .int .u64 0] 24)) = v2 at *
                      generalize v1.heap.size = pB at *
                      try simp only [Act.put, List.setIfInBounds_toArray, List.set_cons_zero, List.set_cons_succ]
                      refine wpAnyH_ready (rs := [8]) (by kernel_rfl) (by simp) ?_
                      refine AllReadyH.cons rfl (fun K hK => ?_) AllReadyH.nil
                      go_simp
                      have hb : Below v2.heap.size v2 (v2.alloc (.cells #[.int .u64 0, .int .u64 0, .slice none 0 0] 27)) := (Below.refl _ _).alloc (Nat.le_refl _) _
                      refine hK.out _ _ (HD.out _ (HC2.out.trans (hb.mono HC2.out.size))) (fun hHeld => ?_)
                      clear hK K
                      have HC3 := Lib.hid (HC2.out.trans (hb.mono HC2.out.size))
                      have He3 := Lib.hid (Eo.below He2.out hb)
                      have BB3 := Lib.hid (BB2.out.below hb BB2.out.lt)
                      have BA3 : Hid (Blk (v2.alloc (.cells #[.int .u64 0, .int .u64 0, .slice none 0 0] 27)) v2.heap.size 27 #[.int .u64 0, .int .u64 0, .slice none 0 0]) := Lib.hid (Blk.new _ _ _)
                      have LA := Lib.hid HC2.out.size
                      clear hb
                      generalize (v2.alloc (.cells #[.int .u64 0, .int .u64 0, .slice none 0 0] 27)) = v3 at *
                      generalize v2.heap.size = pA at *
                      try simp only [Act.put, List.setIfInBounds_toArray, List.set_cons_zero, List.set_cons_succ]
                      have hpp : pA ≠ pB := fun e => by
                        have h1 := BA3.out
                        have h2 := BB3.out
                        rw [e] at h1
                        have := (h1.two_types h2).1
                        cases this
                      refine wpAnyH_ready (rs := [10]) (by kernel_rfl) (by simp) ?_
                      refine AllReadyH.cons rfl (fun K hK => ?_) AllReadyH.nil
                      refine wp_store_blk 27 _ _ rfl pA #[.int .u64 0, .int .u64 0, .slice none 0 0] 27 [.int .u64 RL1.bi, .int .u64 RL1.bt, .slice Ae ne ce] rfl rfl BA3.out rfl Try.i27 (by simp [Value.oneCell']) ?_
                      intro v4 hb ho
                      have BA4 := Lib.hid hb
                      have BB4 := Lib.hid (ho.keep BB3.out hpp.symm)
                      have He4 := Lib.hid (He3.out.only27 BA3.out ho)
                      have HC4 := Lib.hid (HC3.out.trans (ho.below LA.out))
                      clear hb ho
                      refine hK.out _ _ (HD.out _ HC4.out) (fun hHeld => ?_)
                      clear hK K
                      try simp only [Act.put, List.setIfInBounds_toArray, List.set_cons_zero, List.set_cons_succ]
                      refine wpAnyH_ready (rs := [11]) (by kernel_rfl) (by simp) ?_
                      refine AllReadyH.cons rfl (fun K hK => ?_) AllReadyH.nil
                      refine wp_store_blk 24 _ _ rfl pB #[.int .u64 0, .int .u64 0] 24 [.int .u64 RI1, .int .u64 RT1] rfl rfl BB4.out rfl Try.i24 (by simp [Value.oneCell']) ?_
                      intro v5 hb ho
                      have BB5 := Lib.hid hb
                      have BA5 := Lib.hid (ho.keep BA4.out hpp)
                      have He5 := Lib.hid (He4.out.only BB4.out (by decide) (by decide) ho)
                      have HC5 := Lib.hid (HC4.out.trans (ho.below LB.out))
                      clear hb ho
                      refine hK.out _ _ (HD.out _ HC5.out) (fun hHeld => ?_)
                      clear hK K
                      try simp only [Act.put, List.setIfInBounds_toArray, List.set_cons_zero, List.set_cons_succ]
                      refine take_d (i := 12) (d := 32) (v := ?t39) rfl rfl (by kernel_rfl) (by kernel_rfl) (by kernel_rfl) (fun _ _ _ h => h) (Or.inl ⟨by kernel_rfl, ?t39h⟩) hHeld ?t39n
                      case t39h => (intro w hSw; (try dsimp only at hSw); go_split_ands; go_simp; (try exact rfl))
                      try simp only [Act.put, List.setIfInBounds_toArray, List.set_cons_zero, List.set_cons_succ]
                      refine wpAnyH_done (by kernel_rfl) ?_ _
                      refine NoPanic.normal ?_
                      go_wp2_with fail
                      go_meet
                      case rel => exact ⟨pA, pB, Ae, ne, ce, rfl, rfl, rfl, BA5.out, BB5.out, He5.out, HC5.out, LA.out, LB.out, hpp⟩
                  · skip
                    go_simp
                    have hb : Below v0.heap.size v0 (v0.alloc (.cells #[.int .u64 0, .int .u64 0, .slice none 0 0] 27)) := (Below.refl _ _).alloc (Nat.le_refl _) _
                    refine hK.out _ _ (HD.out _ (HC0.out.trans (hb.mono HC0.out.size))) (fun hHeld => ?_)
                    clear hK K
                    have HC1 := Lib.hid (HC0.out.trans (hb.mono HC0.out.size))
                    have BA1 : Hid (Blk (v0.alloc (.cells #[.int .u64 0, .int .u64 0, .slice none 0 0] 27)) v0.heap.size 27 #[.int .u64 0, .int .u64 0, .slice none 0 0]) := Lib.hid (Blk.new _ _ _)
                    have LA := Lib.hid HC0.out.size
                    clear hb
                    generalize (v0.alloc (.cells #[.int .u64 0, .int .u64 0, .slice none 0 0] 27)) = v1 at *
                    generalize v0.heap.size = pA at *
                    try simp only [Act.put, List.setIfInBounds_toArray, List.set_cons_zero, List.set_cons_succ]
                    refine wpAnyH_ready (rs := [3, 9]) (by kernel_rfl) (by simp) ?_
                    refine AllReadyH.cons rfl (fun K hK => ?_) (AllReadyH.cons rfl (fun K hK => ?_) AllReadyH.nil)
                    · skip
                      go_simp
                      refine (RE1.out v1 HC1.out).mono ?_
                      rintro e v2 ⟨Ae, ne, ce, rfl, ho, hb⟩
                      have HC2 := Lib.hid (HC1.out.trans (hb.mono HC1.out.size))
                      have BA2 := Lib.hid (BA1.out.below hb BA1.out.lt)
                      have He2 := Lib.hid (ho.down (show w.heap.size ≤ v1.heap.size from Nat.le_trans HB3.out.size HC1.out.size))
                      clear ho hb
                      refine hK.out _ _ (HD.out _ HC2.out) (fun hHeld => ?_)
                      clear hK K
                      try simp only [Act.put, List.setIfInBounds_toArray, List.set_cons_zero, List.set_cons_succ]
                      refine take_d (i := 4) (d := 158) (v := ?t40) rfl rfl (by kernel_rfl) (by kernel_rfl) (by kernel_rfl) (fun _ _ _ h => h) (Or.inl ⟨by kernel_rfl, ?t40h⟩) hHeld ?t40n
                      case t40h => (intro w hSw; (try dsimp only at hSw); go_split_ands; go_simp; (try exact rfl))
                      try simp only [Act.put, List.setIfInBounds_toArray, List.set_cons_zero, List.set_cons_succ]
                      refine take_d (i := 5) (d := 163) (v := ?t41) rfl rfl (by kernel_rfl) (by kernel_rfl) (by kernel_rfl) (fun _ _ _ h => h) (Or.inl ⟨by kernel_rfl, ?t41h⟩) hHeld ?t41n
                      case t41h => (intro w hSw; (try dsimp only at hSw); go_split_ands; go_simp; (try exact rfl))
                      try simp only [Act.put, List.setIfInBounds_toArray, List.set_cons_zero, List.set_cons_succ]
                      refine take_d (i := 6) (d := 164) (v := ?t42) rfl rfl (by kernel_rfl) (by kernel_rfl) (by kernel_rfl) (fun _ _ _ h => h) (Or.inl ⟨by kernel_rfl, ?t42h⟩) hHeld ?t42n
                      case t42h => (intro w hSw; (try dsimp only at hSw); go_split_ands; go_simp; (try exact rfl))
                      try simp only [Act.put, List.setIfInBounds_toArray, List.set_cons_zero, List.set_cons_succ]
                      refine take_d (i := 7) (d := 165) (v := ?t43) rfl rfl (by kernel_rfl) (by kernel_rfl) (by kernel_rfl) (fun _ _ _ h => h) (Or.inl ⟨by kernel_rfl, ?t43h⟩) hHeld ?t43n
                      case t43h => (intro w hSw; (try dsimp only at hSw); go_split_ands; go_simp; (try exact rfl))
                      try simp only [Act.put, List.setIfInBounds_toArray, List.set_cons_zero, List.set_cons_succ]
                      refine wpAnyH_ready (rs := [9]) (by kernel_rfl) (by simp) ?_
                      refine AllReadyH.cons rfl (fun K hK => ?_) AllReadyH.nil
                      go_simp
                      have hb : Below v2.heap.size v2 (v2.alloc (.cells #[.int .u64 0, .int .u64 0] 24)) := (Below.refl _ _).alloc (Nat.le_refl _) _
                      refine hK.out _ _ (HD.out _ (HC2.out.trans (hb.mono HC2.out.size))) (fun hHeld => ?_)
                      clear hK K
                      have HC3 := Lib.hid (HC2.out.trans (hb.mono HC2.out.size))
                      have He3 := Lib.hid (Eo.below He2.out hb)
                      have BA3 := Lib.hid (BA2.out.below hb BA2.out.lt)
                      have BB3 : Hid (Blk (v2.alloc (.cells #[.int .u64 0, .int .u64 0] 24)) v2.heap.size 24 #[.int .u64 0, .int .u64 0]) := Lib.hid (Blk.new _ _ _)
                      have LB := Lib.hid HC2.out.size
                      clear hb
                      generalize (v2.alloc (.cells #[.int .u64 0, .int .u64 0] 24)) = v3 at *
                      generalize v2.heap.size = pB at *
                      try simp only [Act.put, List.setIfInBounds_toArray, List.set_cons_zero, List.set_cons_succ]
                      have hpp : pA ≠ pB := fun e => by
                        have h1 := BA3.out
                        have h2 := BB3.out
                        rw [e] at h1
                        have := (h1.two_types h2).1
                        cases this
                      refine wpAnyH_ready (rs := [10]) (by kernel_rfl) (by simp) ?_
                      refine AllReadyH.cons rfl (fun K hK => ?_) AllReadyH.nil
                      refine wp_store_blk 27 _ _ rfl pA #[.int .u64 0, .int .u64 0, .slice none 0 0] 27 [.int .u64 RL1.bi, .int .u64 RL1.bt, .slice Ae ne ce] rfl rfl BA3.out rfl Try.i27 (by simp [Value.oneCell']) ?_
                      intro v4 hb ho
                      have BA4 := Lib.hid hb
                      have BB4 := Lib.hid (ho.keep BB3.out hpp.symm)
                      have He4 := Lib.hid (He3.out.only27 BA3.out ho)
                      have HC4 := Lib.hid (HC3.out.trans (ho.below LA.out))
                      clear hb ho
                      refine hK.out _ _ (HD.out _ HC4.out) (fun hHeld => ?_)
                      clear hK K
                      try simp only [Act.put, List.setIfInBounds_toArray, List.set_cons_zero, List.set_cons_succ]
                      refine wpAnyH_ready (rs := [11]) (by kernel_rfl) (by simp) ?_
                      refine AllReadyH.cons rfl (fun K hK => ?_) AllReadyH.nil
                      refine wp_store_blk 24 _ _ rfl pB #[.int .u64 0, .int .u64 0] 24 [.int .u64 RI1, .int .u64 RT1] rfl rfl BB4.out rfl Try.i24 (by simp [Value.oneCell']) ?_
                      intro v5 hb ho
                      have BB5 := Lib.hid hb
                      have BA5 := Lib.hid (ho.keep BA4.out hpp)
                      have He5 := Lib.hid (He4.out.only BB4.out (by decide) (by decide) ho)
                      have HC5 := Lib.hid (HC4.out.trans (ho.below LB.out))
                      clear hb ho
                      refine hK.out _ _ (HD.out _ HC5.out) (fun hHeld => ?_)
                      clear hK K
                      try simp only [Act.put, List.setIfInBounds_toArray, List.set_cons_zero, List.set_cons_succ]
                      refine take_d (i := 12) (d := 32) (v := ?t44) rfl rfl (by kernel_rfl) (by kernel_rfl) (by kernel_rfl) (fun _ _ _ h => h) (Or.inl ⟨by kernel_rfl, ?t44h⟩) hHeld ?t44n
                      case t44h => (intro w hSw; (try dsimp only at hSw); go_split_ands; go_simp; (try exact rfl))
                      try simp only [Act.put, List.setIfInBounds_toArray, List.set_cons_zero, List.set_cons_succ]
                      refine wpAnyH_done (by kernel_rfl) ?_ _
                      refine NoPanic.normal ?_
                      go_wp2_with fail
                      go_meet
                      case rel => exact ⟨pA, pB, Ae, ne, ce, rfl, rfl, rfl, BA5.out, BB5.out, He5.out, HC5.out, LA.out, LB.out, hpp⟩
                    · skip
                      go_simp
                      have hb : Below v1.heap.size v1 (v1.alloc (.cells #[.int .u64 0, .int .u64 0] 24)) := (Below.refl _ _).alloc (Nat.le_refl _) _
                      refine hK.out _ _ (HD.out _ (HC1.out.trans (hb.mono HC1.out.size))) (fun hHeld => ?_)
                      clear hK K
                      have HC2 := Lib.hid (HC1.out.trans (hb.mono HC1.out.size))
                      have BA2 := Lib.hid (BA1.out.below hb BA1.out.lt)
                      have BB2 : Hid (Blk (v1.alloc (.cells #[.int .u64 0, .int .u64 0] 24)) v1.heap.size 24 #[.int .u64 0, .int .u64 0]) := Lib.hid (Blk.new _ _ _)
                      have LB := Lib.hid HC1.out.size
                      clear hb
                      generalize (v1.alloc (.cells #[.int .u64 0, .int .u64 0] 24)) = v2 at *
                      generalize v1.heap.size = pB at *
                      try simp only [Act.put, List.setIfInBounds_toArray, List.set_cons_zero, List.set_cons_succ]
                      refine wpAnyH_ready (rs := [3]) (by kernel_rfl) (by simp) ?_
                      refine AllReadyH.cons rfl (fun K hK => ?_) AllReadyH.nil
                      go_simp
                      refine (RE1.out v2 HC2.out).mono ?_
                      rintro e v3 ⟨Ae, ne, ce, rfl, ho, hb⟩
                      have HC3 := Lib.hid (HC2.out.trans (hb.mono HC2.out.size))
                      have BA3 := Lib.hid (BA2.out.below hb BA2.out.lt)
                      have BB3 := Lib.hid (BB2.out.below hb BB2.out.lt)
                      have He3 := Lib.hid (ho.down (show w.heap.size ≤ v2.heap.size from Nat.le_trans HB3.out.size HC2.out.size))
                      clear ho hb
                      refine hK.out _ _ (HD.out _ HC3.out) (fun hHeld => ?_)
                      clear hK K
                      try simp only [Act.put, List.setIfInBounds_toArray, List.set_cons_zero, List.set_cons_succ]
                      refine take_d (i := 4) (d := 158) (v := ?t45) rfl rfl (by kernel_rfl) (by kernel_rfl) (by kernel_rfl) (fun _ _ _ h => h) (Or.inl ⟨by kernel_rfl, ?t45h⟩) hHeld ?t45n
                      case t45h => (intro w hSw; (try dsimp only at hSw); go_split_ands; go_simp; (try exact rfl))
                      try simp only [Act.put, List.setIfInBounds_toArray, List.set_cons_zero, List.set_cons_succ]
                      refine take_d (i := 5) (d := 163) (v := ?t46) rfl rfl (by kernel_rfl) (by kernel_rfl) (by kernel_rfl) (fun _ _ _ h => h) (Or.inl ⟨by kernel_rfl, ?t46h⟩) hHeld ?t46n
                      case t46h => (intro w hSw; (try dsimp only at hSw); go_split_ands; go_simp; (try exact rfl))
                      try simp only [Act.put, List.setIfInBounds_toArray, List.set_cons_zero, List.set_cons_succ]
                      refine take_d (i := 6) (d := 164) (v := ?t47) rfl rfl (by kernel_rfl) (by kernel_rfl) (by kernel_rfl) (fun _ _ _ h => h) (Or.inl ⟨by kernel_rfl, ?t47h⟩) hHeld ?t47n
                      case t47h => (intro w hSw; (try dsimp only at hSw); go_split_ands; go_simp; (try exact rfl))
                      try simp only [Act.put, List.setIfInBounds_toArray, List.set_cons_zero, List.set_cons_succ]
                      refine take_d (i := 7) (d := 165) (v := ?t48) rfl rfl (by kernel_rfl) (by kernel_rfl) (by kernel_rfl) (fun _ _ _ h => h) (Or.inl ⟨by kernel_rfl, ?t48h⟩) hHeld ?t48n
                      case t48h => (intro w hSw; (try dsimp only at hSw); go_split_ands; go_simp; (try exact rfl))
                      try simp only [Act.put, List.setIfInBounds_toArray, List.set_cons_zero, List.set_cons_succ]
                      have hpp : pA ≠ pB := fun e => by
                        have h1 := BA3.out
                        have h2 := BB3.out
                        rw [e] at h1
                        have := (h1.two_types h2).1
                        cases this
                      refine wpAnyH_ready (rs := [10]) (by kernel_rfl) (by simp) ?_
                      refine AllReadyH.cons rfl (fun K hK => ?_) AllReadyH.nil
                      refine wp_store_blk 27 _ _ rfl pA #[.int .u64 0, .int .u64 0, .slice none 0 0] 27 [.int .u64 RL1.bi, .int .u64 RL1.bt, .slice Ae ne ce] rfl rfl BA3.out rfl Try.i27 (by simp [Value.oneCell']) ?_
                      intro v4 hb ho
                      have BA4 := Lib.hid hb
                      have BB4 := Lib.hid (ho.keep BB3.out hpp.symm)
                      have He4 := Lib.hid (He3.out.only27 BA3.out ho)
                      have HC4 := Lib.hid (HC3.out.trans (ho.below LA.out))
                      clear hb ho
                      refine hK.out _ _ (HD.out _ HC4.out) (fun hHeld => ?_)
                      clear hK K
                      try simp only [Act.put, List.setIfInBounds_toArray, List.set_cons_zero, List.set_cons_succ]
                      refine wpAnyH_ready (rs := [11]) (by kernel_rfl) (by simp) ?_
                      refine AllReadyH.cons rfl (fun K hK => ?_) AllReadyH.nil
                      refine wp_store_blk 24 _ _ rfl pB #[.int .u64 0, .int .u64 0] 24 [.int .u64 RI1, .int .u64 RT1] rfl rfl BB4.out rfl Try.i24 (by simp [Value.oneCell']) ?_
                      intro v5 hb ho
                      have BB5 := Lib.hid hb
                      have BA5 := Lib.hid (ho.keep BA4.out hpp)
                      have He5 := Lib.hid (He4.out.only BB4.out (by decide) (by decide) ho)
                      have HC5 := Lib.hid (HC4.out.trans (ho.below LB.out))
                      clear hb ho
                      refine hK.out _ _ (HD.out _ HC5.out) (fun hHeld => ?_)
                      clear hK K
                      try simp only [Act.put, List.setIfInBounds_toArray, List.set_cons_zero, List.set_cons_succ]
                      refine take_d (i := 12) (d := 32) (v := ?t49) rfl rfl (by kernel_rfl) (by kernel_rfl) (by kernel_rfl) (fun _ _ _ h => h) (Or.inl ⟨by kernel_rfl, ?t49h⟩) hHeld ?t49n
                      case t49h => (intro w hSw; (try dsimp only at hSw); go_split_ands; go_simp; (try exact rfl))
                      try simp only [Act.put, List.setIfInBounds_toArray, List.set_cons_zero, List.set_cons_succ]
                      refine wpAnyH_done (by kernel_rfl) ?_ _
                      refine NoPanic.normal ?_
                      go_wp2_with fail
                      go_meet
                      case rel => exact ⟨pA, pB, Ae, ne, ce, rfl, rfl, rfl, BA5.out, BB5.out, He5.out, HC5.out, LA.out, LB.out, hpp⟩
                  · skip
                    go_simp
                    have hb : Below v0.heap.size v0 (v0.alloc (.cells #[.int .u64 0, .int .u64 0] 24)) := (Below.refl _ _).alloc (Nat.le_refl _) _
                    refine hK.out _ _ (HD.out _ (HC0.out.trans (hb.mono HC0.out.size))) (fun hHeld => ?_)
                    clear hK K
                    have HC1 := Lib.hid (HC0.out.trans (hb.mono HC0.out.size))
                    have BB1 : Hid (Blk (v0.alloc (.cells #[.int .u64 0, .int .u64 0] 24)) v0.heap.size 24 #[.int .u64 0, .int .u64 0]) := Lib.hid (Blk.new _ _ _)
                    have LB := Lib.hid HC0.out.size
                    clear hb
                    generalize (v0.alloc (.cells #[.int .u64 0, .int .u64 0] 24)) = v1 at *
                    generalize v0.heap.size = pB at *
                    try simp only [Act.put, List.setIfInBounds_toArray, List.set_cons_zero, List.set_cons_succ]
                    refine wpAnyH_ready (rs := [3, 8]) (by kernel_rfl) (by simp) ?_
                    refine AllReadyH.cons rfl (fun K hK => ?_) (AllReadyH.cons rfl (fun K hK => ?_) AllReadyH.nil)
                    · skip
                      go_simp
                      refine (RE1.out v1 HC1.out).mono ?_
                      rintro e v2 ⟨Ae, ne, ce, rfl, ho, hb⟩
                      have HC2 := Lib.hid (HC1.out.trans (hb.mono HC1.out.size))
                      have BB2 := Lib.hid (BB1.out.below hb BB1.out.lt)
                      have He2 := Lib.hid (ho.down (show w.heap.size ≤ v1.heap.size from Nat.le_trans HB3.out.size HC1.out.size))
                      clear ho hb
                      refine hK.out _ _ (HD.out _ HC2.out) (fun hHeld => ?_)
                      clear hK K
                      try simp only [Act.put, List.setIfInBounds_toArray, List.set_cons_zero, List.set_cons_succ]
                      refine take_d (i := 4) (d := 158) (v := ?t50) rfl rfl (by kernel_rfl) (by kernel_rfl) (by kernel_rfl) (fun _ _ _ h => h) (Or.inl ⟨by kernel_rfl, ?t50h⟩) hHeld ?t50n
                      case t50h => (intro w hSw; (try dsimp only at hSw); go_split_ands; go_simp; (try exact rfl))
                      try simp only [Act.put, List.setIfInBounds_toArray, List.set_cons_zero, List.set_cons_succ]
                      refine take_d (i := 5) (d := 163) (v := ?t51) rfl rfl (by kernel_rfl) (by kernel_rfl) (by kernel_rfl) (fun _ _ _ h => h) (Or.inl ⟨by kernel_rfl, ?t51h⟩) hHeld ?t51n
                      case t51h => (intro w hSw; (try dsimp only at hSw); go_split_ands; go_simp; (try exact rfl))
                      try simp only [Act.put, List.setIfInBounds_toArray, List.set_cons_zero, List.set_cons_succ]
                      refine take_d (i := 6) (d := 164) (v := ?t52) rfl rfl (by kernel_rfl) (by kernel_rfl) (by kernel_rfl) (fun _ _ _ h => h) (Or.inl ⟨by kernel_rfl, ?t52h⟩) hHeld ?t52n
                      case t52h => (intro w hSw; (try dsimp only at hSw); go_split_ands; go_simp; (try exact rfl))
                      try simp only [Act.put, List.setIfInBounds_toArray, List.set_cons_zero, List.set_cons_succ]
                      refine take_d (i := 7) (d := 165) (v := ?t53) rfl rfl (by kernel_rfl) (by kernel_rfl) (by kernel_rfl) (fun _ _ _ h => h) (Or.inl ⟨by kernel_rfl, ?t53h⟩) hHeld ?t53n
                      case t53h => (intro w hSw; (try dsimp only at hSw); go_split_ands; go_simp; (try exact rfl))
                      try simp only [Act.put, List.setIfInBounds_toArray, List.set_cons_zero, List.set_cons_succ]
                      refine wpAnyH_ready (rs := [8]) (by kernel_rfl) (by simp) ?_
                      refine AllReadyH.cons rfl (fun K hK => ?_) AllReadyH.nil
                      go_simp
                      have hb : Below v2.heap.size v2 (v2.alloc (.cells #[.int .u64 0, .int .u64 0, .slice none 0 0] 27)) := (Below.refl _ _).alloc (Nat.le_refl _) _
                      refine hK.out _ _ (HD.out _ (HC2.out.trans (hb.mono HC2.out.size))) (fun hHeld => ?_)
                      clear hK K
                      have HC3 := Lib.hid (HC2.out.trans (hb.mono HC2.out.size))
                      have He3 := Lib.hid (Eo.below He2.out hb)
                      have BB3 := Lib.hid (BB2.out.below hb BB2.out.lt)
                      have BA3 : Hid (Blk (v2.alloc (.cells #[.int .u64 0, .int .u64 0, .slice none 0 0] 27)) v2.heap.size 27 #[.int .u64 0, .int .u64 0, .slice none 0 0]) := Lib.hid (Blk.new _ _ _)
                      have LA := Lib.hid HC2.out.size
                      clear hb
                      generalize (v2.alloc (.cells #[.int .u64 0, .int .u64 0, .slice none 0 0] 27)) = v3 at *
                      generalize v2.heap.size = pA at *
                      try simp only [Act.put, List.setIfInBounds_toArray, List.set_cons_zero, List.set_cons_succ]
                      have hpp : pA ≠ pB := fun e => by
                        have h1 := BA3.out
                        have h2 := BB3.out
                        rw [e] at h1
                        have := (h1.two_types h2).1
                        cases this
                      refine wpAnyH_ready (rs := [10]) (by kernel_rfl) (by simp) ?_
                      refine AllReadyH.cons rfl (fun K hK => ?_) AllReadyH.nil
                      refine wp_store_blk 27 _ _ rfl pA #[.int .u64 0, .int .u64 0, .slice none 0 0] 27 [.int .u64 RL1.bi, .int .u64 RL1.bt, .slice Ae ne ce] rfl rfl BA3.out rfl Try.i27 (by simp [Value.oneCell']) ?_
                      intro v4 hb ho
                      have BA4 := Lib.hid hb
                      have BB4 := Lib.hid (ho.keep BB3.out hpp.symm)
                      have He4 := Lib.hid (He3.out.only27 BA3.out ho)
                      have HC4 := Lib.hid (HC3.out.trans (ho.below LA.out))
                      clear hb ho
                      refine hK.out _ _ (HD.out _ HC4.out) (fun hHeld => ?_)
                      clear hK K
                      try simp only [Act.put, List.setIfInBounds_toArray, List.set_cons_zero, List.set_cons_succ]
                      refine wpAnyH_ready (rs := [11]) (by kernel_rfl) (by simp) ?_
                      refine AllReadyH.cons rfl (fun K hK => ?_) AllReadyH.nil
                      refine wp_store_blk 24 _ _ rfl pB #[.int .u64 0, .int .u64 0] 24 [.int .u64 RI1, .int .u64 RT1] rfl rfl BB4.out rfl Try.i24 (by simp [Value.oneCell']) ?_
                      intro v5 hb ho
                      have BB5 := Lib.hid hb
                      have BA5 := Lib.hid (ho.keep BA4.out hpp)
                      have He5 := Lib.hid (He4.out.only BB4.out (by decide) (by decide) ho)
                      have HC5 := Lib.hid (HC4.out.trans (ho.below LB.out))
                      clear hb ho
                      refine hK.out _ _ (HD.out _ HC5.out) (fun hHeld => ?_)
                      clear hK K
                      try simp only [Act.put, List.setIfInBounds_toArray, List.set_cons_zero, List.set_cons_succ]
                      refine take_d (i := 12) (d := 32) (v := ?t54) rfl rfl (by kernel_rfl) (by kernel_rfl) (by kernel_rfl) (fun _ _ _ h => h) (Or.inl ⟨by kernel_rfl, ?t54h⟩) hHeld ?t54n
                      case t54h => (intro w hSw; (try dsimp only at hSw); go_split_ands; go_simp; (try exact rfl))
                      try simp only [Act.put, List.setIfInBounds_toArray, List.set_cons_zero, List.set_cons_succ]
                      refine wpAnyH_done (by kernel_rfl) ?_ _
                      refine NoPanic.normal ?_
                      go_wp2_with fail
                      go_meet
                      case rel => exact ⟨pA, pB, Ae, ne, ce, rfl, rfl, rfl, BA5.out, BB5.out, He5.out, HC5.out, LA.out, LB.out, hpp⟩
                    · skip
                      go_simp
                      have hb : Below v1.heap.size v1 (v1.alloc (.cells #[.int .u64 0, .int .u64 0, .slice none 0 0] 27)) := (Below.refl _ _).alloc (Nat.le_refl _) _
                      refine hK.out _ _ (HD.out _ (HC1.out.trans (hb.mono HC1.out.size))) (fun hHeld => ?_)
                      clear hK K
                      have HC2 := Lib.hid (HC1.out.trans (hb.mono HC1.out.size))
                      have BB2 := Lib.hid (BB1.out.below hb BB1.out.lt)
                      have BA2 : Hid (Blk (v1.alloc (.cells #[.int .u64 0, .int .u64 0, .slice none 0 0] 27)) v1.heap.size 27 #[.int .u64 0, .int .u64 0, .slice none 0 0]) := Lib.hid (Blk.new _ _ _)
                      have LA := Lib.hid HC1.out.size
                      clear hb
                      generalize (v1.alloc (.cells #[.int .u64 0, .int .u64 0, .slice none 0 0] 27)) = v2 at *
                      generalize v1.heap.size = pA at *
                      try simp only [Act.put, List.setIfInBounds_toArray, List.set_cons_zero, List.set_cons_succ]
                      refine wpAnyH_ready (rs := [3]) (by kernel_rfl) (by simp) ?_
                      refine AllReadyH.cons rfl (fun K hK => ?_) AllReadyH.nil
                      go_simp
                      refine (RE1.out v2 HC2.out).mono ?_
                      rintro e v3 ⟨Ae, ne, ce, rfl, ho, hb⟩
                      have HC3 := Lib.hid (HC2.out.trans (hb.mono HC2.out.size))
                      have BA3 := Lib.hid (BA2.out.below hb BA2.out.lt)
                      have BB3 := Lib.hid (BB2.out.below hb BB2.out.lt)
                      have He3 := Lib.hid (ho.down (show w.heap.size ≤ v2.heap.size from Nat.le_trans HB3.out.size HC2.out.size))
                      clear ho hb
                      refine hK.out _ _ (HD.out _ HC3.out) (fun hHeld => ?_)
                      clear hK K
                      try simp only [Act.put, List.setIfInBounds_toArray, List.set_cons_zero, List.set_cons_succ]
                      refine take_d (i := 4) (d := 158) (v := ?t55) rfl rfl (by kernel_rfl) (by kernel_rfl) (by kernel_rfl) (fun _ _ _ h => h) (Or.inl ⟨by kernel_rfl, ?t55h⟩) hHeld ?t55n
                      case t55h => (intro w hSw; (try dsimp only at hSw); go_split_ands; go_simp; (try exact rfl))
                      try simp only [Act.put, List.setIfInBounds_toArray, List.set_cons_zero, List.set_cons_succ]
                      refine take_d (i := 5) (d := 163) (v := ?t56) rfl rfl (by kernel_rfl) (by kernel_rfl) (by kernel_rfl) (fun _ _ _ h => h) (Or.inl ⟨by kernel_rfl, ?t56h⟩) hHeld ?t56n
                      case t56h => (intro w hSw; (try dsimp only at hSw); go_split_ands; go_simp; (try exact rfl))
                      try simp only [Act.put, List.setIfInBounds_toArray, List.set_cons_zero, List.set_cons_succ]
                      refine take_d (i := 6) (d := 164) (v := ?t57) rfl rfl (by kernel_rfl) (by kernel_rfl) (by kernel_rfl) (fun _ _ _ h => h) (Or.inl ⟨by kernel_rfl, ?t57h⟩) hHeld ?t57n
                      case t57h => (intro w hSw; (try dsimp only at hSw); go_split_ands; go_simp; (try exact rfl))
                      try simp only [Act.put, List.setIfInBounds_toArray, List.set_cons_zero, List.set_cons_succ]
                      refine take_d (i := 7) (d := 165) (v := ?t58) rfl rfl (by kernel_rfl) (by kernel_rfl) (by kernel_rfl) (fun _ _ _ h => h) (Or.inl ⟨by kernel_rfl, ?t58h⟩) hHeld ?t58n
                      case t58h => (intro w hSw; (try dsimp only at hSw); go_split_ands; go_simp; (try exact rfl))
                      try simp only [Act.put, List.setIfInBounds_toArray, List.set_cons_zero, List.set_cons_succ]
                      have hpp : pA ≠ pB := fun e => by
                        have h1 := BA3.out
                        have h2 := BB3.out
                        rw [e] at h1
                        have := (h1.two_types h2).1
                        cases this
                      refine wpAnyH_ready (rs := [10]) (by kernel_rfl) (by simp) ?_
                      refine AllReadyH.cons rfl (fun K hK => ?_) AllReadyH.nil
                      refine wp_store_blk 27 _ _ rfl pA #[.int .u64 0, .int .u64 0, .slice none 0 0] 27 [.int .u64 RL1.bi, .int .u64 RL1.bt, .slice Ae ne ce] rfl rfl BA3.out rfl Try.i27 (by simp [Value.oneCell']) ?_
                      intro v4 hb ho
                      have BA4 := Lib.hid hb
                      have BB4 := Lib.hid (ho.keep BB3.out hpp.symm)
                      have He4 := Lib.hid (He3.out.only27 BA3.out ho)
                      have HC4 := Lib.hid (HC3.out.trans (ho.below LA.out))
                      clear hb ho
                      refine hK.out _ _ (HD.out _ HC4.out) (fun hHeld => ?_)
                      clear hK K
                      try simp only [Act.put, List.setIfInBounds_toArray, List.set_cons_zero, List.set_cons_succ]
                      refine wpAnyH_ready (rs := [11]) (by kernel_rfl) (by simp) ?_
                      refine AllReadyH.cons rfl (fun K hK => ?_) AllReadyH.nil
                      refine wp_store_blk 24 _ _ rfl pB #[.int .u64 0, .int .u64 0] 24 [.int .u64 RI1, .int .u64 RT1] rfl rfl BB4.out rfl Try.i24 (by simp [Value.oneCell']) ?_
                      intro v5 hb ho
                      have BB5 := Lib.hid hb
                      have BA5 := Lib.hid (ho.keep BA4.out hpp)
                      have He5 := Lib.hid (He4.out.only BB4.out (by decide) (by decide) ho)
                      have HC5 := Lib.hid (HC4.out.trans (ho.below LB.out))
                      clear hb ho
                      refine hK.out _ _ (HD.out _ HC5.out) (fun hHeld => ?_)
                      clear hK K
                      try simp only [Act.put, List.setIfInBounds_toArray, List.set_cons_zero, List.set_cons_succ]
                      refine take_d (i := 12) (d := 32) (v := ?t59) rfl rfl (by kernel_rfl) (by kernel_rfl) (by kernel_rfl) (fun _ _ _ h => h) (Or.inl ⟨by kernel_rfl, ?t59h⟩) hHeld ?t59n
                      case t59h => (intro w hSw; (try dsimp only at hSw); go_split_ands; go_simp; (try exact rfl))
                      try simp only [Act.put, List.setIfInBounds_toArray, List.set_cons_zero, List.set_cons_succ]
                      refine wpAnyH_done (by kernel_rfl) ?_ _
                      refine NoPanic.normal ?_
                      go_wp2_with fail
                      go_meet
                      case rel => exact ⟨pA, pB, Ae, ne, ce, rfl, rfl, rfl, BA5.out, BB5.out, He5.out, HC5.out, LA.out, LB.out, hpp⟩
              case rest =>
                obtain ⟨p30, p31, Ag, ng, cg, rfl, rfl, rfl, bg', bG', eg', hb, hl1, hl2, hne⟩ := hcut
                have Bg4 := Lib.hid bg'
                have BG4 := Lib.hid bG'
                have Hg4 := Lib.hid eg'
                have QRD := Lib.hid (show p27 < p30 ∧ p27 < p31 ∧ p28 < p30 ∧ p28 < p31 from by have h1 := Bf3.out.lt; have h2 := BF3.out.lt; omega)
                have HNE := Lib.hid hne
                have QG := Lib.hid (show w.heap.size ≤ p30 from Nat.le_trans HB3.out.size hl1)
                have QG2 := Lib.hid (show w.heap.size ≤ p31 from Nat.le_trans HB3.out.size hl2)
                have B74 := Lib.hid (B73.out.below hb B73.out.lt)
                have HW4 := Lib.hid (EoT.below HW3.out hb)
                have Bf4 := Lib.hid (Bf3.out.below hb Bf3.out.lt)
                have BF4 := Lib.hid (BF3.out.below hb BF3.out.lt)
                have Hf4 := Lib.hid (Eo.below Hf3.out hb)
                have HB4 := Lib.hid (HB3.out.trans (hb.mono HB3.out.size))
                clear bg' bG' eg' hb hl1 hl2 hne HD RE1 B73 HW3 Bf3 BF3 Hf3 HB3 HH3
                generalize wc = w4 at *
                obtain ⟨x0, x1, x2⟩ := B74.out.three
                go_wp2_with fail
                clear x0 x1 x2
                refine (RI.out w4 _ _ HW4.out).mono ?_
                rintro e w5 ⟨rfl, hb⟩
                have Bg5 := Lib.hid (Bg4.out.below hb Bg4.out.lt)
                have BG5 := Lib.hid (BG4.out.below hb BG4.out.lt)
                have Bf5 := Lib.hid (Bf4.out.below hb Bf4.out.lt)
                have BF5 := Lib.hid (BF4.out.below hb BF4.out.lt)
                have Hf5 := Lib.hid (Eo.below Hf4.out hb)
                have Hg5 := Lib.hid (Eo.below Hg4.out hb)
                have HB5 := Lib.hid (HB4.out.trans (hb.mono HB4.out.size))
                clear hb HB4 B74 HW4 Bg4 BG4 Bf4 BF4 Hf4 Hg4
                have q1 := Eqa_refl PI1 PT1
                cases hr : right L with
                | true =>
                  obtain ⟨e1', e2', e3', e4'⟩ := HX2.out hr
                  subst e1' e2' e3' e4'
                  obtain ⟨x0, x1, x2⟩ := Bf5.out.three
                  obtain ⟨z0, z1, z2⟩ := Bg5.out.three
                  obtain ⟨u0, u1⟩ := BF5.out.two
                  obtain ⟨v0, v1⟩ := BG5.out.two
                  go_wp2_with fail
                  refine (RS.out _ HO2.out w5 _ _ _ _ _ _ _ _ Hf5.out Hg5.out).mono ?_
                  rintro e w6 ⟨rfl, hb⟩
                  have HB6 := Lib.hid (HB5.out.trans (hb.mono HB5.out.size))
                  clear hb x0 x1 x2 z0 z1 z2 u0 u1 v0 v1
                  go_wp2
                  go_ret
                  exact ⟨rfl, HB6.out⟩
                | false =>
                  obtain ⟨e1', e2', e3', e4'⟩ := HY2.out hr
                  subst e1' e2' e3' e4'
                  obtain ⟨x0, x1, x2⟩ := Bf5.out.three
                  obtain ⟨z0, z1, z2⟩ := Bg5.out.three
                  obtain ⟨u0, u1⟩ := BF5.out.two
                  obtain ⟨v0, v1⟩ := BG5.out.two
                  have f0 := Bg5.out.frozen 0
                  have f1 := Bg5.out.frozen 1
                  have f2 := Bg5.out.frozen 2
                  have f3 := BG5.out.frozen 0
                  have f4 := BG5.out.frozen 1
                  obtain ⟨m1, m2, m3, m4, m5, m6⟩ : p27 ≠ p30 ∧ p27 ≠ p31 ∧ p28 ≠ p30 ∧ p28 ≠ p31 ∧ p30 ≠ p31 ∧ p31 ≠ p30 := by have := QRD.out; have h := HNE.out; exact ⟨by omega, by omega, by omega, by omega, h, h.symm⟩
                  go_wp2_with fail
                  have hon := set3_only w5 p30 (.int .u64 0) (.int .u64 0) (.slice none 0 0)
                  have Hf6 := Lib.hid (Hf5.out.only27 Bg5.out hon)
                  have BG6 := Lib.hid (hon.keep BG5.out m6)
                  have HB6 := Lib.hid (HB5.out.trans (hon.below QG.out))
                  clear hon
                  generalize ((w5.setCell ⟨p30, 0, none⟩ (.int .u64 0)).setCell ⟨p30, 1, none⟩ (.int .u64 0)).setCell ⟨p30, 2, none⟩ (.slice none 0 0) = w6 at *
                  have hon := set2_only w6 p31 (.int .u64 0) (.int .u64 0)
                  have Hf7 := Lib.hid (Hf6.out.only BG6.out (by decide) (by decide) hon)
                  have HB7 := Lib.hid (HB6.out.trans (hon.below QG2.out))
                  clear hon
                  generalize (w6.setCell ⟨p31, 0, none⟩ (.int .u64 0)).setCell ⟨p31, 1, none⟩ (.int .u64 0) = w7 at *
                  refine (RS.out lg0 Lok.lg0 w7 _ _ _ _ _ _ _ _ Hf7.out (Eo.nothing w7 w.heap.size)).mono ?_
                  rintro e w8 ⟨rfl, hb⟩
                  have HB8 := Lib.hid (HB7.out.trans (hb.mono HB7.out.size))
                  clear hb x0 x1 x2 z0 z1 z2 u0 u1 v0 v1 f0 f1 f2 f3 f4
                  go_wp2
                  go_ret
                  exact ⟨rfl, HB8.out⟩

end Go.Proofs.Ytmgaihdepglahaa
