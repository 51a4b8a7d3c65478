/-
  What a log tells of spots, and hands on: the law LogTells.
-/
import Derived.Test.YtmgaihdepglahaaQN
import Derived.Test.YtmgaihdepglahaaN11
import Derived.Test.YtmgaihdepglahaaN12
import Derived.Test.YtmgaihdepglahaaN14
import Derived.Test.YtmgaihdepglahaaOW
import Derived.Test.YtmgaihdepglahaaQX
import Derived.Test.YtmgaihdepglahaaAP
import Derived.Deep.CutBlock
namespace Go.Proofs.Ytmgaihdepglahaa
open Go.RowKit
attribute [local go_sem ↓] eqA neA eqGA Eqa_refl

theorem conf_few {l : Lg} (h : ∀ e ∈ l.es, e.d.length ≤ 1025) (i : Int) : (pConfD l i).length ≤ 1025 := by
  unfold pConfD rConfD
  split
  · split
    · rename_i n _
      by_cases hn : n < l.es.length
      · have e : l.es.getD n e0 = l.es[n] := by simp [List.getD, hn]
        rw [e]
        exact h _ (List.getElem_mem hn)
      · have e : l.es.getD n e0 = e0 := by simp [List.getD, hn]
        rw [e]
        exact Nat.zero_le _
    · exact Nat.zero_le _
  · exact Nat.zero_le _
theorem Own.outs {w w' : World} {b s base n c : Nat} {A : Option Addr} {zs : List Int} (h : Own w base A n c zs) (ho : Outs b s w w') (hd : s ≤ base) : Own w' base A n c zs :=
  ⟨World.ownsRow.keepT h.1 (fun k hk => (h.1.lt k hk).2) (fun k h1 _ h3 => ho.block k (Or.inr (by omega)) h3), h.2⟩
/-- Where the loop over one's own bytes stands. -/
structure Dbs (w0 : World) (base s : Nat) (A : Option Addr) (n : Nat) (W : World) : Prop where
  dat : 0 < n → ∃ b zs, A = some ⟨b, 0, none⟩ ∧ base ≤ b ∧ b < s ∧ Blk W b 5 zs ∧ ∀ k, k < n → ∃ z, zs[k]? = some (.int .u8 z)
  out : Outs base s w0 W
theorem Dbs.of {w : World} {base n c : Nat} {A : Option Addr} {zs : List Int} (h : Own w base A n c zs) : Dbs w base w.heap.size A n w :=
  ⟨fun hn => h.bytes_at (fun k hk => (h.1.lt k hk).2) hn, Outs.refl _ _ _⟩
theorem Dbs.set5 {w0 W : World} {base s n : Nat} {A : Option Addr} (h : Dbs w0 base s A n W) {b : Nat} {zs : Array Value} (hb : Blk W b 5 zs) (h1 : base ≤ b) (h2 : b < s) (k : Nat) (z : Int) : Dbs w0 base s A n (W.setCell ⟨b, k, none⟩ (.int .u8 z)) := by
  refine ⟨fun hn => ?_, h.out.setCell h1 h2 _⟩
  obtain ⟨b', zs', e1, e2, e3, e4, e5⟩ := h.dat hn
  by_cases e : b' = b
  · subst e
    refine ⟨b', zs'.setIfInBounds k (.int .u8 z), e1, e2, e3, e4.set_ k _, fun j hj => ?_⟩
    obtain ⟨y, hy⟩ := e5 j hj
    rw [Array.getElem?_setIfInBounds]
    split
    · split
      · exact ⟨z, rfl⟩
      · rename_i q1 q2
        subst q1
        have := (Array.getElem?_eq_some_iff.1 hy).1
        exact absurd this q2
    · exact ⟨y, hy⟩
  · exact ⟨b', zs', e1, e2, e3, e4.far (p := ⟨b, k, none⟩) e _, e5⟩

set_option linter.unusedSimpArgs false in
set_option maxRecDepth 100000 in
set_option maxHeartbeats 16000000 in
theorem tells_walk (g : Gc) (pA : Option Addr) (pn pc : Nat) (_u : Unit) (q : Int) (w : World) (hg : g.raw w w.heap.size) (hG : Pts w w.heap.size pA pn) :
    Calls Try.prog 5 #[.agg #[.int .u64 g.bi, .int .u64 g.bt, .slice g.A g.n g.c], .slice pA pn pc, .int .i64 q] w fun e w' => e = .returned (.bool true) ∧ Below w.heap.size w w' := by
  have H := Lib.hid hG
  obtain ⟨L, hL⟩ : ∃ L, fewG g.bi g.bt (g.xs.map Ec.en) = L := ⟨_, rfl⟩
  have OW := Lib.hid (fun W (hW : Below w.heap.size w W) => own_any g.bi g.bt g.A g.n g.c w.heap.size g.xs W (hg.es.below hW) hW.size)
  rw [hL] at OW
  have hLF : Few L.es := by rw [← hL]; exact fewL_few _
  have hLok : Lok L := by
    rw [← hL]
    exact ⟨by have := (fewL_few (g.xs.map Ec.en)).1; show (fewL _).length ≤ 100; omega, hg.bi0, hg.bi1, hg.bt0, hg.bt1⟩
  have b30 : Blk (w.alloc (.cells #[.int .u64 g.bi, .int .u64 g.bt, .slice g.A g.n g.c] 27)) w.heap.size 27 #[.int .u64 g.bi, .int .u64 g.bt, .slice g.A g.n g.c] := Blk.new w 27 _
  have hb30 : Below w.heap.size w (w.alloc (.cells #[.int .u64 g.bi, .int .u64 g.bt, .slice g.A g.n g.c] 27)) := (Below.refl _ _).alloc (Nat.le_refl _) _
  clear hL hg hG
  go_enter Try.func5, Try.ntmps5
  go_wp2_with fail
  refine (wakes_any _).mono ?_
  rintro e w0 ⟨rfl, hb0⟩
  have b3 := b30.below hb0 b30.lt
  have HB0 := hb30.trans (hb0.mono hb30.size)
  clear hb0 b30 hb30
  obtain ⟨x0, x1, x2⟩ := b3.three
  go_wp2_with fail
  refine (OW.out _ HB0).mono ?_
  rintro e w1 ⟨AL, nL, cL, rfl, ho1, hb1⟩
  have b31 := b3.below hb1 b3.lt
  have HB1' := HB0.trans (hb1.mono HB0.size)
  have ho1' := ho1.down HB0.size
  clear hb1 ho1 x0 x1 x2
  obtain ⟨x0, x1, x2⟩ := b31.three
  have y0 := b31.frozen 0
  have y1 := b31.frozen 1
  have y2 := b31.frozen 2
  have hon := set3_only w1 w.heap.size (.int .u64 L.bi) (.int .u64 L.bt) (.slice AL nL cL)
  have B32 : Hid (Blk (((w1.setCell ⟨w.heap.size, 0, none⟩ (.int .u64 L.bi)).setCell ⟨w.heap.size, 1, none⟩ (.int .u64 L.bt)).setCell ⟨w.heap.size, 2, none⟩ (.slice AL nL cL)) w.heap.size 27 #[.int .u64 L.bi, .int .u64 L.bt, .slice AL nL cL]) := Lib.hid (((b31.set_ 0 _).set_ 1 _).set_ 2 _)
  have HL2 := Lib.hid (EoT.of (ho1'.only27 b31 hon))
  have HB2 := Lib.hid (HB1'.trans (hon.below (Nat.le_refl _)))
  clear hon ho1' HB1' b3 HB0 b31
  go_wp2_with fail
  clear x0 x1 x2 y0 y1 y2
  generalize (((w1.setCell ⟨w.heap.size, 0, none⟩ (.int .u64 L.bi)).setCell ⟨w.heap.size, 1, none⟩ (.int .u64 L.bt)).setCell ⟨w.heap.size, 2, none⟩ (.slice AL nL cL)) = w2 at *
  have OL : Hid (∀ W b s, EoT W b s AL nL cL L.es → Calls Try.prog 11 #[.agg #[.int .u64 L.bi, .int .u64 L.bt, .slice AL nL cL]] W (Lgd W L)) := Lib.hid (fun W b s ho => by
    obtain ⟨xs, hx1, hx2⟩ := ho.eo.read.ein
    have := own_any L.bi L.bt AL nL cL W.heap.size xs W hx2 (Nat.le_refl _)
    unfold fewG at this
    rw [hx1, fewL_id hLF] at this
    exact this)
  refine (OL.out w2 _ _ HL2.out).mono ?_
  rintro e w3 ⟨AW, nW, cW, rfl, ho, hb⟩
  have B33 := Lib.hid (B32.out.below hb B32.out.lt)
  have HL3 := Lib.hid (EoT.below HL2.out hb)
  have HB3 := Lib.hid (HB2.out.trans (hb.mono HB2.out.size))
  have HW3 := Lib.hid (EoT.of (ho.down HB2.out.size))
  clear hb ho
  go_wp2_with fail
  have hb : Below w3.heap.size w3 (w3.alloc (.cells #[.int .u64 L.bi, .int .u64 L.bt, .slice AW nW cW] 27)) := (Below.refl _ _).alloc (Nat.le_refl _) _
  have B34 := Lib.hid (B33.out.below hb B33.out.lt)
  have HL4 := Lib.hid (EoT.below HL3.out hb)
  have HW4 := Lib.hid (EoT.below HW3.out hb)
  have HB4 := Lib.hid (HB3.out.trans (hb.mono HB3.out.size))
  have B74 : Hid (Blk (w3.alloc (.cells #[.int .u64 L.bi, .int .u64 L.bt, .slice AW nW cW] 27)) w3.heap.size 27 #[.int .u64 L.bi, .int .u64 L.bt, .slice AW nW cW]) := Lib.hid (Blk.new _ _ _)
  clear hb
  generalize (w3.alloc (.cells #[.int .u64 L.bi, .int .u64 L.bt, .slice AW nW cW] 27)) = w4 at *
  generalize w3.heap.size = p7 at *
  have LR : Hid (∀ W A n c b s, EoT W b s A n c L.es → Lr W W.heap.size A n c L) := Lib.hid (fun W A n c b s ho => hLok.lr ho.eo)
  have RI : Hid (∀ W b s, EoT W b s AW nW cW L.es → Calls Try.prog 12 #[.agg #[.int .u64 L.bi, .int .u64 L.bt, .slice AW nW cW]] W fun e w' => e = .returned (.bool (right L)) ∧ Below W.heap.size W w') := Lib.hid (fun W b s ho => refright_any L AW nW cW _ W (LR.out W _ _ _ _ _ ho) (Nat.le_refl _))
  have RS : Hid (∀ W A n c b A' n' c' b', Eo W b A n c L.es → Eo W b' A' n' c' L.es → Calls Try.prog 18 #[.agg #[.int .u64 L.bi, .int .u64 L.bt, .slice A n c], .agg #[.int .u64 L.bi, .int .u64 L.bt, .slice A' n' c']] W fun e w' => e = .returned (.bool true) ∧ Below W.heap.size W w') := Lib.hid (fun W A n c b A' n' c' b' ho ho' => by
    have := refsame_any L L A A' n n' c c' _ W (hLok.lr ho) (hLok.lr ho') (Nat.le_refl _)
    rw [decide_eq_true rfl] at this
    exact this)
  have HFD := Lib.hid hLF.2
  have HLK := Lib.hid hLok
  have HL32 := Lib.hid hLF.1
  have HN := Lib.hid (show nL ≤ 32 by have := HL4.out.eo.len; have := hLF.1; omega)
  clear OW OL hLok hLF HB2 HB3 B32 B33 HL2 HL3 HW3
  generalize w2.heap.size = T2 at *
  refine (RI.out w4 _ _ HW4.out).mono ?_
  rintro e w5 ⟨rfl, hb⟩
  have B35 := Lib.hid (B34.out.below hb B34.out.lt)
  have B75 := Lib.hid (B74.out.below hb B74.out.lt)
  have HL5 := Lib.hid (EoT.below HL4.out hb)
  have HW5 := Lib.hid (EoT.below HW4.out hb)
  have HB5 := Lib.hid (HB4.out.trans (hb.mono HB4.out.size))
  clear hb HB4 B34 B74 HL4 HW4 RI
  have LA := Lib.hid (fun W b s ho => Last_any L AL nL cL _ W (LR.out W AL nL cL b s ho) (Nat.le_refl _))
  have RL := Lib.hid (fun W b s ho => reflast_any L AW nW cW _ W (LR.out W AW nW cW b s ho) (Nat.le_refl _))
  cases hr : right L with
  | true =>
    obtain ⟨d1, d2⟩ := last_doc hr
    rw [d1, d2] at LA
    clear d1 d2
    generalize L.lastI = EI at *
    generalize L.lastT = ET at *
    obtain ⟨x0, x1, x2⟩ := B35.out.three
    go_wp2_with fail
    clear x0 x1 x2
    refine (LA.out w5 _ _ HL5.out).mono ?_
    rintro e w6 ⟨rfl, hb⟩
    have B36 := Lib.hid (B35.out.below hb B35.out.lt)
    have B76 := Lib.hid (B75.out.below hb B75.out.lt)
    have HL6 := Lib.hid (EoT.below HL5.out hb)
    have HW6 := Lib.hid (EoT.below HW5.out hb)
    have HB6 := Lib.hid (HB5.out.trans (hb.mono HB5.out.size))
    clear hb
    go_wp2_with fail
    have hb : Below w6.heap.size w6 (w6.alloc (.cells #[.int .u64 EI, .int .u64 ET] 24)) := (Below.refl _ _).alloc (Nat.le_refl _) _
    have B37 := Lib.hid (B36.out.below hb B36.out.lt)
    have B77 := Lib.hid (B76.out.below hb B76.out.lt)
    have HL7 := Lib.hid (EoT.below HL6.out hb)
    have HW7 := Lib.hid (EoT.below HW6.out hb)
    have HB7 := Lib.hid (HB6.out.trans (hb.mono HB6.out.size))
    have B97 : Hid (Blk (w6.alloc (.cells #[.int .u64 EI, .int .u64 ET] 24)) w6.heap.size 24 #[.int .u64 EI, .int .u64 ET]) := Lib.hid (Blk.new _ _ _)
    clear hb
    generalize (w6.alloc (.cells #[.int .u64 EI, .int .u64 ET] 24)) = w7 at *
    generalize w6.heap.size = p9 at *
    have hb : Below w7.heap.size w7 w7.drew := (Below.refl _ _).drew
    have B38 := Lib.hid (B37.out.below hb B37.out.lt)
    have B78 := Lib.hid (B77.out.below hb B77.out.lt)
    have B98 := Lib.hid (B97.out.below hb B97.out.lt)
    have HL8 := Lib.hid (EoT.below HL7.out hb)
    have HW8 := Lib.hid (EoT.below HW7.out hb)
    have HB8 := Lib.hid (HB7.out.trans (hb.mono HB7.out.size))
    clear hb
    have hS0 := And.intro B78.out.three B98.out.two
    refine wp_region_noPanic ?_
    refine wp_region_held_drew (S := fun w' => (w'.cell? ⟨p7, 0, none⟩ = some (.int .u64 L.bi) ∧ w'.cell? ⟨p7, 1, none⟩ = some (.int .u64 L.bt) ∧ w'.cell? ⟨p7, 2, none⟩ = some (.slice AW nW cW)) ∧ (w'.cell? ⟨p9, 0, none⟩ = some (.int .u64 EI) ∧ w'.cell? ⟨p9, 1, none⟩ = some (.int .u64 ET))) (by kernel_rfl) hS0 (fun hHeld => ?_)
    generalize w7.drew = w8 at *
    refine take_d (i := 0) (d := 40) (v := ?at40) rfl rfl (by kernel_rfl) (by kernel_rfl) (by kernel_rfl) (fun _ _ _ h => h) (Or.inl ⟨by kernel_rfl, ?at40h⟩) hHeld ?at40n
    case at40h => (intro w hSw; (try dsimp only at hSw); go_split_ands; go_simp; (try exact rfl))
    try simp only [Act.put, List.setIfInBounds_toArray, List.set_cons_zero, List.set_cons_succ]
    refine take_d (i := 1) (d := 41) (v := ?at41) rfl rfl (by kernel_rfl) (by kernel_rfl) (by kernel_rfl) (fun _ _ _ h => h) (Or.inl ⟨by kernel_rfl, ?at41h⟩) hHeld ?at41n
    case at41h => (intro w hSw; (try dsimp only at hSw); go_split_ands; go_simp; (try exact rfl))
    try simp only [Act.put, List.setIfInBounds_toArray, List.set_cons_zero, List.set_cons_succ]
    refine take_d (i := 2) (d := 42) (v := ?at42) rfl rfl (by kernel_rfl) (by kernel_rfl) (by kernel_rfl) (fun _ _ _ h => h) (Or.inl ⟨by kernel_rfl, ?at42h⟩) hHeld ?at42n
    case at42h => (intro w hSw; (try dsimp only at hSw); go_split_ands; go_simp; (try exact rfl))
    try simp only [Act.put, List.setIfInBounds_toArray, List.set_cons_zero, List.set_cons_succ]
    refine take_d (i := 3) (d := 43) (v := ?at43) rfl rfl (by kernel_rfl) (by kernel_rfl) (by kernel_rfl) (fun _ _ _ h => h) (Or.inl ⟨by kernel_rfl, ?at43h⟩) hHeld ?at43n
    case at43h => (intro w hSw; (try dsimp only at hSw); go_split_ands; go_simp; (try exact rfl))
    try simp only [Act.put, List.setIfInBounds_toArray, List.set_cons_zero, List.set_cons_succ]
    refine wpAnyH_ready (rs := [4]) (by kernel_rfl) (by simp) ?_
    refine AllReadyH.cons rfl (fun K hK => ?_) AllReadyH.nil
    go_simp
    refine (RL.out w8 _ _ HW8.out).mono ?_
    rintro e w9 ⟨rfl, hb⟩
    have B39 := Lib.hid (B38.out.below hb B38.out.lt)
    have B79 := Lib.hid (B78.out.below hb B78.out.lt)
    have B99 := Lib.hid (B98.out.below hb B98.out.lt)
    have HL9 := Lib.hid (EoT.below HL8.out hb)
    have HW9 := Lib.hid (EoT.below HW8.out hb)
    have HB9 := Lib.hid (HB8.out.trans (hb.mono HB8.out.size))
    clear hb
    refine hK.out _ _ (And.intro B79.out.three B99.out.two) (fun hHeld => ?_)
    clear hK K
    try simp only [Act.put, List.setIfInBounds_toArray, List.set_cons_zero, List.set_cons_succ]
    refine take_d (i := 5) (d := 45) (v := .bool false) rfl rfl (by kernel_rfl) (by kernel_rfl) (by kernel_rfl) (fun _ _ _ h => h) (Or.inl ⟨by kernel_rfl, ?at45h⟩) hHeld ?_
    case at45h => (intro w hSw; (try dsimp only at hSw); go_split_ands; go_simp)
    try simp only [Act.put, List.setIfInBounds_toArray, List.set_cons_zero, List.set_cons_succ]
    refine take_d (i := 6) (d := 46) (v := ?at46) rfl rfl (by kernel_rfl) (by kernel_rfl) (by kernel_rfl) (fun _ _ _ h => h) (Or.inl ⟨by kernel_rfl, ?at46h⟩) hHeld ?at46n
    case at46h => (intro w hSw; (try dsimp only at hSw); go_split_ands; go_simp; (try exact rfl))
    try simp only [Act.put, List.setIfInBounds_toArray, List.set_cons_zero, List.set_cons_succ]
    refine take_d (i := 7) (d := 47) (v := ?at47) rfl rfl (by kernel_rfl) (by kernel_rfl) (by kernel_rfl) (fun _ _ _ h => h) (Or.inl ⟨by kernel_rfl, ?at47h⟩) hHeld ?at47n
    case at47h => (intro w hSw; (try dsimp only at hSw); go_split_ands; go_simp; (try exact rfl))
    try simp only [Act.put, List.setIfInBounds_toArray, List.set_cons_zero, List.set_cons_succ]
    refine take_d (i := 8) (d := 48) (v := ?at48) rfl rfl (by kernel_rfl) (by kernel_rfl) (by kernel_rfl) (fun _ _ _ h => h) (Or.inl ⟨by kernel_rfl, ?at48h⟩) hHeld ?at48n
    case at48h => (intro w hSw; (try dsimp only at hSw); go_split_ands; go_simp; (try exact rfl))
    try simp only [Act.put, List.setIfInBounds_toArray, List.set_cons_zero, List.set_cons_succ]
    refine take_d (i := 9) (d := 49) (v := ?at49) rfl rfl (by kernel_rfl) (by kernel_rfl) (by kernel_rfl) (fun _ _ _ h => h) (Or.inl ⟨by kernel_rfl, ?at49h⟩) hHeld ?at49n
    case at49h => (intro w hSw; (try dsimp only at hSw); go_split_ands; go_simp; (try exact rfl))
    try simp only [Act.put, List.setIfInBounds_toArray, List.set_cons_zero, List.set_cons_succ]
    refine take_d (i := 10) (d := 50) (v := ?at50) rfl rfl (by kernel_rfl) (by kernel_rfl) (by kernel_rfl) (fun _ _ _ h => h) (Or.inl ⟨by kernel_rfl, ?at50h⟩) hHeld ?at50n
    case at50h => (intro w hSw; (try dsimp only at hSw); go_split_ands; go_simp; (try exact rfl))
    try simp only [Act.put, List.setIfInBounds_toArray, List.set_cons_zero, List.set_cons_succ]
    refine take_d (i := 11) (d := 51) (v := undef) rfl rfl (by kernel_rfl) (by kernel_rfl) (by kernel_rfl) (fun _ _ _ h => h) (Or.inr ⟨by kernel_rfl, rfl⟩) hHeld ?_
    try simp only [Act.put, List.setIfInBounds_toArray, List.set_cons_zero, List.set_cons_succ]
    refine take_d (i := 12) (d := 52) (v := undef) rfl rfl (by kernel_rfl) (by kernel_rfl) (by kernel_rfl) (fun _ _ _ h => h) (Or.inr ⟨by kernel_rfl, rfl⟩) hHeld ?_
    try simp only [Act.put, List.setIfInBounds_toArray, List.set_cons_zero, List.set_cons_succ]
    refine take_d (i := 13) (d := 53) (v := undef) rfl rfl (by kernel_rfl) (by kernel_rfl) (by kernel_rfl) (fun _ _ _ h => h) (Or.inr ⟨by kernel_rfl, rfl⟩) hHeld ?_
    try simp only [Act.put, List.setIfInBounds_toArray, List.set_cons_zero, List.set_cons_succ]
    refine take_d (i := 14) (d := 54) (v := ?at54) rfl rfl (by kernel_rfl) (by kernel_rfl) (by kernel_rfl) (fun _ _ _ h => h) (Or.inl ⟨by kernel_rfl, ?at54h⟩) hHeld ?at54n
    case at54h => (intro w hSw; (try dsimp only at hSw); go_split_ands; go_simp; (try exact rfl))
    try simp only [Act.put, List.setIfInBounds_toArray, List.set_cons_zero, List.set_cons_succ]
    refine take_d (i := 15) (d := 55) (v := ?at55) rfl rfl (by kernel_rfl) (by kernel_rfl) (by kernel_rfl) (fun _ _ _ h => h) (Or.inl ⟨by kernel_rfl, ?at55h⟩) hHeld ?at55n
    case at55h => (intro w hSw; (try dsimp only at hSw); go_split_ands; go_simp; (try exact rfl))
    try simp only [Act.put, List.setIfInBounds_toArray, List.set_cons_zero, List.set_cons_succ]
    refine wpAnyH_done (by kernel_rfl) ?_ _
    refine NoPanic.normal ?_
    clear LA RL hS0
    go_wp2_with fail
    go_loopw [58] (fun ix wr => ∃ k : Nat, k ≤ pn ∧ k ≤ 20 ∧ ix = .int .i64 k ∧ Below w.heap.size w wr ∧ Blk wr w.heap.size 27 #[.int .u64 L.bi, .int .u64 L.bt, .slice AL nL cL] ∧ Blk wr p7 27 #[.int .u64 L.bi, .int .u64 L.bt, .slice AW nW cW] ∧ EoT wr w.heap.size T2 AL nL cL L.es ∧ EoT wr w.heap.size p7 AW nW cW L.es) (fun ix _ => pn - (intOf ix).toNat)
    case atStart => exact ⟨0, Nat.zero_le _, Nat.zero_le _, rfl, HB9.out, B39.out, B79.out, HL9.out, HW9.out⟩
    case round =>
      obtain ⟨k, hk, hk8, rfl, h0, b3', b7', eL', eW'⟩ := hrel
      generalize wr = v0 at *
      have HB0 := Lib.hid h0
      have B30 := Lib.hid b3'
      have B70 := Lib.hid b7'
      have HL0 := Lib.hid eL'
      have HW0 := Lib.hid eW'
      clear h0 b3' b7' eL' eW' HB9 B39 B79 HL9 HW9
      by_cases hlt : k < pn
      · obtain ⟨b, o, pi, pt, rfl, hbB, ⟨hp0, hp1⟩, ⟨ht0, ht1⟩, c0, c1⟩ := H.out.at_ hlt HB0.out
        have k0 : (0 : Int) ≤ (k : Int) := by omega
        have kI : (k : Int) < (pn : Int) := by omega
        have hbr : b < v0.heap.size := by have := HB0.out.size; omega
        by_cases h8 : k = 20
        · have h8' : ((k : Int) == 20) = true := by simp; omega
          have HB1 := Lib.hid (HB0.out.alloc HB0.out.size (.cells #[.int .u64 pi, .int .u64 pt] 24))
          clear hlt hk hk8 h8
          go_wp2
          go_ret
          exact ⟨rfl, HB1.out⟩
        · have h8' : ((k : Int) == 20) = false := by simp; omega
          have HK := Lib.hid (show k + 1 ≤ 20 ∧ k < pn from ⟨by omega, hlt⟩)
          clear hlt hk hk8 h8
          obtain ⟨x0, x1, x2⟩ := B30.out.three
          have hz := B30.out.lt
          go_wp2_with fail
          clear x0 x1 x2 hz
          have hb : Below v0.heap.size v0 (v0.alloc (.cells #[.int .u64 pi, .int .u64 pt] 24)) := (Below.refl _ _).alloc (Nat.le_refl _) _
          have B31 := Lib.hid (B30.out.below hb B30.out.lt)
          have B71 := Lib.hid (B70.out.below hb B70.out.lt)
          have HL1 := Lib.hid (EoT.below HL0.out hb)
          have HW1 := Lib.hid (EoT.below HW0.out hb)
          have HB1 := Lib.hid (HB0.out.trans (hb.mono HB0.out.size))
          have B111 : Hid (Blk (v0.alloc (.cells #[.int .u64 pi, .int .u64 pt] 24)) v0.heap.size 24 #[.int .u64 pi, .int .u64 pt]) := Lib.hid (Blk.new _ _ _)
          clear hb
          generalize (v0.alloc (.cells #[.int .u64 pi, .int .u64 pt] 24)) = v1 at *
          generalize v0.heap.size = p11 at *
          clear c0 c1 k0 kI hbr h8'
          have TM := Lib.hid (fun W b s ho => Term_any L AL nL cL _ W (LR.out W AL nL cL b s ho) (Nat.le_refl _) pi hp0 hp1)
          have DTM := Lib.hid (fun W b s ho => refterm_any L AW nW cW _ W (LR.out W AW nW cW b s ho) (Nat.le_refl _) pi hp0 hp1)
          have FR := Lib.hid (fun W b s ho => From_any L AL nL cL _ W (LR.out W AL nL cL b s ho) (Nat.le_refl _) pi q)
          have DFR := Lib.hid (fun W b s ho => reffrom_any L AW nW cW _ W (LR.out W AW nW cW b s ho) (Nat.le_refl _) pi q hp0 hp1)
          have CF := Lib.hid (fun W b s ho => Conf_any L AL nL cL _ W (LR.out W AL nL cL b s ho) (Nat.le_refl _) pi)
          have DCF := Lib.hid (fun W b s ho => refconf_any L AW nW cW _ W (LR.out W AW nW cW b s ho) (Nat.le_refl _) pi)
          have HA := Lib.hid (fun W b s ho => Has_any L AL nL cL _ W (LR.out W AL nL cL b s ho) (Nat.le_refl _) pi pt hp0 hp1)
          have DHA := Lib.hid (fun W b s ho => refhas_any L AW nW cW _ W (LR.out W AW nW cW b s ho) (Nat.le_refl _) pi pt hp0 hp1)
          have FLN : Hid ((fromL L pi q).length ≤ 1000) := Lib.hid (by have := HL32.out; unfold fromL; split <;> simp <;> omega)
          have CDN : Hid ((pConfD L pi).length ≤ 1025) := Lib.hid (conf_few HFD.out pi)
          obtain ⟨d1, d2⟩ := term_doc hr pi
          rw [d1, d2] at DTM
          clear d1 d2
          obtain ⟨d1, d2, d3, d4⟩ := from_doc hr HLK.out.bi0 hp0 hp1 q
          rw [d1, d2, d3, d4] at DFR
          clear d1 d2 d3 d4
          obtain ⟨d1, d2, d3⟩ := conf_doc hr pi
          rw [d1, d2, d3] at DCF
          clear d1 d2 d3
          rw [has_doc hr] at DHA
          generalize spotT L pi = TT at *
          generalize (spotE L pi == 0) = TB at *
          generalize fromI L pi q = FI at *
          generalize fromT L pi q = FT at *
          generalize fromE L pi q = FE at *
          generalize fromL L pi q = FL at *
          generalize pConfI L pi = CI at *
          generalize pConfD L pi = CD at *
          generalize pConfB L pi = CB at *
          generalize hasB L pi pt = HH at *
          clear hp0 hp1 ht0 ht1
          refine (TM.out v1 _ _ HL1.out).mono ?_
          rintro e v2 ⟨rfl, hb⟩
          have B32 := Lib.hid (B31.out.below hb B31.out.lt)
          have B72 := Lib.hid (B71.out.below hb B71.out.lt)
          have B112 := Lib.hid (B111.out.below hb B111.out.lt)
          have HL2 := Lib.hid (EoT.below HL1.out hb)
          have HW2 := Lib.hid (EoT.below HW1.out hb)
          have HB2 := Lib.hid (HB1.out.trans (hb.mono HB1.out.size))
          clear hb
          obtain ⟨x0, x1, x2⟩ := B72.out.three
          obtain ⟨y0, y1⟩ := B112.out.two
          go_wp2_with fail
          clear x0 x1 x2 y0 y1
          refine (DTM.out v2 _ _ HW2.out).mono ?_
          rintro e v3 ⟨rfl, hb⟩
          have B33 := Lib.hid (B32.out.below hb B32.out.lt)
          have B73 := Lib.hid (B72.out.below hb B72.out.lt)
          have B113 := Lib.hid (B112.out.below hb B112.out.lt)
          have HL3 := Lib.hid (EoT.below HL2.out hb)
          have HW3 := Lib.hid (EoT.below HW2.out hb)
          have HB3 := Lib.hid (HB2.out.trans (hb.mono HB2.out.size))
          clear hb
          obtain ⟨x0, x1, x2⟩ := B33.out.three
          obtain ⟨y0, y1⟩ := B113.out.two
          go_wp2_with fail
          clear x0 x1 x2 y0 y1
          refine (FR.out v3 _ _ HL3.out).mono ?_
          rintro e v4 ⟨Af, nf, cf, rfl, ho, hb⟩
          have B34 := Lib.hid (B33.out.below hb B33.out.lt)
          have B74 := Lib.hid (B73.out.below hb B73.out.lt)
          have B114 := Lib.hid (B113.out.below hb B113.out.lt)
          have HL4 := Lib.hid (EoT.below HL3.out hb)
          have HW4 := Lib.hid (EoT.below HW3.out hb)
          have HB4 := Lib.hid (HB3.out.trans (hb.mono HB3.out.size))
          have Hf4 := Lib.hid (EoT.of ho)
          have QS := Lib.hid (show w.heap.size < v3.heap.size ∧ p7 < v3.heap.size ∧ T2 ≤ v3.heap.size ∧ p11 < v3.heap.size from ⟨B33.out.lt, B73.out.lt, HL3.out.1, B113.out.lt⟩)
          have QX := Lib.hid (show v3.heap.size ≤ v4.heap.size from hb.size)
          clear ho hb
          obtain ⟨x0, x1, x2⟩ := B74.out.three
          obtain ⟨y0, y1⟩ := B114.out.two
          have hz1 := B74.out.lt
          have hz2 := B114.out.lt
          go_wp2_with fail
          clear x0 x1 x2 y0 y1 hz1 hz2
          have hb : Below v4.heap.size v4 (v4.alloc (.cells #[.int .u64 FI, .int .u64 FT] 24)) := (Below.refl _ _).alloc (Nat.le_refl _) _
          have B35 := Lib.hid (B34.out.below hb B34.out.lt)
          have B75 := Lib.hid (B74.out.below hb B74.out.lt)
          have B115 := Lib.hid (B114.out.below hb B114.out.lt)
          have HL5 := Lib.hid (EoT.below HL4.out hb)
          have HW5 := Lib.hid (EoT.below HW4.out hb)
          have Hf5 := Lib.hid (EoT.below Hf4.out hb)
          have HB5 := Lib.hid (HB4.out.trans (hb.mono HB4.out.size))
          have QX45 := Lib.hid hb.size
          have B165 : Hid (Blk (v4.alloc (.cells #[.int .u64 FI, .int .u64 FT] 24)) v4.heap.size 24 #[.int .u64 FI, .int .u64 FT]) := Lib.hid (Blk.new _ _ _)
          clear hb
          generalize (v4.alloc (.cells #[.int .u64 FI, .int .u64 FT] 24)) = v5 at *
          generalize v4.heap.size = p16 at *
          refine (DFR.out v5 _ _ HW5.out).mono ?_
          rintro e v6 ⟨Ag, ng, cg, rfl, ho, hng, hb⟩
          have B36 := Lib.hid (B35.out.below hb B35.out.lt)
          have B76 := Lib.hid (B75.out.below hb B75.out.lt)
          have B116 := Lib.hid (B115.out.below hb B115.out.lt)
          have B166 := Lib.hid (B165.out.below hb B165.out.lt)
          have HL6 := Lib.hid (EoT.below HL5.out hb)
          have HW6 := Lib.hid (EoT.below HW5.out hb)
          have Hf6 := Lib.hid (EoT.below Hf5.out hb)
          have HB6 := Lib.hid (HB5.out.trans (hb.mono HB5.out.size))
          have Hg6 := Lib.hid ho
          have HNG := Lib.hid hng
          have QX56 := Lib.hid hb.size
          clear ho hb hng
          obtain ⟨x0, x1, x2⟩ := B36.out.three
          obtain ⟨y0, y1⟩ := B116.out.two
          have hz1 := B36.out.lt
          have hz2 := B116.out.lt
          go_wp2_with fail
          clear x0 x1 x2 y0 y1 hz1 hz2
          have QX46 := Lib.hid (show p16 ≤ v6.heap.size from Nat.le_trans QX45.out QX56.out)
          have hb : Below v6.heap.size v6 (v6.alloc (.cells #[.int .u64 FI, .int .u64 FT] 24)) := (Below.refl _ _).alloc (Nat.le_refl _) _
          have B37 := Lib.hid (B36.out.below hb B36.out.lt)
          have B77 := Lib.hid (B76.out.below hb B76.out.lt)
          have B117 := Lib.hid (B116.out.below hb B116.out.lt)
          have B167 := Lib.hid (B166.out.below hb B166.out.lt)
          have HL7 := Lib.hid (EoT.below HL6.out hb)
          have HW7 := Lib.hid (EoT.below HW6.out hb)
          have Hf7 := Lib.hid (EoT.below Hf6.out hb)
          have HB7 := Lib.hid (HB6.out.trans (hb.mono HB6.out.size))
          have QN := Lib.hid (show w.heap.size < v6.heap.size ∧ p7 < v6.heap.size ∧ p11 < v6.heap.size ∧ p16 < v6.heap.size from ⟨B36.out.lt, B76.out.lt, B116.out.lt, B166.out.lt⟩)
          have QX47 := Lib.hid (Nat.le_trans QX46.out hb.size)
          have Hg7 := Lib.hid ((Hg6.out.below hb).more hb.size)
          have B197 : Hid (Blk (v6.alloc (.cells #[.int .u64 FI, .int .u64 FT] 24)) v6.heap.size 24 #[.int .u64 FI, .int .u64 FT]) := Lib.hid (Blk.new _ _ _)
          clear hb
          generalize (v6.alloc (.cells #[.int .u64 FI, .int .u64 FT] 24)) = v7 at *
          generalize v6.heap.size = p19 at *
          refine (CF.out v7 _ _ HL7.out).mono ?_
          rintro e v8 ⟨Ac, nc, cc, rfl, ho, hb⟩
          have B38 := Lib.hid (B37.out.below hb B37.out.lt)
          have B78 := Lib.hid (B77.out.below hb B77.out.lt)
          have B118 := Lib.hid (B117.out.below hb B117.out.lt)
          have B168 := Lib.hid (B167.out.below hb B167.out.lt)
          have B198 := Lib.hid (B197.out.below hb B197.out.lt)
          have HL8 := Lib.hid (EoT.below HL7.out hb)
          have HW8 := Lib.hid (EoT.below HW7.out hb)
          have Hf8 := Lib.hid (EoT.below Hf7.out hb)
          have HB8 := Lib.hid (HB7.out.trans (hb.mono HB7.out.size))
          have Hg8 := Lib.hid ((Es.below Hg7.out hb).more hb.size)
          have QX7 := Lib.hid (show p16 ≤ v7.heap.size from QX47.out)
          have Hc8 := Lib.hid ho
          have QC8 := Lib.hid (show w.heap.size < v7.heap.size ∧ p7 < v7.heap.size ∧ T2 ≤ v7.heap.size ∧ p11 < v7.heap.size from ⟨B37.out.lt, B77.out.lt, HL7.out.1, B117.out.lt⟩)
          have QZ := Lib.hid (show v7.heap.size ≤ v8.heap.size from hb.size)
          have HZ8 := Lib.hid (EoT.of (Eo.nothing v8 v7.heap.size))
          clear ho hb
          obtain ⟨x0, x1, x2⟩ := B78.out.three
          obtain ⟨y0, y1⟩ := B118.out.two
          go_wp2_with fail
          clear x0 x1 x2 y0 y1
          refine (DCF.out v8 _ _ HW8.out).mono ?_
          rintro e v9 ⟨Ad, nd, cd, rfl, ho, hb⟩
          have B39 := Lib.hid (B38.out.below hb B38.out.lt)
          have B79 := Lib.hid (B78.out.below hb B78.out.lt)
          have B119 := Lib.hid (B118.out.below hb B118.out.lt)
          have B169 := Lib.hid (B168.out.below hb B168.out.lt)
          have B199 := Lib.hid (B198.out.below hb B198.out.lt)
          have HL9 := Lib.hid (EoT.below HL8.out hb)
          have HW9 := Lib.hid (EoT.below HW8.out hb)
          have Hf9 := Lib.hid (EoT.below Hf8.out hb)
          have HZ9 := Lib.hid (EoT.below HZ8.out hb)
          have HB9 := Lib.hid (HB8.out.trans (hb.mono HB8.out.size))
          have Hg9 := Lib.hid ((Es.below Hg8.out hb).more hb.size)
          have Hc9 := Lib.hid (Hc8.out.below hb)
          have Hd9 := Lib.hid ho
          clear ho hb
          obtain ⟨x0, x1, x2⟩ := B79.out.three
          obtain ⟨y0, y1⟩ := B119.out.two
          go_wp2_with fail
          clear x0 x1 x2 y0 y1
          refine (DHA.out v9 _ _ HW9.out).mono ?_
          rintro e v10 ⟨rfl, hb⟩
          have B310 := Lib.hid (B39.out.below hb B39.out.lt)
          have B710 := Lib.hid (B79.out.below hb B79.out.lt)
          have B1110 := Lib.hid (B119.out.below hb B119.out.lt)
          have B1610 := Lib.hid (B169.out.below hb B169.out.lt)
          have B1910 := Lib.hid (B199.out.below hb B199.out.lt)
          have HL10 := Lib.hid (EoT.below HL9.out hb)
          have HW10 := Lib.hid (EoT.below HW9.out hb)
          have Hf10 := Lib.hid (EoT.below Hf9.out hb)
          have HZ10 := Lib.hid (EoT.below HZ9.out hb)
          have HB10 := Lib.hid (HB9.out.trans (hb.mono HB9.out.size))
          have Hg10 := Lib.hid ((Es.below Hg9.out hb).more hb.size)
          have Hc10 := Lib.hid (Hc9.out.below hb)
          have Hd10 := Lib.hid ((Hd9.out.below hb).more hb.size)
          clear hb
          have SE : Hid (∀ W b s, EoT W b s Af nf cf FL → Es W W.heap.size Ag ng FL → Calls Try.prog 20 #[.slice Af nf cf, .slice Ag ng cg] W fun e w' => e = .returned (.bool true) ∧ Below W.heap.size W w') := Lib.hid (fun W b s ho hg => by
            have := sameentries_any Af Ag nf ng cf cg _ FL FL W ho.eo.read hg (Nat.le_refl _) (by have := ho.eo.len; have := FLN.out; omega)
            rw [decide_eq_true rfl] at this
            exact this)
          obtain ⟨x0, x1, x2⟩ := B310.out.three
          obtain ⟨y0, y1⟩ := B1110.out.two
          obtain ⟨u0, u1⟩ := B1610.out.two
          obtain ⟨z0, z1⟩ := B1910.out.two
          have q1 := Hc10.out.by.bytesIn.convert (P := Try.prog) Hc10.out.len cc 52 5 9 Try.underlying52 Try.underlying5 Try.underlying9
          have q2 := Hd10.out.bytesIn.convert (P := Try.prog) Hd10.out.1 cd 52 5 9 Try.underlying52 Try.underlying5 Try.underlying9
          go_wp2_with (first | (go_at_call 37; refine (HA.out v10 _ _ HL10.out).mono ?_; rintro e v11 ⟨rfl, hb⟩; have B311 := Lib.hid (B310.out.below hb B310.out.lt); have B711 := Lib.hid (B710.out.below hb B710.out.lt); have B1111 := Lib.hid (B1110.out.below hb B1110.out.lt); have HL11 := Lib.hid (EoT.below HL10.out hb); have HW11 := Lib.hid (EoT.below HW10.out hb); have Hf11 := Lib.hid (EoT.below Hf10.out hb); have HZ11 := Lib.hid (EoT.below HZ10.out hb); have HB11 := Lib.hid (HB10.out.trans (hb.mono HB10.out.size)); have Hg11 := Lib.hid ((Es.below Hg10.out hb).more hb.size); have Hc11 := Lib.hid (Hc10.out.below hb); clear hb x0 x1 x2 y0 y1 u0 u1 z0 z1 q1 q2) | (go_at_call 20; refine (SE.out v11 _ _ Hf11.out Hg11.out).mono ?_; rintro e v12 ⟨rfl, hb⟩; have B312 := Lib.hid (B311.out.below hb B311.out.lt); have B712 := Lib.hid (B711.out.below hb B711.out.lt); have B1112 := Lib.hid (B1111.out.below hb B1111.out.lt); have HL12 := Lib.hid (EoT.below HL11.out hb); have HW12 := Lib.hid (EoT.below HW11.out hb); have Hf12 := Lib.hid (EoT.below Hf11.out hb); have HZ12 := Lib.hid (EoT.below HZ11.out hb); have HB12 := Lib.hid (HB11.out.trans (hb.mono HB11.out.size)); have Hc12 := Lib.hid (Hc11.out.below hb); clear hb))
          have hb : Below v12.heap.size v12 v12.drew := (Below.refl _ _).drew
          have B313 := Lib.hid (B312.out.below hb B312.out.lt)
          have B713 := Lib.hid (B712.out.below hb B712.out.lt)
          have B1113 := Lib.hid (B1112.out.below hb B1112.out.lt)
          have HL13 := Lib.hid (EoT.below HL12.out hb)
          have HW13 := Lib.hid (EoT.below HW12.out hb)
          have Hf13 := Lib.hid (EoT.below Hf12.out hb)
          have HZ13 := Lib.hid (EoT.below HZ12.out hb)
          have HB13 := Lib.hid (HB12.out.trans (hb.mono HB12.out.size))
          have Hc13 := Lib.hid (Hc12.out.below hb)
          clear hb
          obtain ⟨b0, o0, i0, t0, hA0, hb0, _, _, d0, d1⟩ := H.out.at_ (j := 0) (by have := HK.out.2; omega) HB13.out
          injection hA0 with hA0
          injection hA0 with e1 e2 _
          subst e1 e2
          rw [Nat.zero_mul, Nat.add_zero] at d0 d1
          have kN : 0 < pn := by have := HK.out.2; omega
          have NA := Lib.hid (Newer_any pi pt i0 t0)
          have RN := Lib.hid (refnewer_any pi pt i0 t0)
          generalize rNewer pi pt i0 t0 = NW at *
          have hbl : b < v12.drew.heap.size := by have := HB13.out.size; omega
          have hS0 := And.intro B1113.out.two (And.intro d0 d1)
          clear hb0
          refine wp_region_noPanic ?_
          refine wp_region_held_drew (S := fun w' => (w'.cell? ⟨p11, 0, none⟩ = some (.int .u64 pi) ∧ w'.cell? ⟨p11, 1, none⟩ = some (.int .u64 pt)) ∧ (w'.cell? ⟨b, o, none⟩ = some (.int .u64 i0) ∧ w'.cell? ⟨b, o + 1, none⟩ = some (.int .u64 t0))) (by kernel_rfl) hS0 (fun hHeld => ?_)
          generalize v12.drew = v13 at *
          refine take_d (i := 0) (d := 170) (v := ?nt170) rfl rfl (by kernel_rfl) (by kernel_rfl) (by kernel_rfl) (fun _ _ _ h => h) (Or.inl ⟨by kernel_rfl, ?nt170h⟩) hHeld ?nt170n
          case nt170h => (intro w hSw; (try dsimp only at hSw); go_split_ands; go_simp; (try exact rfl))
          try simp only [Act.put, List.setIfInBounds_toArray, List.set_cons_zero, List.set_cons_succ]
          refine take_d (i := 1) (d := 171) (v := ?nt171) rfl rfl (by kernel_rfl) (by kernel_rfl) (by kernel_rfl) (fun _ _ _ h => h) (Or.inl ⟨by kernel_rfl, ?nt171h⟩) hHeld ?nt171n
          case nt171h => (intro w hSw; (try dsimp only at hSw); go_split_ands; go_simp; (try exact rfl))
          try simp only [Act.put, List.setIfInBounds_toArray, List.set_cons_zero, List.set_cons_succ]
          refine take_d (i := 2) (d := 172) (v := ?nt172) rfl rfl (by kernel_rfl) (by kernel_rfl) (by kernel_rfl) (fun _ _ _ h => h) (Or.inl ⟨by kernel_rfl, ?nt172h⟩) hHeld ?nt172n
          case nt172h => (intro w hSw; (try dsimp only at hSw); go_split_ands; go_simp; (try exact rfl))
          try simp only [Act.put, List.setIfInBounds_toArray, List.set_cons_zero, List.set_cons_succ]
          refine take_d (i := 3) (d := 173) (v := ?nt173) rfl rfl (by kernel_rfl) (by kernel_rfl) (by kernel_rfl) (fun _ _ _ h => h) (Or.inl ⟨by kernel_rfl, ?nt173h⟩) hHeld ?nt173n
          case nt173h => (intro w hSw; (try dsimp only at hSw); go_split_ands; go_simp; (try exact rfl))
          try simp only [Act.put, List.setIfInBounds_toArray, List.set_cons_zero, List.set_cons_succ]
          refine take_d (i := 5) (d := 175) (v := ?nt175) rfl rfl (by kernel_rfl) (by kernel_rfl) (by kernel_rfl) (fun _ _ _ h => h) (Or.inl ⟨by kernel_rfl, ?nt175h⟩) hHeld ?nt175n
          case nt175h => (intro w hSw; (try dsimp only at hSw); go_split_ands; go_simp; (try exact rfl))
          try simp only [Act.put, List.setIfInBounds_toArray, List.set_cons_zero, List.set_cons_succ]
          refine take_d (i := 6) (d := 176) (v := ?nt176) rfl rfl (by kernel_rfl) (by kernel_rfl) (by kernel_rfl) (fun _ _ _ h => h) (Or.inl ⟨by kernel_rfl, ?nt176h⟩) hHeld ?nt176n
          case nt176h => (intro w hSw; (try dsimp only at hSw); go_split_ands; go_simp; (try exact rfl))
          try simp only [Act.put, List.setIfInBounds_toArray, List.set_cons_zero, List.set_cons_succ]
          refine take_d (i := 7) (d := 177) (v := ?nt177) rfl rfl (by kernel_rfl) (by kernel_rfl) (by kernel_rfl) (fun _ _ _ h => h) (Or.inl ⟨by kernel_rfl, ?nt177h⟩) hHeld ?nt177n
          case nt177h => (intro w hSw; (try dsimp only at hSw); go_split_ands; go_simp; (try exact rfl))
          try simp only [Act.put, List.setIfInBounds_toArray, List.set_cons_zero, List.set_cons_succ]
          refine take_d (i := 8) (d := 178) (v := ?nt178) rfl rfl (by kernel_rfl) (by kernel_rfl) (by kernel_rfl) (fun _ _ _ h => h) (Or.inl ⟨by kernel_rfl, ?nt178h⟩) hHeld ?nt178n
          case nt178h => (intro w hSw; (try dsimp only at hSw); go_split_ands; go_simp; (try exact rfl))
          try simp only [Act.put, List.setIfInBounds_toArray, List.set_cons_zero, List.set_cons_succ]
          refine wpAnyH_ready (rs := [4]) (by kernel_rfl) (by simp) ?_
          refine AllReadyH.cons rfl (fun K hK => ?_) AllReadyH.nil
          go_simp
          refine (NA.out v13).mono ?_
          rintro e v14 ⟨rfl, hb⟩
          have B314 := Lib.hid (B313.out.below hb B313.out.lt)
          have B714 := Lib.hid (B713.out.below hb B713.out.lt)
          have B1114 := Lib.hid (B1113.out.below hb B1113.out.lt)
          have HL14 := Lib.hid (EoT.below HL13.out hb)
          have HW14 := Lib.hid (EoT.below HW13.out hb)
          have Hf14 := Lib.hid (EoT.below Hf13.out hb)
          have HZ14 := Lib.hid (EoT.below HZ13.out hb)
          have HB14 := Lib.hid (HB13.out.trans (hb.mono HB13.out.size))
          have Hc14 := Lib.hid (Hc13.out.below hb)
          have d2 := And.intro ((hb.cell (p := ⟨b, o, none⟩) hbl).trans d0) ((hb.cell (p := ⟨b, o + 1, none⟩) hbl).trans d1)
          have hbl2 : b < v14.heap.size := Nat.lt_of_lt_of_le hbl hb.size
          clear hb
          refine hK.out _ _ (And.intro B1114.out.two d2) (fun hHeld => ?_)
          clear hK K
          try simp only [Act.put, List.setIfInBounds_toArray, List.set_cons_zero, List.set_cons_succ]
          refine wpAnyH_ready (rs := [9]) (by kernel_rfl) (by simp) ?_
          refine AllReadyH.cons rfl (fun K hK => ?_) AllReadyH.nil
          go_simp
          refine (RN.out v14).mono ?_
          rintro e v15 ⟨rfl, hb⟩
          have B315 := Lib.hid (B314.out.below hb B314.out.lt)
          have B715 := Lib.hid (B714.out.below hb B714.out.lt)
          have B1115 := Lib.hid (B1114.out.below hb B1114.out.lt)
          have HL15 := Lib.hid (EoT.below HL14.out hb)
          have HW15 := Lib.hid (EoT.below HW14.out hb)
          have Hf15 := Lib.hid (EoT.below Hf14.out hb)
          have HZ15 := Lib.hid (EoT.below HZ14.out hb)
          have HB15 := Lib.hid (HB14.out.trans (hb.mono HB14.out.size))
          have Hc15 := Lib.hid (Hc14.out.below hb)
          have d3 := And.intro ((hb.cell (p := ⟨b, o, none⟩) hbl2).trans d2.1) ((hb.cell (p := ⟨b, o + 1, none⟩) hbl2).trans d2.2)
          clear hb
          refine hK.out _ _ (And.intro B1115.out.two d3) (fun hHeld => ?_)
          clear hK K
          try simp only [Act.put, List.setIfInBounds_toArray, List.set_cons_zero, List.set_cons_succ]
          refine take_d (i := 10) (d := 180) (v := .bool false) rfl rfl (by kernel_rfl) (by kernel_rfl) (by kernel_rfl) (fun _ _ _ h => h) (Or.inl ⟨by kernel_rfl, ?nt180h⟩) hHeld ?_
          case nt180h => (intro w hSw; (try dsimp only at hSw); go_split_ands; go_simp)
          try simp only [Act.put, List.setIfInBounds_toArray, List.set_cons_zero, List.set_cons_succ]
          refine wpAnyH_done (by kernel_rfl) ?_ _
          refine NoPanic.normal ?_
          clear d0 d1 d2 d3 hS0 hbl hbl2 kN NA RN
          go_wp2_with fail
          refine (over_any 0 0 Af nf cf _ _ FL v15 Hf15.out (by have := Hf15.out.eo.len; have := FLN.out; omega)).mono ?_
          rintro e v16 ⟨rfl, ho⟩
          have B316 := Lib.hid (ho.keep B315.out (by have := QS.out; omega))
          have B716 := Lib.hid (ho.keep B715.out (by have := QS.out; omega))
          have HL16 := Lib.hid (HL15.out.outs ho (by have := QS.out; omega))
          have HW16 := Lib.hid (HW15.out.outs ho (by have := QS.out; omega))
          have Hc16 := Lib.hid (Own.outs Hc15.out ho (by have := QX7.out; omega))
          have HZ16 := Lib.hid (HZ15.out.outs ho (Or.inr (by have := QX7.out; omega)))
          have HB16 := Lib.hid (HB15.out.trans ((ho.below (by have := Hf15.out.1; have := QX.out; omega)).mono (by have := QS.out; omega)))
          clear ho
          have HNC := Lib.hid (show nc ≤ 100000 by have := Hc16.out.len; have := CDN.out; omega)
          have HD : Hid (Dbs v16 v7.heap.size v16.heap.size Ac nc v16) := Lib.hid (Dbs.of Hc16.out)
          go_wp2_with fail
          go_loopw [186] (fun ix wr => ∃ j : Nat, j ≤ nc ∧ ix = .int .i64 j ∧ Dbs v16 v7.heap.size v16.heap.size Ac nc wr) (fun ix _ => nc - (intOf ix).toNat)
          case atStart => exact ⟨0, Nat.zero_le _, rfl, HD.out⟩
          case round =>
            obtain ⟨j, hj, rfl, hV⟩ := hrel
            by_cases hjt : j < nc
            · obtain ⟨bb, zs, rfl, e2, e3, e4, e5⟩ := hV.dat (by omega)
              obtain ⟨z, hz⟩ := e5 j hjt
              have z2 : wr.cell? ⟨bb, j, none⟩ = some (.int .u8 z) := (e4.cell _).trans hz
              have z3 : wr.frozen? ⟨bb, j, none⟩ = false := e4.frozen _
              have HV := Lib.hid (fun v => hV.set5 e4 e2 e3 j v)
              have HJ := Lib.hid hjt
              have jI : ((j : Int) < (nc : Int)) := by omega
              have j0 : (0 : Int) ≤ (j : Int) := by omega
              clear hV e2 e3 e4 e5 hz hj
              clear zs
              have j64 : wrap64 ((j : Int) + 1) = (j : Int) + 1 := by rw [wrap64_e]; have := HNC.out; omega
              go_wp2
              go_roundw
              case rel => exact ⟨j + 1, HJ.out, (by first | (rw [j64]; rfl) | go_num), HV.out _⟩
              case measure => (try rw [j64]); clear j64; simp [intOf]; omega
            · have jI : ¬ ((j : Int) < (nc : Int)) := by omega
              have ho := hV.out
              generalize wr = vz at *
              have B3z := Lib.hid (ho.keep B316.out (by have := QC8.out; omega))
              have B7z := Lib.hid (ho.keep B716.out (by have := QC8.out; omega))
              have HLz := Lib.hid (HL16.out.outs ho (by have := QC8.out; omega))
              have HWz := Lib.hid (HW16.out.outs ho (by have := QC8.out; omega))
              have HBz := Lib.hid (HB16.out.trans ((ho.below (by have := HZ16.out.1; have := QZ.out; omega)).mono (by have := QC8.out; omega)))
              clear ho hV
              obtain ⟨x0, x1, x2⟩ := B3z.out.three
              obtain ⟨y0, y1, y2⟩ := B7z.out.three
              go_wp2_with fail
              clear x0 x1 x2 y0 y1 y2
              refine (RS.out vz _ _ _ _ _ _ _ _ HLz.out.eo HWz.out.eo).mono ?_
              rintro e vy ⟨rfl, hb⟩
              have B3y := Lib.hid (B3z.out.below hb B3z.out.lt)
              have B7y := Lib.hid (B7z.out.below hb B7z.out.lt)
              have HLy := Lib.hid (EoT.below HLz.out hb)
              have HWy := Lib.hid (EoT.below HWz.out hb)
              have HBy := Lib.hid (HBz.out.trans (hb.mono HBz.out.size))
              clear hb
              have j64 : wrap64 ((k : Int) + 1) = (k : Int) + 1 := by rw [wrap64_e]; have := HK.out; omega
              go_wp2
              go_roundw
              case rel => exact ⟨k + 1, HK.out.2, HK.out.1, (by first | (rw [j64]; rfl) | go_num), HBy.out, B3y.out, B7y.out, HLy.out, HWy.out⟩
              case measure => (try rw [j64]); clear j64; simp [intOf]; have := HK.out.2; omega
      · have kI : ¬ ((k : Int) < (pn : Int)) := by omega
        go_wp2
        go_ret
        exact ⟨rfl, HB0.out⟩
  | false =>
    obtain ⟨_, _, _, _, _, _, _, _, _, _, d1, d2⟩ := tells_not hr 0 0 0
    rw [d1, d2] at LA
    clear d1 d2
    obtain ⟨x0, x1, x2⟩ := B35.out.three
    go_wp2_with fail
    clear x0 x1 x2
    refine (LA.out w5 _ _ HL5.out).mono ?_
    rintro e w6 ⟨rfl, hb⟩
    have B36 := Lib.hid (B35.out.below hb B35.out.lt)
    have B76 := Lib.hid (B75.out.below hb B75.out.lt)
    have HL6 := Lib.hid (EoT.below HL5.out hb)
    have HW6 := Lib.hid (EoT.below HW5.out hb)
    have HB6 := Lib.hid (HB5.out.trans (hb.mono HB5.out.size))
    clear hb
    go_wp2_with fail
    have hb : Below w6.heap.size w6 (w6.alloc (.cells #[.int .u64 0, .int .u64 0] 24)) := (Below.refl _ _).alloc (Nat.le_refl _) _
    have B37 := Lib.hid (B36.out.below hb B36.out.lt)
    have B77 := Lib.hid (B76.out.below hb B76.out.lt)
    have HL7 := Lib.hid (EoT.below HL6.out hb)
    have HW7 := Lib.hid (EoT.below HW6.out hb)
    have HB7 := Lib.hid (HB6.out.trans (hb.mono HB6.out.size))
    have B97 : Hid (Blk (w6.alloc (.cells #[.int .u64 0, .int .u64 0] 24)) w6.heap.size 24 #[.int .u64 0, .int .u64 0]) := Lib.hid (Blk.new _ _ _)
    clear hb
    generalize (w6.alloc (.cells #[.int .u64 0, .int .u64 0] 24)) = w7 at *
    generalize w6.heap.size = p9 at *
    have hb : Below w7.heap.size w7 w7.drew := (Below.refl _ _).drew
    have B38 := Lib.hid (B37.out.below hb B37.out.lt)
    have B78 := Lib.hid (B77.out.below hb B77.out.lt)
    have B98 := Lib.hid (B97.out.below hb B97.out.lt)
    have HL8 := Lib.hid (EoT.below HL7.out hb)
    have HW8 := Lib.hid (EoT.below HW7.out hb)
    have HB8 := Lib.hid (HB7.out.trans (hb.mono HB7.out.size))
    clear hb
    have hS0 := And.intro B78.out.three B98.out.two
    refine wp_region_noPanic ?_
    refine wp_region_held_drew (S := fun w' => (w'.cell? ⟨p7, 0, none⟩ = some (.int .u64 L.bi) ∧ w'.cell? ⟨p7, 1, none⟩ = some (.int .u64 L.bt) ∧ w'.cell? ⟨p7, 2, none⟩ = some (.slice AW nW cW)) ∧ (w'.cell? ⟨p9, 0, none⟩ = some (.int .u64 0) ∧ w'.cell? ⟨p9, 1, none⟩ = some (.int .u64 0))) (by kernel_rfl) hS0 (fun hHeld => ?_)
    generalize w7.drew = w8 at *
    refine take_d (i := 0) (d := 40) (v := ?af40) rfl rfl (by kernel_rfl) (by kernel_rfl) (by kernel_rfl) (fun _ _ _ h => h) (Or.inl ⟨by kernel_rfl, ?af40h⟩) hHeld ?af40n
    case af40h => (intro w hSw; (try dsimp only at hSw); go_split_ands; go_simp; (try exact rfl))
    try simp only [Act.put, List.setIfInBounds_toArray, List.set_cons_zero, List.set_cons_succ]
    refine take_d (i := 1) (d := 41) (v := ?af41) rfl rfl (by kernel_rfl) (by kernel_rfl) (by kernel_rfl) (fun _ _ _ h => h) (Or.inl ⟨by kernel_rfl, ?af41h⟩) hHeld ?af41n
    case af41h => (intro w hSw; (try dsimp only at hSw); go_split_ands; go_simp; (try exact rfl))
    try simp only [Act.put, List.setIfInBounds_toArray, List.set_cons_zero, List.set_cons_succ]
    refine take_d (i := 2) (d := 42) (v := undef) rfl rfl (by kernel_rfl) (by kernel_rfl) (by kernel_rfl) (fun _ _ _ h => h) (Or.inr ⟨by kernel_rfl, rfl⟩) hHeld ?_
    try simp only [Act.put, List.setIfInBounds_toArray, List.set_cons_zero, List.set_cons_succ]
    refine take_d (i := 3) (d := 43) (v := undef) rfl rfl (by kernel_rfl) (by kernel_rfl) (by kernel_rfl) (fun _ _ _ h => h) (Or.inr ⟨by kernel_rfl, rfl⟩) hHeld ?_
    try simp only [Act.put, List.setIfInBounds_toArray, List.set_cons_zero, List.set_cons_succ]
    refine take_d (i := 4) (d := 44) (v := undef) rfl rfl (by kernel_rfl) (by kernel_rfl) (by kernel_rfl) (fun _ _ _ h => h) (Or.inr ⟨by kernel_rfl, rfl⟩) hHeld ?_
    try simp only [Act.put, List.setIfInBounds_toArray, List.set_cons_zero, List.set_cons_succ]
    refine take_d (i := 5) (d := 45) (v := undef) rfl rfl (by kernel_rfl) (by kernel_rfl) (by kernel_rfl) (fun _ _ _ h => h) (Or.inr ⟨by kernel_rfl, rfl⟩) hHeld ?_
    try simp only [Act.put, List.setIfInBounds_toArray, List.set_cons_zero, List.set_cons_succ]
    refine take_d (i := 6) (d := 46) (v := ?af46) rfl rfl (by kernel_rfl) (by kernel_rfl) (by kernel_rfl) (fun _ _ _ h => h) (Or.inl ⟨by kernel_rfl, ?af46h⟩) hHeld ?af46n
    case af46h => (intro w hSw; (try dsimp only at hSw); go_split_ands; go_simp; (try exact rfl))
    try simp only [Act.put, List.setIfInBounds_toArray, List.set_cons_zero, List.set_cons_succ]
    refine take_d (i := 7) (d := 47) (v := ?af47) rfl rfl (by kernel_rfl) (by kernel_rfl) (by kernel_rfl) (fun _ _ _ h => h) (Or.inl ⟨by kernel_rfl, ?af47h⟩) hHeld ?af47n
    case af47h => (intro w hSw; (try dsimp only at hSw); go_split_ands; go_simp; (try exact rfl))
    try simp only [Act.put, List.setIfInBounds_toArray, List.set_cons_zero, List.set_cons_succ]
    refine take_d (i := 8) (d := 48) (v := ?af48) rfl rfl (by kernel_rfl) (by kernel_rfl) (by kernel_rfl) (fun _ _ _ h => h) (Or.inl ⟨by kernel_rfl, ?af48h⟩) hHeld ?af48n
    case af48h => (intro w hSw; (try dsimp only at hSw); go_split_ands; go_simp; (try exact rfl))
    try simp only [Act.put, List.setIfInBounds_toArray, List.set_cons_zero, List.set_cons_succ]
    refine take_d (i := 9) (d := 49) (v := ?af49) rfl rfl (by kernel_rfl) (by kernel_rfl) (by kernel_rfl) (fun _ _ _ h => h) (Or.inl ⟨by kernel_rfl, ?af49h⟩) hHeld ?af49n
    case af49h => (intro w hSw; (try dsimp only at hSw); go_split_ands; go_simp; (try exact rfl))
    try simp only [Act.put, List.setIfInBounds_toArray, List.set_cons_zero, List.set_cons_succ]
    refine take_d (i := 10) (d := 50) (v := ?af50) rfl rfl (by kernel_rfl) (by kernel_rfl) (by kernel_rfl) (fun _ _ _ h => h) (Or.inl ⟨by kernel_rfl, ?af50h⟩) hHeld ?af50n
    case af50h => (intro w hSw; (try dsimp only at hSw); go_split_ands; go_simp; (try exact rfl))
    try simp only [Act.put, List.setIfInBounds_toArray, List.set_cons_zero, List.set_cons_succ]
    refine take_d (i := 11) (d := 51) (v := ?af51) rfl rfl (by kernel_rfl) (by kernel_rfl) (by kernel_rfl) (fun _ _ _ h => h) (Or.inl ⟨by kernel_rfl, ?af51h⟩) hHeld ?af51n
    case af51h => (intro w hSw; (try dsimp only at hSw); go_split_ands; go_simp; (try exact rfl))
    try simp only [Act.put, List.setIfInBounds_toArray, List.set_cons_zero, List.set_cons_succ]
    refine take_d (i := 12) (d := 52) (v := ?af52) rfl rfl (by kernel_rfl) (by kernel_rfl) (by kernel_rfl) (fun _ _ _ h => h) (Or.inl ⟨by kernel_rfl, ?af52h⟩) hHeld ?af52n
    case af52h => (intro w hSw; (try dsimp only at hSw); go_split_ands; go_simp; (try exact rfl))
    try simp only [Act.put, List.setIfInBounds_toArray, List.set_cons_zero, List.set_cons_succ]
    refine take_d (i := 13) (d := 53) (v := .bool false) rfl rfl (by kernel_rfl) (by kernel_rfl) (by kernel_rfl) (fun _ _ _ h => h) (Or.inl ⟨by kernel_rfl, ?af53h⟩) hHeld ?_
    case af53h => (intro w hSw; (try dsimp only at hSw); go_split_ands; go_simp)
    try simp only [Act.put, List.setIfInBounds_toArray, List.set_cons_zero, List.set_cons_succ]
    refine take_d (i := 14) (d := 54) (v := ?af54) rfl rfl (by kernel_rfl) (by kernel_rfl) (by kernel_rfl) (fun _ _ _ h => h) (Or.inl ⟨by kernel_rfl, ?af54h⟩) hHeld ?af54n
    case af54h => (intro w hSw; (try dsimp only at hSw); go_split_ands; go_simp; (try exact rfl))
    try simp only [Act.put, List.setIfInBounds_toArray, List.set_cons_zero, List.set_cons_succ]
    refine take_d (i := 15) (d := 55) (v := ?af55) rfl rfl (by kernel_rfl) (by kernel_rfl) (by kernel_rfl) (fun _ _ _ h => h) (Or.inl ⟨by kernel_rfl, ?af55h⟩) hHeld ?af55n
    case af55h => (intro w hSw; (try dsimp only at hSw); go_split_ands; go_simp; (try exact rfl))
    try simp only [Act.put, List.setIfInBounds_toArray, List.set_cons_zero, List.set_cons_succ]
    refine wpAnyH_done (by kernel_rfl) ?_ _
    refine NoPanic.normal ?_
    clear LA RL hS0
    go_wp2_with fail
    go_loopw [58] (fun ix wr => ∃ k : Nat, k ≤ pn ∧ k ≤ 20 ∧ ix = .int .i64 k ∧ Below w.heap.size w wr ∧ Blk wr w.heap.size 27 #[.int .u64 L.bi, .int .u64 L.bt, .slice AL nL cL] ∧ Blk wr p7 27 #[.int .u64 L.bi, .int .u64 L.bt, .slice AW nW cW] ∧ EoT wr w.heap.size T2 AL nL cL L.es ∧ EoT wr w.heap.size p7 AW nW cW L.es) (fun ix _ => pn - (intOf ix).toNat)
    case atStart => exact ⟨0, Nat.zero_le _, Nat.zero_le _, rfl, HB8.out, B38.out, B78.out, HL8.out, HW8.out⟩
    case round =>
      obtain ⟨k, hk, hk8, rfl, h0, b3', b7', eL', eW'⟩ := hrel
      generalize wr = v0 at *
      have HB0 := Lib.hid h0
      have B30 := Lib.hid b3'
      have B70 := Lib.hid b7'
      have HL0 := Lib.hid eL'
      have HW0 := Lib.hid eW'
      clear h0 b3' b7' eL' eW' HB8 B38 B78 HL8 HW8
      by_cases hlt : k < pn
      · obtain ⟨b, o, pi, pt, rfl, hbB, ⟨hp0, hp1⟩, ⟨ht0, ht1⟩, c0, c1⟩ := H.out.at_ hlt HB0.out
        have k0 : (0 : Int) ≤ (k : Int) := by omega
        have kI : (k : Int) < (pn : Int) := by omega
        have hbr : b < v0.heap.size := by have := HB0.out.size; omega
        by_cases h8 : k = 20
        · have h8' : ((k : Int) == 20) = true := by simp; omega
          have HB1 := Lib.hid (HB0.out.alloc HB0.out.size (.cells #[.int .u64 pi, .int .u64 pt] 24))
          clear hlt hk hk8 h8
          go_wp2
          go_ret
          exact ⟨rfl, HB1.out⟩
        · have h8' : ((k : Int) == 20) = false := by simp; omega
          have HK := Lib.hid (show k + 1 ≤ 20 ∧ k < pn from ⟨by omega, hlt⟩)
          clear hlt hk hk8 h8
          obtain ⟨x0, x1, x2⟩ := B30.out.three
          have hz := B30.out.lt
          go_wp2_with fail
          clear x0 x1 x2 hz
          have hb : Below v0.heap.size v0 (v0.alloc (.cells #[.int .u64 pi, .int .u64 pt] 24)) := (Below.refl _ _).alloc (Nat.le_refl _) _
          have B31 := Lib.hid (B30.out.below hb B30.out.lt)
          have B71 := Lib.hid (B70.out.below hb B70.out.lt)
          have HL1 := Lib.hid (EoT.below HL0.out hb)
          have HW1 := Lib.hid (EoT.below HW0.out hb)
          have HB1 := Lib.hid (HB0.out.trans (hb.mono HB0.out.size))
          have B111 : Hid (Blk (v0.alloc (.cells #[.int .u64 pi, .int .u64 pt] 24)) v0.heap.size 24 #[.int .u64 pi, .int .u64 pt]) := Lib.hid (Blk.new _ _ _)
          clear hb
          generalize (v0.alloc (.cells #[.int .u64 pi, .int .u64 pt] 24)) = v1 at *
          generalize v0.heap.size = p11 at *
          clear c0 c1 k0 kI hbr h8'
          have TM := Lib.hid (fun W b s ho => Term_any L AL nL cL _ W (LR.out W AL nL cL b s ho) (Nat.le_refl _) pi hp0 hp1)
          have DTM := Lib.hid (fun W b s ho => refterm_any L AW nW cW _ W (LR.out W AW nW cW b s ho) (Nat.le_refl _) pi hp0 hp1)
          have FR := Lib.hid (fun W b s ho => From_any L AL nL cL _ W (LR.out W AL nL cL b s ho) (Nat.le_refl _) pi q)
          have DFR := Lib.hid (fun W b s ho => reffrom_any L AW nW cW _ W (LR.out W AW nW cW b s ho) (Nat.le_refl _) pi q hp0 hp1)
          have CF := Lib.hid (fun W b s ho => Conf_any L AL nL cL _ W (LR.out W AL nL cL b s ho) (Nat.le_refl _) pi)
          have DCF := Lib.hid (fun W b s ho => refconf_any L AW nW cW _ W (LR.out W AW nW cW b s ho) (Nat.le_refl _) pi)
          have HA := Lib.hid (fun W b s ho => Has_any L AL nL cL _ W (LR.out W AL nL cL b s ho) (Nat.le_refl _) pi pt hp0 hp1)
          have DHA := Lib.hid (fun W b s ho => refhas_any L AW nW cW _ W (LR.out W AW nW cW b s ho) (Nat.le_refl _) pi pt hp0 hp1)
          have FLN : Hid ((fromL L pi q).length ≤ 1000) := Lib.hid (by have := HL32.out; unfold fromL; split <;> simp <;> omega)
          have CDN : Hid ((pConfD L pi).length ≤ 1025) := Lib.hid (conf_few HFD.out pi)
          obtain ⟨d1, d2, d3, d4, d5, d6, d7, d8, d9, d10, _, _⟩ := tells_not hr pi pt q
          rw [d1, d2] at TM
          rw [d3, d4, d5, d6] at FR
          rw [d7, d8, d9] at CF
          rw [d10] at HA
          clear d1 d2 d3 d4 d5 d6 d7 d8 d9 d10 DHA FLN CDN
          generalize (rTerm L pi).1 = RT at *
          generalize (rTerm L pi).2 = RB at *
          generalize rFromI L pi q = RFI at *
          generalize rFromT L pi q = RFT at *
          generalize rFromE L pi q = RFE at *
          generalize rFromL L pi q = RFL at *
          generalize rConfI L pi = RCI at *
          generalize rConfD L pi = RCD at *
          generalize rConfB L pi = RCB at *
          clear hp0 hp1 ht0 ht1
          refine (TM.out v1 _ _ HL1.out).mono ?_
          rintro e v2 ⟨rfl, hb⟩
          have B32 := Lib.hid (B31.out.below hb B31.out.lt)
          have B72 := Lib.hid (B71.out.below hb B71.out.lt)
          have B112 := Lib.hid (B111.out.below hb B111.out.lt)
          have HL2 := Lib.hid (EoT.below HL1.out hb)
          have HW2 := Lib.hid (EoT.below HW1.out hb)
          have HB2 := Lib.hid (HB1.out.trans (hb.mono HB1.out.size))
          clear hb
          obtain ⟨x0, x1, x2⟩ := B72.out.three
          obtain ⟨y0, y1⟩ := B112.out.two
          go_wp2_with fail
          clear x0 x1 x2 y0 y1
          refine (DTM.out v2 _ _ HW2.out).mono ?_
          rintro e v3 ⟨rfl, hb⟩
          have B33 := Lib.hid (B32.out.below hb B32.out.lt)
          have B73 := Lib.hid (B72.out.below hb B72.out.lt)
          have B113 := Lib.hid (B112.out.below hb B112.out.lt)
          have HL3 := Lib.hid (EoT.below HL2.out hb)
          have HW3 := Lib.hid (EoT.below HW2.out hb)
          have HB3 := Lib.hid (HB2.out.trans (hb.mono HB2.out.size))
          clear hb
          obtain ⟨x0, x1, x2⟩ := B33.out.three
          obtain ⟨y0, y1⟩ := B113.out.two
          go_wp2_with fail
          clear x0 x1 x2 y0 y1
          refine (FR.out v3 _ _ HL3.out).mono ?_
          rintro e v4 ⟨Af, nf, cf, rfl, ho, hb⟩
          have B34 := Lib.hid (B33.out.below hb B33.out.lt)
          have B74 := Lib.hid (B73.out.below hb B73.out.lt)
          have B114 := Lib.hid (B113.out.below hb B113.out.lt)
          have HL4 := Lib.hid (EoT.below HL3.out hb)
          have HW4 := Lib.hid (EoT.below HW3.out hb)
          have HB4 := Lib.hid (HB3.out.trans (hb.mono HB3.out.size))
          have Hf4 := Lib.hid (EoT.of ho)
          have QS := Lib.hid (show w.heap.size < v3.heap.size ∧ p7 < v3.heap.size ∧ T2 ≤ v3.heap.size ∧ p11 < v3.heap.size from ⟨B33.out.lt, B73.out.lt, HL3.out.1, B113.out.lt⟩)
          have QX := Lib.hid (show v3.heap.size ≤ v4.heap.size from hb.size)
          clear ho hb
          obtain ⟨x0, x1, x2⟩ := B74.out.three
          obtain ⟨y0, y1⟩ := B114.out.two
          have hz1 := B74.out.lt
          have hz2 := B114.out.lt
          go_wp2_with fail
          clear x0 x1 x2 y0 y1 hz1 hz2
          have hb : Below v4.heap.size v4 (v4.alloc (.cells #[.int .u64 0, .int .u64 0] 24)) := (Below.refl _ _).alloc (Nat.le_refl _) _
          have B35 := Lib.hid (B34.out.below hb B34.out.lt)
          have B75 := Lib.hid (B74.out.below hb B74.out.lt)
          have B115 := Lib.hid (B114.out.below hb B114.out.lt)
          have HL5 := Lib.hid (EoT.below HL4.out hb)
          have HW5 := Lib.hid (EoT.below HW4.out hb)
          have Hf5 := Lib.hid (EoT.below Hf4.out hb)
          have HB5 := Lib.hid (HB4.out.trans (hb.mono HB4.out.size))
          have QX45 := Lib.hid hb.size
          have B165 : Hid (Blk (v4.alloc (.cells #[.int .u64 0, .int .u64 0] 24)) v4.heap.size 24 #[.int .u64 0, .int .u64 0]) := Lib.hid (Blk.new _ _ _)
          clear hb
          generalize (v4.alloc (.cells #[.int .u64 0, .int .u64 0] 24)) = v5 at *
          generalize v4.heap.size = p16 at *
          refine (DFR.out v5 _ _ HW5.out).mono ?_
          rintro e v6 ⟨Ag, ng, cg, rfl, ho, hng, hb⟩
          have B36 := Lib.hid (B35.out.below hb B35.out.lt)
          have B76 := Lib.hid (B75.out.below hb B75.out.lt)
          have B116 := Lib.hid (B115.out.below hb B115.out.lt)
          have B166 := Lib.hid (B165.out.below hb B165.out.lt)
          have HL6 := Lib.hid (EoT.below HL5.out hb)
          have HW6 := Lib.hid (EoT.below HW5.out hb)
          have Hf6 := Lib.hid (EoT.below Hf5.out hb)
          have HB6 := Lib.hid (HB5.out.trans (hb.mono HB5.out.size))
          have Hg6 := Lib.hid ho
          have HNG := Lib.hid hng
          have QX56 := Lib.hid hb.size
          clear ho hb hng
          obtain ⟨x0, x1, x2⟩ := B36.out.three
          obtain ⟨y0, y1⟩ := B116.out.two
          have hz1 := B36.out.lt
          have hz2 := B116.out.lt
          go_wp2_with fail
          clear x0 x1 x2 y0 y1 hz1 hz2
          have QX46 := Lib.hid (show p16 ≤ v6.heap.size from Nat.le_trans QX45.out QX56.out)
          have hb : Below v6.heap.size v6 (v6.alloc (.cells #[.int .u64 RFI, .int .u64 RFT] 24)) := (Below.refl _ _).alloc (Nat.le_refl _) _
          have B37 := Lib.hid (B36.out.below hb B36.out.lt)
          have B77 := Lib.hid (B76.out.below hb B76.out.lt)
          have B117 := Lib.hid (B116.out.below hb B116.out.lt)
          have B167 := Lib.hid (B166.out.below hb B166.out.lt)
          have HL7 := Lib.hid (EoT.below HL6.out hb)
          have HW7 := Lib.hid (EoT.below HW6.out hb)
          have Hf7 := Lib.hid (EoT.below Hf6.out hb)
          have HB7 := Lib.hid (HB6.out.trans (hb.mono HB6.out.size))
          have QN := Lib.hid (show w.heap.size < v6.heap.size ∧ p7 < v6.heap.size ∧ p11 < v6.heap.size ∧ p16 < v6.heap.size from ⟨B36.out.lt, B76.out.lt, B116.out.lt, B166.out.lt⟩)
          have QX47 := Lib.hid (Nat.le_trans QX46.out hb.size)
          have Hg7 := Lib.hid ((Hg6.out.below hb).more hb.size)
          have B197 : Hid (Blk (v6.alloc (.cells #[.int .u64 RFI, .int .u64 RFT] 24)) v6.heap.size 24 #[.int .u64 RFI, .int .u64 RFT]) := Lib.hid (Blk.new _ _ _)
          clear hb
          generalize (v6.alloc (.cells #[.int .u64 RFI, .int .u64 RFT] 24)) = v7 at *
          generalize v6.heap.size = p19 at *
          refine (CF.out v7 _ _ HL7.out).mono ?_
          rintro e v8 ⟨Ac, nc, cc, rfl, ho, hb⟩
          have B38 := Lib.hid (B37.out.below hb B37.out.lt)
          have B78 := Lib.hid (B77.out.below hb B77.out.lt)
          have B118 := Lib.hid (B117.out.below hb B117.out.lt)
          have B168 := Lib.hid (B167.out.below hb B167.out.lt)
          have B198 := Lib.hid (B197.out.below hb B197.out.lt)
          have HL8 := Lib.hid (EoT.below HL7.out hb)
          have HW8 := Lib.hid (EoT.below HW7.out hb)
          have Hf8 := Lib.hid (EoT.below Hf7.out hb)
          have HB8 := Lib.hid (HB7.out.trans (hb.mono HB7.out.size))
          have Hg8 := Lib.hid ((Es.below Hg7.out hb).more hb.size)
          have QX7 := Lib.hid (show p16 ≤ v7.heap.size from QX47.out)
          have Hc8 := Lib.hid ho
          have QC8 := Lib.hid (show w.heap.size < v7.heap.size ∧ p7 < v7.heap.size ∧ T2 ≤ v7.heap.size ∧ p11 < v7.heap.size from ⟨B37.out.lt, B77.out.lt, HL7.out.1, B117.out.lt⟩)
          have QZ := Lib.hid (show v7.heap.size ≤ v8.heap.size from hb.size)
          have HZ8 := Lib.hid (EoT.of (Eo.nothing v8 v7.heap.size))
          clear ho hb
          obtain ⟨x0, x1, x2⟩ := B78.out.three
          obtain ⟨y0, y1⟩ := B118.out.two
          go_wp2_with fail
          clear x0 x1 x2 y0 y1
          refine (DCF.out v8 _ _ HW8.out).mono ?_
          rintro e v9 ⟨Ad, nd, cd, rfl, ho, hb⟩
          have B39 := Lib.hid (B38.out.below hb B38.out.lt)
          have B79 := Lib.hid (B78.out.below hb B78.out.lt)
          have B119 := Lib.hid (B118.out.below hb B118.out.lt)
          have B169 := Lib.hid (B168.out.below hb B168.out.lt)
          have B199 := Lib.hid (B198.out.below hb B198.out.lt)
          have HL9 := Lib.hid (EoT.below HL8.out hb)
          have HW9 := Lib.hid (EoT.below HW8.out hb)
          have Hf9 := Lib.hid (EoT.below Hf8.out hb)
          have HZ9 := Lib.hid (EoT.below HZ8.out hb)
          have HB9 := Lib.hid (HB8.out.trans (hb.mono HB8.out.size))
          have Hg9 := Lib.hid ((Es.below Hg8.out hb).more hb.size)
          have Hc9 := Lib.hid (Hc8.out.below hb)
          have Hd9 := Lib.hid ho
          clear ho hb
          obtain ⟨x0, x1⟩ := B199.out.two
          have x2 := B199.out.frozen 0
          have x3 := B199.out.frozen 1
          go_upto_region 22 with fail
          clear x0 x1 x2 x3
          have hon := set2_only v9 p19 (.int .u64 0) (.int .u64 0)
          have B1910 : Hid (Blk ((v9.setCell ⟨p19, 0, none⟩ (.int .u64 0)).setCell ⟨p19, 1, none⟩ (.int .u64 0)) p19 24 #[.int .u64 0, .int .u64 0]) := Lib.hid ((B199.out.set_ 0 _).set_ 1 _)
          have NE := QN.out
          have B310 := Lib.hid (hon.keep B39.out (by omega))
          have B710 := Lib.hid (hon.keep B79.out (by omega))
          have B1110 := Lib.hid (hon.keep B119.out (by omega))
          have B1610 := Lib.hid (hon.keep B169.out (by omega))
          have HL10 := Lib.hid (HL9.out.only B199.out (by decide) (by decide) hon)
          have HW10 := Lib.hid (HW9.out.only B199.out (by decide) (by decide) hon)
          have Hf10 := Lib.hid (Hf9.out.only B199.out (by decide) (by decide) hon)
          have HZ10 := Lib.hid (HZ9.out.only B199.out (by decide) (by decide) hon)
          have Hc10 := Lib.hid (show Own ((v9.setCell ⟨p19, 0, none⟩ (.int .u64 0)).setCell ⟨p19, 1, none⟩ (.int .u64 0)) v7.heap.size Ac nc cc [] from ⟨World.ownsRow.only Hc9.out.1 B199.out (by decide) hon, Hc9.out.2⟩)
          have HB10 := Lib.hid (HB9.out.trans (hon.below (by omega)))
          clear hon NE
          generalize ((v9.setCell ⟨p19, 0, none⟩ (.int .u64 0)).setCell ⟨p19, 1, none⟩ (.int .u64 0)) = v10 at *
          have SE : Hid (∀ W b s, EoT W b s Af nf cf [] → Calls Try.prog 20 #[.slice Af nf cf, .slice none 0 0] W fun e w' => e = .returned (.bool true) ∧ Below W.heap.size W w') := Lib.hid (fun W b s ho => by
            have := sameentries_any Af none nf 0 cf 0 _ [] [] W ho.eo.read Es.none_ (Nat.le_refl _) (by have := ho.eo.len; simp at this; omega)
            rw [decide_eq_true rfl] at this
            exact this)
          obtain ⟨x0, x1, x2⟩ := B310.out.three
          obtain ⟨y0, y1⟩ := B1110.out.two
          obtain ⟨u0, u1⟩ := B1610.out.two
          obtain ⟨z0, z1⟩ := B1910.out.two
          have q1 := Hc10.out.by.bytesIn.convert (P := Try.prog) Hc10.out.len cc 52 5 9 Try.underlying52 Try.underlying5 Try.underlying9
          have q2 := (By.none_ (w := v10) (B := 0) (A := none)).bytesIn.convert (P := Try.prog) rfl 0 52 5 9 Try.underlying52 Try.underlying5 Try.underlying9
          go_wp2_with (first | (go_at_call 37; refine (HA.out v10 _ _ HL10.out).mono ?_; rintro e v11 ⟨rfl, hb⟩; have B311 := Lib.hid (B310.out.below hb B310.out.lt); have B711 := Lib.hid (B710.out.below hb B710.out.lt); have B1111 := Lib.hid (B1110.out.below hb B1110.out.lt); have HL11 := Lib.hid (EoT.below HL10.out hb); have HW11 := Lib.hid (EoT.below HW10.out hb); have Hf11 := Lib.hid (EoT.below Hf10.out hb); have HZ11 := Lib.hid (EoT.below HZ10.out hb); have HB11 := Lib.hid (HB10.out.trans (hb.mono HB10.out.size)); skip; have Hc11 := Lib.hid (Hc10.out.below hb); clear hb x0 x1 x2 y0 y1 u0 u1 z0 z1 q1 q2) | (go_at_call 20; refine (SE.out v11 _ _ Hf11.out).mono ?_; rintro e v12 ⟨rfl, hb⟩; have B312 := Lib.hid (B311.out.below hb B311.out.lt); have B712 := Lib.hid (B711.out.below hb B711.out.lt); have B1112 := Lib.hid (B1111.out.below hb B1111.out.lt); have HL12 := Lib.hid (EoT.below HL11.out hb); have HW12 := Lib.hid (EoT.below HW11.out hb); have Hf12 := Lib.hid (EoT.below Hf11.out hb); have HZ12 := Lib.hid (EoT.below HZ11.out hb); have HB12 := Lib.hid (HB11.out.trans (hb.mono HB11.out.size)); have Hc12 := Lib.hid (Hc11.out.below hb); clear hb))
          have hb : Below v12.heap.size v12 v12.drew := (Below.refl _ _).drew
          have B313 := Lib.hid (B312.out.below hb B312.out.lt)
          have B713 := Lib.hid (B712.out.below hb B712.out.lt)
          have B1113 := Lib.hid (B1112.out.below hb B1112.out.lt)
          have HL13 := Lib.hid (EoT.below HL12.out hb)
          have HW13 := Lib.hid (EoT.below HW12.out hb)
          have Hf13 := Lib.hid (EoT.below Hf12.out hb)
          have HZ13 := Lib.hid (EoT.below HZ12.out hb)
          have HB13 := Lib.hid (HB12.out.trans (hb.mono HB12.out.size))
          have Hc13 := Lib.hid (Hc12.out.below hb)
          clear hb
          obtain ⟨b0, o0, i0, t0, hA0, hb0, _, _, d0, d1⟩ := H.out.at_ (j := 0) (by have := HK.out.2; omega) HB13.out
          injection hA0 with hA0
          injection hA0 with e1 e2 _
          subst e1 e2
          rw [Nat.zero_mul, Nat.add_zero] at d0 d1
          have kN : 0 < pn := by have := HK.out.2; omega
          have NA := Lib.hid (Newer_any pi pt i0 t0)
          have RN := Lib.hid (refnewer_any pi pt i0 t0)
          generalize rNewer pi pt i0 t0 = NW at *
          have hbl : b < v12.drew.heap.size := by have := HB13.out.size; omega
          have hS0 := And.intro B1113.out.two (And.intro d0 d1)
          clear hb0
          refine wp_region_noPanic ?_
          refine wp_region_held_drew (S := fun w' => (w'.cell? ⟨p11, 0, none⟩ = some (.int .u64 pi) ∧ w'.cell? ⟨p11, 1, none⟩ = some (.int .u64 pt)) ∧ (w'.cell? ⟨b, o, none⟩ = some (.int .u64 i0) ∧ w'.cell? ⟨b, o + 1, none⟩ = some (.int .u64 t0))) (by kernel_rfl) hS0 (fun hHeld => ?_)
          generalize v12.drew = v13 at *
          refine take_d (i := 0) (d := 170) (v := ?nf170) rfl rfl (by kernel_rfl) (by kernel_rfl) (by kernel_rfl) (fun _ _ _ h => h) (Or.inl ⟨by kernel_rfl, ?nf170h⟩) hHeld ?nf170n
          case nf170h => (intro w hSw; (try dsimp only at hSw); go_split_ands; go_simp; (try exact rfl))
          try simp only [Act.put, List.setIfInBounds_toArray, List.set_cons_zero, List.set_cons_succ]
          refine take_d (i := 1) (d := 171) (v := ?nf171) rfl rfl (by kernel_rfl) (by kernel_rfl) (by kernel_rfl) (fun _ _ _ h => h) (Or.inl ⟨by kernel_rfl, ?nf171h⟩) hHeld ?nf171n
          case nf171h => (intro w hSw; (try dsimp only at hSw); go_split_ands; go_simp; (try exact rfl))
          try simp only [Act.put, List.setIfInBounds_toArray, List.set_cons_zero, List.set_cons_succ]
          refine take_d (i := 2) (d := 172) (v := ?nf172) rfl rfl (by kernel_rfl) (by kernel_rfl) (by kernel_rfl) (fun _ _ _ h => h) (Or.inl ⟨by kernel_rfl, ?nf172h⟩) hHeld ?nf172n
          case nf172h => (intro w hSw; (try dsimp only at hSw); go_split_ands; go_simp; (try exact rfl))
          try simp only [Act.put, List.setIfInBounds_toArray, List.set_cons_zero, List.set_cons_succ]
          refine take_d (i := 3) (d := 173) (v := ?nf173) rfl rfl (by kernel_rfl) (by kernel_rfl) (by kernel_rfl) (fun _ _ _ h => h) (Or.inl ⟨by kernel_rfl, ?nf173h⟩) hHeld ?nf173n
          case nf173h => (intro w hSw; (try dsimp only at hSw); go_split_ands; go_simp; (try exact rfl))
          try simp only [Act.put, List.setIfInBounds_toArray, List.set_cons_zero, List.set_cons_succ]
          refine take_d (i := 5) (d := 175) (v := ?nf175) rfl rfl (by kernel_rfl) (by kernel_rfl) (by kernel_rfl) (fun _ _ _ h => h) (Or.inl ⟨by kernel_rfl, ?nf175h⟩) hHeld ?nf175n
          case nf175h => (intro w hSw; (try dsimp only at hSw); go_split_ands; go_simp; (try exact rfl))
          try simp only [Act.put, List.setIfInBounds_toArray, List.set_cons_zero, List.set_cons_succ]
          refine take_d (i := 6) (d := 176) (v := ?nf176) rfl rfl (by kernel_rfl) (by kernel_rfl) (by kernel_rfl) (fun _ _ _ h => h) (Or.inl ⟨by kernel_rfl, ?nf176h⟩) hHeld ?nf176n
          case nf176h => (intro w hSw; (try dsimp only at hSw); go_split_ands; go_simp; (try exact rfl))
          try simp only [Act.put, List.setIfInBounds_toArray, List.set_cons_zero, List.set_cons_succ]
          refine take_d (i := 7) (d := 177) (v := ?nf177) rfl rfl (by kernel_rfl) (by kernel_rfl) (by kernel_rfl) (fun _ _ _ h => h) (Or.inl ⟨by kernel_rfl, ?nf177h⟩) hHeld ?nf177n
          case nf177h => (intro w hSw; (try dsimp only at hSw); go_split_ands; go_simp; (try exact rfl))
          try simp only [Act.put, List.setIfInBounds_toArray, List.set_cons_zero, List.set_cons_succ]
          refine take_d (i := 8) (d := 178) (v := ?nf178) rfl rfl (by kernel_rfl) (by kernel_rfl) (by kernel_rfl) (fun _ _ _ h => h) (Or.inl ⟨by kernel_rfl, ?nf178h⟩) hHeld ?nf178n
          case nf178h => (intro w hSw; (try dsimp only at hSw); go_split_ands; go_simp; (try exact rfl))
          try simp only [Act.put, List.setIfInBounds_toArray, List.set_cons_zero, List.set_cons_succ]
          refine wpAnyH_ready (rs := [4]) (by kernel_rfl) (by simp) ?_
          refine AllReadyH.cons rfl (fun K hK => ?_) AllReadyH.nil
          go_simp
          refine (NA.out v13).mono ?_
          rintro e v14 ⟨rfl, hb⟩
          have B314 := Lib.hid (B313.out.below hb B313.out.lt)
          have B714 := Lib.hid (B713.out.below hb B713.out.lt)
          have B1114 := Lib.hid (B1113.out.below hb B1113.out.lt)
          have HL14 := Lib.hid (EoT.below HL13.out hb)
          have HW14 := Lib.hid (EoT.below HW13.out hb)
          have Hf14 := Lib.hid (EoT.below Hf13.out hb)
          have HZ14 := Lib.hid (EoT.below HZ13.out hb)
          have HB14 := Lib.hid (HB13.out.trans (hb.mono HB13.out.size))
          have Hc14 := Lib.hid (Hc13.out.below hb)
          have d2 := And.intro ((hb.cell (p := ⟨b, o, none⟩) hbl).trans d0) ((hb.cell (p := ⟨b, o + 1, none⟩) hbl).trans d1)
          have hbl2 : b < v14.heap.size := Nat.lt_of_lt_of_le hbl hb.size
          clear hb
          refine hK.out _ _ (And.intro B1114.out.two d2) (fun hHeld => ?_)
          clear hK K
          try simp only [Act.put, List.setIfInBounds_toArray, List.set_cons_zero, List.set_cons_succ]
          refine wpAnyH_ready (rs := [9]) (by kernel_rfl) (by simp) ?_
          refine AllReadyH.cons rfl (fun K hK => ?_) AllReadyH.nil
          go_simp
          refine (RN.out v14).mono ?_
          rintro e v15 ⟨rfl, hb⟩
          have B315 := Lib.hid (B314.out.below hb B314.out.lt)
          have B715 := Lib.hid (B714.out.below hb B714.out.lt)
          have B1115 := Lib.hid (B1114.out.below hb B1114.out.lt)
          have HL15 := Lib.hid (EoT.below HL14.out hb)
          have HW15 := Lib.hid (EoT.below HW14.out hb)
          have Hf15 := Lib.hid (EoT.below Hf14.out hb)
          have HZ15 := Lib.hid (EoT.below HZ14.out hb)
          have HB15 := Lib.hid (HB14.out.trans (hb.mono HB14.out.size))
          have Hc15 := Lib.hid (Hc14.out.below hb)
          have d3 := And.intro ((hb.cell (p := ⟨b, o, none⟩) hbl2).trans d2.1) ((hb.cell (p := ⟨b, o + 1, none⟩) hbl2).trans d2.2)
          clear hb
          refine hK.out _ _ (And.intro B1115.out.two d3) (fun hHeld => ?_)
          clear hK K
          try simp only [Act.put, List.setIfInBounds_toArray, List.set_cons_zero, List.set_cons_succ]
          refine take_d (i := 10) (d := 180) (v := .bool false) rfl rfl (by kernel_rfl) (by kernel_rfl) (by kernel_rfl) (fun _ _ _ h => h) (Or.inl ⟨by kernel_rfl, ?nf180h⟩) hHeld ?_
          case nf180h => (intro w hSw; (try dsimp only at hSw); go_split_ands; go_simp)
          try simp only [Act.put, List.setIfInBounds_toArray, List.set_cons_zero, List.set_cons_succ]
          refine wpAnyH_done (by kernel_rfl) ?_ _
          refine NoPanic.normal ?_
          clear d0 d1 d2 d3 hS0 hbl hbl2 kN NA RN
          go_wp2_with fail
          refine (over_any 0 0 Af nf cf _ _ [] v15 Hf15.out (by have := Hf15.out.eo.len; simp at this; omega)).mono ?_
          rintro e v16 ⟨rfl, ho⟩
          have B316 := Lib.hid (ho.keep B315.out (by have := QS.out; omega))
          have B716 := Lib.hid (ho.keep B715.out (by have := QS.out; omega))
          have HL16 := Lib.hid (HL15.out.outs ho (by have := QS.out; omega))
          have HW16 := Lib.hid (HW15.out.outs ho (by have := QS.out; omega))
          have Hc16 := Lib.hid (Own.outs Hc15.out ho (by have := QX7.out; omega))
          have HZ16 := Lib.hid (HZ15.out.outs ho (Or.inr (by have := QX7.out; omega)))
          have HB16 := Lib.hid (HB15.out.trans ((ho.below (by have := Hf15.out.1; have := QX.out; omega)).mono (by have := QS.out; omega)))
          clear ho
          have HNC := Lib.hid (show nc ≤ 100000 by have := Hc16.out.len; simp at this; omega)
          have HD : Hid (Dbs v16 v7.heap.size v16.heap.size Ac nc v16) := Lib.hid (Dbs.of Hc16.out)
          go_wp2_with fail
          go_loopw [186] (fun ix wr => ∃ j : Nat, j ≤ nc ∧ ix = .int .i64 j ∧ Dbs v16 v7.heap.size v16.heap.size Ac nc wr) (fun ix _ => nc - (intOf ix).toNat)
          case atStart => exact ⟨0, Nat.zero_le _, rfl, HD.out⟩
          case round =>
            obtain ⟨j, hj, rfl, hV⟩ := hrel
            by_cases hjt : j < nc
            · obtain ⟨bb, zs, rfl, e2, e3, e4, e5⟩ := hV.dat (by omega)
              obtain ⟨z, hz⟩ := e5 j hjt
              have z2 : wr.cell? ⟨bb, j, none⟩ = some (.int .u8 z) := (e4.cell _).trans hz
              have z3 : wr.frozen? ⟨bb, j, none⟩ = false := e4.frozen _
              have HV := Lib.hid (fun v => hV.set5 e4 e2 e3 j v)
              have HJ := Lib.hid hjt
              have jI : ((j : Int) < (nc : Int)) := by omega
              have j0 : (0 : Int) ≤ (j : Int) := by omega
              clear hV e2 e3 e4 e5 hz hj
              clear zs
              have j64 : wrap64 ((j : Int) + 1) = (j : Int) + 1 := by rw [wrap64_e]; have := HNC.out; omega
              go_wp2
              go_roundw
              case rel => exact ⟨j + 1, HJ.out, (by first | (rw [j64]; rfl) | go_num), HV.out _⟩
              case measure => (try rw [j64]); clear j64; simp [intOf]; omega
            · have jI : ¬ ((j : Int) < (nc : Int)) := by omega
              have ho := hV.out
              generalize wr = vz at *
              have B3z := Lib.hid (ho.keep B316.out (by have := QC8.out; omega))
              have B7z := Lib.hid (ho.keep B716.out (by have := QC8.out; omega))
              have HLz := Lib.hid (HL16.out.outs ho (by have := QC8.out; omega))
              have HWz := Lib.hid (HW16.out.outs ho (by have := QC8.out; omega))
              have HBz := Lib.hid (HB16.out.trans ((ho.below (by have := HZ16.out.1; have := QZ.out; omega)).mono (by have := QC8.out; omega)))
              clear ho hV
              obtain ⟨x0, x1, x2⟩ := B3z.out.three
              obtain ⟨y0, y1, y2⟩ := B7z.out.three
              go_wp2_with fail
              clear x0 x1 x2 y0 y1 y2
              refine (RS.out vz _ _ _ _ _ _ _ _ HLz.out.eo HWz.out.eo).mono ?_
              rintro e vy ⟨rfl, hb⟩
              have B3y := Lib.hid (B3z.out.below hb B3z.out.lt)
              have B7y := Lib.hid (B7z.out.below hb B7z.out.lt)
              have HLy := Lib.hid (EoT.below HLz.out hb)
              have HWy := Lib.hid (EoT.below HWz.out hb)
              have HBy := Lib.hid (HBz.out.trans (hb.mono HBz.out.size))
              clear hb
              have j64 : wrap64 ((k : Int) + 1) = (k : Int) + 1 := by rw [wrap64_e]; have := HK.out; omega
              go_wp2
              go_roundw
              case rel => exact ⟨k + 1, HK.out.2, HK.out.1, (by first | (rw [j64]; rfl) | go_num), HBy.out, B3y.out, B7y.out, HLy.out, HWy.out⟩
              case measure => (try rw [j64]); clear j64; simp [intOf]; have := HK.out.2; omega
      · have kI : ¬ ((k : Int) < (pn : Int)) := by omega
        go_wp2
        go_ret
        exact ⟨rfl, HB0.out⟩

end Go.Proofs.Ytmgaihdepglahaa
