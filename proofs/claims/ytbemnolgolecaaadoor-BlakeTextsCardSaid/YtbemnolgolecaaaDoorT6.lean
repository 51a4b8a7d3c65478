/-
  The law BlakeTexts, walked.
-/
import Derived.Test.YtbemnolgolecaaaDoorT4
import Derived.Test.YtbemnolgolecaaaDoorT5
import Derived.Test.YtbemnolgolecaaaDoorC4
import Derived.Test.YtbemnolgolecaaaDoorL1
import Derived.Deep.RegionHeld3
namespace Go.Proofs.YtbemnolgolecaaaDoor
open Go.RowKit
attribute [local go_sem ↓] Tryd.z42 Tryd.z70 Tryd.z27 Tryd.z45 Tryd.z37 Tryd.z38

/-- A slice of n digests. -/
def Ids (w : World) (B : Nat) (A : Option Addr) (n : Nat) : Prop := 0 < n → ∃ b o, A = some ⟨b, o, none⟩ ∧ b < B ∧ ∀ i, i < n → ∃ zs : List Int, zs.length = 32 ∧ Bs zs ∧ w.rangeAt b (o + i * 32) (BL zs)
/-- A slice of n texts. -/
def Txts (w : World) (B : Nat) (A : Option Addr) (n : Nat) : Prop := 0 < n → ∃ b o, A = some ⟨b, o, none⟩ ∧ b < B ∧ ∀ i, i < n → ∃ s : ByteArray, w.cell? ⟨b, o + i, none⟩ = some (.string s) ∧ s.size ≤ 9223372036854775807
theorem Ids.below {w w' : World} {B n : Nat} {A : Option Addr} (h : Ids w B A n) (hb : Below B w w') : Ids w' B A n := fun hn => by
  obtain ⟨b, o, hA, hB, hc⟩ := h hn
  refine ⟨b, o, hA, hB, fun i hi => ?_⟩
  obtain ⟨zs, hl, hz, hr⟩ := hc i hi
  exact ⟨zs, hl, hz, fun j v hj => (hb.cell (p := ⟨b, o + i * 32 + j, none⟩) hB).trans (hr j v hj)⟩
theorem Txts.below {w w' : World} {B n : Nat} {A : Option Addr} (h : Txts w B A n) (hb : Below B w w') : Txts w' B A n := fun hn => by
  obtain ⟨b, o, hA, hB, hc⟩ := h hn
  refine ⟨b, o, hA, hB, fun i hi => ?_⟩
  obtain ⟨s, hs, hl⟩ := hc i hi
  exact ⟨s, (hb.cell (p := ⟨b, o + i, none⟩) hB).trans hs, hl⟩
structure XT (w0 : World) (A : Option Addr) (n : Nat) (A' : Option Addr) (n' : Nat) (w : World) : Prop where
  below : Below w0.heap.size w0 w
  ids : Ids w w0.heap.size A n
  txts : Txts w w0.heap.size A' n'
theorem XT.low {w0 w w' : World} {A A' : Option Addr} {n n' : Nat} (s : XT w0 A n A' n' w) (hb : Below w.heap.size w w') : XT w0 A n A' n' w' :=
  ⟨s.below.trans (hb.mono s.below.size), s.ids.below (hb.mono s.below.size), s.txts.below (hb.mono s.below.size)⟩
theorem XT.drew {w0 w : World} {A A' : Option Addr} {n n' : Nat} (s : XT w0 A n A' n' w) : XT w0 A n A' n' w.drew := ⟨s.below.drew, s.ids, s.txts⟩
/-- The digest that is looked at, and the first one. -/
structure YT (w0 : World) (A : Option Addr) (n : Nat) (A' : Option Addr) (n' : Nat) (gt : Nat) (a : List Int) (b o : Nat) (z : List Int) (w : World) : Prop where
  xt : XT w0 A n A' n' w
  blk : Blk w gt 27 (BL a).toArray
  rz : w.rangeAt b o (BL z)
  hb : b < w.heap.size
theorem YT.low {w0 w w' : World} {A A' : Option Addr} {n n' gt b o : Nat} {a z : List Int} (s : YT w0 A n A' n' gt a b o z w) (hb : Below w.heap.size w w') : YT w0 A n A' n' gt a b o z w' :=
  ⟨s.xt.low hb, s.blk.below hb s.blk.lt, fun j v hj => (hb.cell (p := ⟨b, o + j, none⟩) s.hb).trans (s.rz j v hj), Nat.lt_of_lt_of_le s.hb hb.size⟩
theorem YT.drew {w0 w : World} {A A' : Option Addr} {n n' gt b o : Nat} {a z : List Int} (s : YT w0 A n A' n' gt a b o z w) : YT w0 A n A' n' gt a b o z w.drew := ⟨s.xt.drew, s.blk, s.rz, s.hb⟩

/-- Number i is taken first; its slot is told. -/
theorem take_d {P : Program} {ops : Array Oper} {Q : Exit → Act → World → Prop} {md : Region.Mode} {S : World → Prop} {i : Nat} {d : Tmp} {oi : Oper} {v : Value} {fuel : Nat} {listed : Array Bool} {a : Act} {w : World} (hi : ops[i]? = some oi) (hd : oi.dst = some d)
    (hs : Region.noSelect ops = true) (hf : Region.free md ops listed i = true) (hr : (Region.ready md ops listed).contains i = true)
    (hQ : ∀ c a w, Q (.panic c) (a.put (some d) v) w → Q (.panic c) a w) (hy : YieldsIf P ops S oi v a) (hS : S w)
    (h : wpAnyH P md ops Q S fuel (listed.setIfInBounds i true) (a.put (some d) v) w) : wpAnyH P md ops Q S (fuel + 1) listed a w :=
  wpAnyH_take hi hs hf hr (by rw [hd]; exact hQ) hy hS (by rw [hd]; exact h)

theorem parse_both (s : ByteArray) : ∃ id er ok, (∀ w, Calls Tryd.prog 28 #[.string s] w (Parsed w id er)) ∧ (∀ w, Calls Tryd.prog 29 #[.string s] w (RParsed w id ok)) ∧ id.length = 32 ∧ ((ok = true ∧ er = 0) ∨ (ok = false ∧ er = 130)) := by
  by_cases hs : s.size = 64
  · refine ⟨pId s, pEr s, decide (okd s 32), fun w => parse_64 s hs w, fun w => refparse_64 s hs w, ?_, ?_⟩
    · unfold pId
      split
      · exact ofd_len _ _
      · rfl
    · by_cases ok : okd s 32
      · exact .inl ⟨decide_eq_true ok, if_pos ok⟩
      · exact .inr ⟨decide_eq_false ok, if_neg ok⟩
  · exact ⟨Z32, 130, false, fun w => parse_len s hs w, fun w => refparse_len s hs w, rfl, .inr ⟨rfl, rfl⟩⟩

set_option linter.unusedSimpArgs false in
set_option maxRecDepth 100000 in
set_option maxHeartbeats 4000000 in
theorem texts_walk (A : Option Addr) (n c : Nat) (A' : Option Addr) (n' c' : Nat) (w : World) (hI : Ids w w.heap.size A n) (hn : n ≤ 9223372036854775807) (hT : Txts w w.heap.size A' n') (hn' : n' ≤ 9223372036854775807) (hG : Gl w) :
    Calls Tryd.prog 6 #[.slice A n c, .slice A' n' c'] w fun e w' => e = .returned (.bool true) ∧ Below w.heap.size w w' := by
  have X0 : Hid (XT w A n A' n' w) := ⟨Below.refl _ w, hI, hT⟩
  have WK := Lib.hid (wakes_any w hG)
  clear hI hT hG
  go_enter Tryd.func6, Tryd.ntmps6
  go_wp2_with fail
  refine WK.out.mono ?_
  rintro e w1 ⟨rfl, hb1⟩
  have X1 := Lib.hid (X0.out.low hb1)
  clear WK X0 hb1
  go_wp2_with fail
  go_loopw [17] (fun i wr => ∃ k : Nat, k ≤ n ∧ k ≤ 12 ∧ i = .int .i64 k ∧ XT w A n A' n' wr) (fun i _ => 12 - (intOf i).toNat)
  case atStart => exact ⟨0, Nat.zero_le _, Nat.zero_le _, rfl, X1.out⟩
  case round =>
    obtain ⟨k, hk, hk12, rfl, hx⟩ := hrel
    have X := Lib.hid hx
    clear X1 hx
    by_cases hlt : k < n
    · have kI : (k : Int) < n := by omega
      have n0 : (0 : Int) < n := by omega
      have n1 : ¬ n = 0 := by omega
      obtain ⟨b, o, hA, hbB, hc⟩ := X.out.ids (by omega)
      obtain ⟨a, ha, ba, hr⟩ := hc k hlt
      obtain ⟨z, hz, bz, hr0⟩ := hc 0 (by omega)
      rw [Nat.zero_mul, Nat.add_zero] at hr0
      have HR := Lib.hid hr
      have HR0 := Lib.hid hr0
      have hA0 := Lib.hid hA
      subst hA
      have iA : Hid ((Tryd.prog.info? 27).map (·.size) = some (BL a).length) := show _ = _ by rw [BL.len, ha]; exact Tryd.i27
      have iZ : Hid ((Tryd.prog.info? 27).map (·.size) = some (BL z).length) := show _ = _ by rw [BL.len, hz]; exact Tryd.i27
      have zA : Hid ((ZB 32).toArray.size = (BL a).length) := show _ = _ by rw [BL.len, ha]; rfl
      have oA := Lib.hid (BL.one a)
      have TA := Lib.hid (fun w => text_any a ha ba w)
      have TB := Lib.hid (fun w => reftext_any a ha ba w)
      have L1 := Lib.hid (fun w => less_any a z ha hz w)
      have L2 := Lib.hid (fun w => refless_any a z ha hz ba bz w)
      have L3 := Lib.hid (fun w => less_any z a hz ha w)
      have L4 := Lib.hid (fun w => refless_any z a hz ha bz ba w)
      generalize strOfNums (textF a) = t at *
      generalize decide (cmpL a z < 0) = p at *
      generalize decide (cmpL z a < 0) = q at *
      have HB := Lib.hid hbB
      clear hc hr hr0 ha hz ba bz hbB hA0
      by_cases h12 : k = 12
      · have h12b : ((k : Int) == 12) = true := by simp; omega
        clear h12
        go_wp2_with (first
          | ((with_reducible refine at_load (t := 27) ?_); refine wpList_load_mid rfl 27 _ rfl b (o + k * 32) rfl (BL a) _ HR.out Tryd.underlying27 rfl iA.out ?_)
          | ((with_reducible refine at_store (t := 27) ?_); refine wpList_store_blk _ rfl 27 _ _ rfl wr.heap.size (ZB 32).toArray 27 (BL a) rfl rfl (Blk.new wr 27 _) zA.out iA.out oA.out ?_; intro w2 hb2 ho2; have NB := Lib.hid (((Below.refl _ wr).alloc (Nat.le_refl _) (.cells (ZB 32).toArray 27)).trans (ho2.below (Nat.le_refl _))); have X2 := Lib.hid (X.out.low NB.out); clear X hb2 ho2 NB HR HR0))
        have X := X2
        clear X2
        generalize (some ⟨b, o, none⟩ : Option Addr) = A at *
        go_wp2_with fail
        go_loopw [58] (fun i wr => ∃ k : Nat, k ≤ n' ∧ k ≤ 12 ∧ i = .int .i64 k ∧ XT w A n A' n' wr) (fun i _ => 12 - (intOf i).toNat)
        case atStart => exact ⟨0, Nat.zero_le _, Nat.zero_le _, rfl, X.out⟩
        case round =>
          obtain ⟨k, hk, hk12, rfl, hx⟩ := hrel
          have X9 := Lib.hid hx
          clear X hx
          by_cases hlt : k < n'
          · have kI : (k : Int) < n' := by omega
            obtain ⟨b, o, hA, hbB, hc⟩ := X9.out.txts (by omega)
            obtain ⟨s, hs, hsl⟩ := hc k hlt
            have hA0 := Lib.hid hA
            subst hA
            clear hc hA0
            by_cases h12 : k = 12
            · have h12b : ((k : Int) == 12) = true := by simp; omega
              clear h12
              go_wp2_with fail
              go_ret
              exact ⟨rfl, X9.out.below⟩
            · have h12' : ¬ ((k : Int) = 12) := by omega
              have h12b : ((k : Int) == 12) = false := by simp; omega
              go_wp2_with fail
              generalize s.extract 0 (min (s.size : Int) 100).toNat = s1 at *
              obtain ⟨id, er, ok, P1, P2, hil, hcase⟩ := parse_both s1
              have Q1 := Lib.hid (P1 wr)
              have Q2 := Lib.hid P2
              have C4 := Lib.hid hcase
              have iI : Hid ((Tryd.prog.info? 27).map (·.size) = some (BL id).length) := show _ = _ by rw [BL.len, hil]; exact Tryd.i27
              have zI : Hid ((ZB 32).toArray.size = (BL id).length) := show _ = _ by rw [BL.len, hil]; rfl
              have oI := Lib.hid (BL.one id)
              have hne := fun w => ne27 w id id hil hil
              clear P1 P2 hil hcase
              refine Q1.out.mono ?_
              rintro e w3 ⟨rfl, k3⟩
              have X3 := Lib.hid (X9.out.low k3)
              clear Q1 X9 k3
              go_wp2_with ((with_reducible refine at_store (t := 27) ?_); refine wpList_store_blk _ rfl 27 _ _ rfl w3.heap.size (ZB 32).toArray 27 (BL id) rfl rfl (Blk.new w3 27 _) zI.out iI.out oI.out ?_; intro w4 hb4 ho4; have X4 := Lib.hid (X3.out.low (((Below.refl _ w3).alloc (Nat.le_refl _) (.cells (ZB 32).toArray 27)).trans (ho4.below (Nat.le_refl _)))); have B4 := Lib.hid hb4; clear X3 hb4 ho4)
              generalize w3.heap.size = g3 at *
              refine (Q2.out _).mono ?_
              rintro e w5 ⟨rfl, k5⟩
              have X5 := Lib.hid (X4.out.low k5)
              have B5 := Lib.hid (B4.out.below k5 B4.out.lt)
              clear Q2 X4 B4 k5
              rcases C4.out with ⟨rfl, rfl⟩ | ⟨rfl, rfl⟩
              all_goals
                (go_wp2_with (first
                   | ((with_reducible refine at_store (t := 27) ?_); refine wpList_store_blk _ rfl 27 _ _ rfl w5.heap.size (ZB 32).toArray 27 (BL id) rfl rfl (Blk.new w5 27 _) zI.out iI.out oI.out ?_; intro w6 hb6 ho6; have X6 := Lib.hid (X5.out.low (((Below.refl _ w5).alloc (Nat.le_refl _) (.cells (ZB 32).toArray 27)).trans (ho6.below (Nat.le_refl _)))); have B6 := Lib.hid hb6; have B7 := Lib.hid (ho6.keep (B5.out.alloc _) (by have := B5.out.lt; omega)); clear X5 B5 hb6 ho6; generalize w5.heap.size = g5 at *)
                   | ((with_reducible refine at_load (t := 27) ?_); refine wpList_load_mid rfl 27 _ rfl g3 0 rfl (BL id) _ B7.out.rng Tryd.underlying27 rfl iI.out ?_)
                   | ((with_reducible refine at_load (t := 27) ?_); refine wpList_load_mid rfl 27 _ rfl g5 0 rfl (BL id) _ B6.out.rng Tryd.underlying27 rfl iI.out ?_))
                 exact ⟨⟨k + 1, by omega, by omega, by go_num, X6.out⟩, by simp [intOf]; omega⟩)
          · have kI : ¬ ((k : Int) < n') := by omega
            go_wp2_with fail
            go_ret
            exact ⟨rfl, X9.out.below⟩
      · have h12' : ¬ ((k : Int) = 12) := by omega
        have h12b : ((k : Int) == 12) = false := by simp; omega
        go_wp2_with (first
          | ((with_reducible refine at_load (t := 27) ?_); refine wpList_load_mid rfl 27 _ rfl b (o + k * 32) rfl (BL a) _ HR.out Tryd.underlying27 rfl iA.out ?_)
          | ((with_reducible refine at_store (t := 27) ?_); refine wpList_store_blk _ rfl 27 _ _ rfl wr.heap.size (ZB 32).toArray 27 (BL a) rfl rfl (Blk.new wr 27 _) zA.out iA.out oA.out ?_; intro w2 hb2 ho2; have NB := Lib.hid (((Below.refl _ wr).alloc (Nat.le_refl _) (.cells (ZB 32).toArray 27)).trans (ho2.below (Nat.le_refl _))); have X2 : Hid (YT w (some ⟨b, o, none⟩) n A' n' wr.heap.size a b o z w2) := ⟨X.out.low NB.out, hb2, fun j v hj => (NB.out.cell (p := ⟨b, o + j, none⟩) (Nat.lt_of_lt_of_le HB.out X.out.below.size)).trans (HR0.out j v hj), Nat.lt_of_lt_of_le (Nat.lt_of_lt_of_le HB.out X.out.below.size) NB.out.size⟩; clear X hb2 ho2 NB HR HR0))
        generalize wr.heap.size = gt at *
        have X1 := Lib.hid X2.out.drew
        clear X2
        have X2 := X1
        clear X1
        have hS0 : w2.drew.rangeAt gt 0 (BL a) ∧ w2.drew.rangeAt b o (BL z) := ⟨X2.out.blk.rng, X2.out.rz⟩
        refine wp_region_noPanic ?_
        refine wp_region_held_drew (S := fun w' => w'.rangeAt gt 0 (BL a) ∧ w'.rangeAt b o (BL z)) (by kernel_rfl) hS0 (fun hHeld => ?_)
        refine take_d (i := 0) (d := 24) (v := .agg (BL a).toArray) rfl rfl (by kernel_rfl) (by kernel_rfl) (by kernel_rfl) (fun _ _ _ h => h) (yieldsIf_load_mid (by kernel_rfl) _ _ rfl _ _ rfl _ _ (fun w h => h.1) Tryd.underlying27 rfl iA.out) hHeld ?_
        try simp only [Act.put, List.setIfInBounds_toArray, List.set_cons_zero, List.set_cons_succ]
        refine take_d (i := 2) (d := 26) (v := .agg (BL a).toArray) rfl rfl (by kernel_rfl) (by kernel_rfl) (by kernel_rfl) (fun _ _ _ h => h) (yieldsIf_load_mid (by kernel_rfl) _ _ rfl _ _ rfl _ _ (fun w h => h.1) Tryd.underlying27 rfl iA.out) hHeld ?_
        try simp only [Act.put, List.setIfInBounds_toArray, List.set_cons_zero, List.set_cons_succ]
        refine wpAnyH_ready (rs := [1]) (by kernel_rfl) (by simp) ?_
        refine AllReadyH.cons rfl (fun K hK => ?_) AllReadyH.nil
        go_simp
        with_reducible refine (TA.out _).mono ?_
        rintro e w3 ⟨rfl, k3⟩
        have X3 := Lib.hid (X2.out.low k3)
        refine hK.out _ _ ⟨X3.out.blk.rng, X3.out.rz⟩ (fun hHeld => ?_)
        clear hK K k3 X2
        try simp only [Act.put, List.setIfInBounds_toArray, List.set_cons_zero, List.set_cons_succ]
        refine wpAnyH_ready (rs := [3]) (by kernel_rfl) (by simp) ?_
        refine AllReadyH.cons rfl (fun K hK => ?_) AllReadyH.nil
        go_simp
        with_reducible refine (TB.out _).mono ?_
        rintro e w4 ⟨rfl, k4⟩
        have X4 := Lib.hid (X3.out.low k4)
        refine hK.out _ _ ⟨X4.out.blk.rng, X4.out.rz⟩ (fun hHeld => ?_)
        clear hK K k4 X3
        try simp only [Act.put, List.setIfInBounds_toArray, List.set_cons_zero, List.set_cons_succ]
        refine take_d (i := 4) (d := 28) (v := .bool false) rfl rfl (by kernel_rfl) (by kernel_rfl) (by kernel_rfl) (fun _ _ _ h => h) (Or.inl ⟨by kernel_rfl, fun w hSw => by go_simp⟩) hHeld ?_
        try simp only [Act.put, List.setIfInBounds_toArray, List.set_cons_zero, List.set_cons_succ]
        refine take_d (i := 5) (d := 29) (v := .bool false) rfl rfl (by kernel_rfl) (by kernel_rfl) (by kernel_rfl) (fun _ _ _ h => h) (Or.inl ⟨by kernel_rfl, fun w hSw => by go_simp⟩) hHeld ?_
        try simp only [Act.put, List.setIfInBounds_toArray, List.set_cons_zero, List.set_cons_succ]
        refine take_d (i := 6) (d := 30) (v := .agg (BL a).toArray) rfl rfl (by kernel_rfl) (by kernel_rfl) (by kernel_rfl) (fun _ _ _ h => h) (yieldsIf_load_mid (by kernel_rfl) _ _ rfl _ _ rfl _ _ (fun w h => h.1) Tryd.underlying27 rfl iA.out) hHeld ?_
        try simp only [Act.put, List.setIfInBounds_toArray, List.set_cons_zero, List.set_cons_succ]
        refine take_d (i := 7) (d := 31) (v := .slice (some ⟨b, o, none⟩) n c) rfl rfl (by kernel_rfl) (by kernel_rfl) (by kernel_rfl) (fun _ _ _ h => h) (Or.inl ⟨by kernel_rfl, fun w hSw => by go_simp⟩) hHeld ?_
        try simp only [Act.put, List.setIfInBounds_toArray, List.set_cons_zero, List.set_cons_succ]
        refine take_d (i := 8) (d := 32) (v := .pointer (some ⟨b, o, none⟩)) rfl rfl (by kernel_rfl) (by kernel_rfl) (by kernel_rfl) (fun _ _ _ h => h) (Or.inl ⟨by kernel_rfl, fun w hSw => by go_simp⟩) hHeld ?_
        try simp only [Act.put, List.setIfInBounds_toArray, List.set_cons_zero, List.set_cons_succ]
        refine take_d (i := 9) (d := 33) (v := .agg (BL z).toArray) rfl rfl (by kernel_rfl) (by kernel_rfl) (by kernel_rfl) (fun _ _ _ h => h) (yieldsIf_load_mid (by kernel_rfl) _ _ rfl _ _ rfl _ _ (fun w h => h.2) Tryd.underlying27 rfl iZ.out) hHeld ?_
        try simp only [Act.put, List.setIfInBounds_toArray, List.set_cons_zero, List.set_cons_succ]
        refine take_d (i := 11) (d := 35) (v := .agg (BL a).toArray) rfl rfl (by kernel_rfl) (by kernel_rfl) (by kernel_rfl) (fun _ _ _ h => h) (yieldsIf_load_mid (by kernel_rfl) _ _ rfl _ _ rfl _ _ (fun w h => h.1) Tryd.underlying27 rfl iA.out) hHeld ?_
        try simp only [Act.put, List.setIfInBounds_toArray, List.set_cons_zero, List.set_cons_succ]
        refine take_d (i := 12) (d := 36) (v := .slice (some ⟨b, o, none⟩) n c) rfl rfl (by kernel_rfl) (by kernel_rfl) (by kernel_rfl) (fun _ _ _ h => h) (Or.inl ⟨by kernel_rfl, fun w hSw => by go_simp⟩) hHeld ?_
        try simp only [Act.put, List.setIfInBounds_toArray, List.set_cons_zero, List.set_cons_succ]
        refine take_d (i := 13) (d := 37) (v := .pointer (some ⟨b, o, none⟩)) rfl rfl (by kernel_rfl) (by kernel_rfl) (by kernel_rfl) (fun _ _ _ h => h) (Or.inl ⟨by kernel_rfl, fun w hSw => by go_simp⟩) hHeld ?_
        try simp only [Act.put, List.setIfInBounds_toArray, List.set_cons_zero, List.set_cons_succ]
        refine take_d (i := 14) (d := 38) (v := .agg (BL z).toArray) rfl rfl (by kernel_rfl) (by kernel_rfl) (by kernel_rfl) (fun _ _ _ h => h) (yieldsIf_load_mid (by kernel_rfl) _ _ rfl _ _ rfl _ _ (fun w h => h.2) Tryd.underlying27 rfl iZ.out) hHeld ?_
        try simp only [Act.put, List.setIfInBounds_toArray, List.set_cons_zero, List.set_cons_succ]
        refine wpAnyH_ready (rs := [10]) (by kernel_rfl) (by simp) ?_
        refine AllReadyH.cons rfl (fun K hK => ?_) AllReadyH.nil
        go_simp
        with_reducible refine (L1.out _).mono ?_
        rintro e w5 ⟨rfl, k5⟩
        have X5 := Lib.hid (X4.out.low k5)
        refine hK.out _ _ ⟨X5.out.blk.rng, X5.out.rz⟩ (fun hHeld => ?_)
        clear hK K k5 X4
        try simp only [Act.put, List.setIfInBounds_toArray, List.set_cons_zero, List.set_cons_succ]
        refine wpAnyH_ready (rs := [15]) (by kernel_rfl) (by simp) ?_
        refine AllReadyH.cons rfl (fun K hK => ?_) AllReadyH.nil
        go_simp
        with_reducible refine (L2.out _).mono ?_
        rintro e w6 ⟨rfl, k6⟩
        have X6 := Lib.hid (X5.out.low k6)
        refine hK.out _ _ ⟨X6.out.blk.rng, X6.out.rz⟩ (fun hHeld => ?_)
        clear hK K k6 X5
        try simp only [Act.put, List.setIfInBounds_toArray, List.set_cons_zero, List.set_cons_succ]
        refine take_d (i := 16) (d := 40) (v := .bool false) rfl rfl (by kernel_rfl) (by kernel_rfl) (by kernel_rfl) (fun _ _ _ h => h) (Or.inl ⟨by kernel_rfl, fun w hSw => by go_simp⟩) hHeld ?_
        try simp only [Act.put, List.setIfInBounds_toArray, List.set_cons_zero, List.set_cons_succ]
        refine take_d (i := 17) (d := 41) (v := .bool false) rfl rfl (by kernel_rfl) (by kernel_rfl) (by kernel_rfl) (fun _ _ _ h => h) (Or.inl ⟨by kernel_rfl, fun w hSw => by go_simp⟩) hHeld ?_
        try simp only [Act.put, List.setIfInBounds_toArray, List.set_cons_zero, List.set_cons_succ]
        refine take_d (i := 18) (d := 42) (v := .bool false) rfl rfl (by kernel_rfl) (by kernel_rfl) (by kernel_rfl) (fun _ _ _ h => h) (Or.inl ⟨by kernel_rfl, fun w hSw => by go_simp⟩) hHeld ?_
        try simp only [Act.put, List.setIfInBounds_toArray, List.set_cons_zero, List.set_cons_succ]
        refine take_d (i := 19) (d := 43) (v := .slice (some ⟨b, o, none⟩) n c) rfl rfl (by kernel_rfl) (by kernel_rfl) (by kernel_rfl) (fun _ _ _ h => h) (Or.inl ⟨by kernel_rfl, fun w hSw => by go_simp⟩) hHeld ?_
        try simp only [Act.put, List.setIfInBounds_toArray, List.set_cons_zero, List.set_cons_succ]
        refine take_d (i := 20) (d := 44) (v := .pointer (some ⟨b, o, none⟩)) rfl rfl (by kernel_rfl) (by kernel_rfl) (by kernel_rfl) (fun _ _ _ h => h) (Or.inl ⟨by kernel_rfl, fun w hSw => by go_simp⟩) hHeld ?_
        try simp only [Act.put, List.setIfInBounds_toArray, List.set_cons_zero, List.set_cons_succ]
        refine take_d (i := 21) (d := 45) (v := .agg (BL z).toArray) rfl rfl (by kernel_rfl) (by kernel_rfl) (by kernel_rfl) (fun _ _ _ h => h) (yieldsIf_load_mid (by kernel_rfl) _ _ rfl _ _ rfl _ _ (fun w h => h.2) Tryd.underlying27 rfl iZ.out) hHeld ?_
        try simp only [Act.put, List.setIfInBounds_toArray, List.set_cons_zero, List.set_cons_succ]
        refine take_d (i := 22) (d := 46) (v := .agg (BL a).toArray) rfl rfl (by kernel_rfl) (by kernel_rfl) (by kernel_rfl) (fun _ _ _ h => h) (yieldsIf_load_mid (by kernel_rfl) _ _ rfl _ _ rfl _ _ (fun w h => h.1) Tryd.underlying27 rfl iA.out) hHeld ?_
        try simp only [Act.put, List.setIfInBounds_toArray, List.set_cons_zero, List.set_cons_succ]
        refine take_d (i := 24) (d := 48) (v := .slice (some ⟨b, o, none⟩) n c) rfl rfl (by kernel_rfl) (by kernel_rfl) (by kernel_rfl) (fun _ _ _ h => h) (Or.inl ⟨by kernel_rfl, fun w hSw => by go_simp⟩) hHeld ?_
        try simp only [Act.put, List.setIfInBounds_toArray, List.set_cons_zero, List.set_cons_succ]
        refine take_d (i := 25) (d := 49) (v := .pointer (some ⟨b, o, none⟩)) rfl rfl (by kernel_rfl) (by kernel_rfl) (by kernel_rfl) (fun _ _ _ h => h) (Or.inl ⟨by kernel_rfl, fun w hSw => by go_simp⟩) hHeld ?_
        try simp only [Act.put, List.setIfInBounds_toArray, List.set_cons_zero, List.set_cons_succ]
        refine take_d (i := 26) (d := 50) (v := .agg (BL z).toArray) rfl rfl (by kernel_rfl) (by kernel_rfl) (by kernel_rfl) (fun _ _ _ h => h) (yieldsIf_load_mid (by kernel_rfl) _ _ rfl _ _ rfl _ _ (fun w h => h.2) Tryd.underlying27 rfl iZ.out) hHeld ?_
        try simp only [Act.put, List.setIfInBounds_toArray, List.set_cons_zero, List.set_cons_succ]
        refine take_d (i := 27) (d := 51) (v := .agg (BL a).toArray) rfl rfl (by kernel_rfl) (by kernel_rfl) (by kernel_rfl) (fun _ _ _ h => h) (yieldsIf_load_mid (by kernel_rfl) _ _ rfl _ _ rfl _ _ (fun w h => h.1) Tryd.underlying27 rfl iA.out) hHeld ?_
        try simp only [Act.put, List.setIfInBounds_toArray, List.set_cons_zero, List.set_cons_succ]
        refine wpAnyH_ready (rs := [23]) (by kernel_rfl) (by simp) ?_
        refine AllReadyH.cons rfl (fun K hK => ?_) AllReadyH.nil
        go_simp
        with_reducible refine (L3.out _).mono ?_
        rintro e w7 ⟨rfl, k7⟩
        have X7 := Lib.hid (X6.out.low k7)
        refine hK.out _ _ ⟨X7.out.blk.rng, X7.out.rz⟩ (fun hHeld => ?_)
        clear hK K k7 X6
        try simp only [Act.put, List.setIfInBounds_toArray, List.set_cons_zero, List.set_cons_succ]
        refine wpAnyH_ready (rs := [28]) (by kernel_rfl) (by simp) ?_
        refine AllReadyH.cons rfl (fun K hK => ?_) AllReadyH.nil
        go_simp
        with_reducible refine (L4.out _).mono ?_
        rintro e w8 ⟨rfl, k8⟩
        have X8 := Lib.hid (X7.out.low k8)
        refine hK.out _ _ ⟨X8.out.blk.rng, X8.out.rz⟩ (fun hHeld => ?_)
        clear hK K k8 X7
        try simp only [Act.put, List.setIfInBounds_toArray, List.set_cons_zero, List.set_cons_succ]
        refine take_d (i := 29) (d := 53) (v := .bool false) rfl rfl (by kernel_rfl) (by kernel_rfl) (by kernel_rfl) (fun _ _ _ h => h) (Or.inl ⟨by kernel_rfl, fun w hSw => by go_simp⟩) hHeld ?_
        try simp only [Act.put, List.setIfInBounds_toArray, List.set_cons_zero, List.set_cons_succ]
        refine take_d (i := 30) (d := 54) (v := .bool false) rfl rfl (by kernel_rfl) (by kernel_rfl) (by kernel_rfl) (fun _ _ _ h => h) (Or.inl ⟨by kernel_rfl, fun w hSw => by go_simp⟩) hHeld ?_
        try simp only [Act.put, List.setIfInBounds_toArray, List.set_cons_zero, List.set_cons_succ]
        refine wpAnyH_done (by kernel_rfl) ?_ _
        refine NoPanic.normal ?_
        have XE := Lib.hid X8.out.xt
        clear X8 TA TB L1 L2 L3 L4
        go_wp2_with fail
        exact ⟨⟨k + 1, by omega, by omega, by go_num, XE.out⟩, by simp [intOf]; omega⟩
    · have kI : ¬ ((k : Int) < n) := by omega
      go_wp2_with fail
      go_loopw [58] (fun i wr => ∃ k : Nat, k ≤ n' ∧ k ≤ 12 ∧ i = .int .i64 k ∧ XT w A n A' n' wr) (fun i _ => 12 - (intOf i).toNat)
      case atStart => exact ⟨0, Nat.zero_le _, Nat.zero_le _, rfl, X.out⟩
      case round =>
        obtain ⟨k, hk, hk12, rfl, hx⟩ := hrel
        have X9 := Lib.hid hx
        clear X hx
        by_cases hlt : k < n'
        · have kI : (k : Int) < n' := by omega
          obtain ⟨b, o, hA, hbB, hc⟩ := X9.out.txts (by omega)
          obtain ⟨s, hs, hsl⟩ := hc k hlt
          have hA0 := Lib.hid hA
          subst hA
          clear hc hA0
          by_cases h12 : k = 12
          · have h12b : ((k : Int) == 12) = true := by simp; omega
            clear h12
            go_wp2_with fail
            go_ret
            exact ⟨rfl, X9.out.below⟩
          · have h12' : ¬ ((k : Int) = 12) := by omega
            have h12b : ((k : Int) == 12) = false := by simp; omega
            go_wp2_with fail
            generalize s.extract 0 (min (s.size : Int) 100).toNat = s1 at *
            obtain ⟨id, er, ok, P1, P2, hil, hcase⟩ := parse_both s1
            have Q1 := Lib.hid (P1 wr)
            have Q2 := Lib.hid P2
            have C4 := Lib.hid hcase
            have iI : Hid ((Tryd.prog.info? 27).map (·.size) = some (BL id).length) := show _ = _ by rw [BL.len, hil]; exact Tryd.i27
            have zI : Hid ((ZB 32).toArray.size = (BL id).length) := show _ = _ by rw [BL.len, hil]; rfl
            have oI := Lib.hid (BL.one id)
            have hne := fun w => ne27 w id id hil hil
            clear P1 P2 hil hcase
            refine Q1.out.mono ?_
            rintro e w3 ⟨rfl, k3⟩
            have X3 := Lib.hid (X9.out.low k3)
            clear Q1 X9 k3
            go_wp2_with ((with_reducible refine at_store (t := 27) ?_); refine wpList_store_blk _ rfl 27 _ _ rfl w3.heap.size (ZB 32).toArray 27 (BL id) rfl rfl (Blk.new w3 27 _) zI.out iI.out oI.out ?_; intro w4 hb4 ho4; have X4 := Lib.hid (X3.out.low (((Below.refl _ w3).alloc (Nat.le_refl _) (.cells (ZB 32).toArray 27)).trans (ho4.below (Nat.le_refl _)))); have B4 := Lib.hid hb4; clear X3 hb4 ho4)
            generalize w3.heap.size = g3 at *
            refine (Q2.out _).mono ?_
            rintro e w5 ⟨rfl, k5⟩
            have X5 := Lib.hid (X4.out.low k5)
            have B5 := Lib.hid (B4.out.below k5 B4.out.lt)
            clear Q2 X4 B4 k5
            rcases C4.out with ⟨rfl, rfl⟩ | ⟨rfl, rfl⟩
            all_goals
              (go_wp2_with (first
                 | ((with_reducible refine at_store (t := 27) ?_); refine wpList_store_blk _ rfl 27 _ _ rfl w5.heap.size (ZB 32).toArray 27 (BL id) rfl rfl (Blk.new w5 27 _) zI.out iI.out oI.out ?_; intro w6 hb6 ho6; have X6 := Lib.hid (X5.out.low (((Below.refl _ w5).alloc (Nat.le_refl _) (.cells (ZB 32).toArray 27)).trans (ho6.below (Nat.le_refl _)))); have B6 := Lib.hid hb6; have B7 := Lib.hid (ho6.keep (B5.out.alloc _) (by have := B5.out.lt; omega)); clear X5 B5 hb6 ho6; generalize w5.heap.size = g5 at *)
                 | ((with_reducible refine at_load (t := 27) ?_); refine wpList_load_mid rfl 27 _ rfl g3 0 rfl (BL id) _ B7.out.rng Tryd.underlying27 rfl iI.out ?_)
                 | ((with_reducible refine at_load (t := 27) ?_); refine wpList_load_mid rfl 27 _ rfl g5 0 rfl (BL id) _ B6.out.rng Tryd.underlying27 rfl iI.out ?_))
               exact ⟨⟨k + 1, by omega, by omega, by go_num, X6.out⟩, by simp [intOf]; omega⟩)
        · have kI : ¬ ((k : Int) < n') := by omega
          go_wp2_with fail
          go_ret
          exact ⟨rfl, X9.out.below⟩

end Go.Proofs.YtbemnolgolecaaaDoor
