/-
  The law DiskDepth, walked.
-/
import Derived.Test.YthhpaejeplninaaDp
namespace Go.Proofs.Ythhpaejeplninaa
open Go.RowKit
attribute [local go_sem ↓] Try.z53 Try.z39

/-- A row of answers in a block from b0 on. -/
def KA (w : World) (b0 : Nat) (A : Option Addr) (ks : List Bool) : Prop := 0 < ks.length → ∃ g, A = some ⟨g, 0, none⟩ ∧ b0 ≤ g ∧ ∃ cur, Blk w g 4 cur ∧ ks.length ≤ cur.size ∧ ∀ j, j < ks.length → cur[j]? = some (.bool (ks.getD j false))
theorem KA.bs {w : World} {b0 : Nat} {A : Option Addr} {ks : List Bool} (h : KA w b0 A ks) : Bs w w.heap.size A ks := fun hn => by
  obtain ⟨g, hA, _, cur, hb, _, hc⟩ := h hn
  exact ⟨g, 0, hA, hb.lt, fun j hj => by rw [Nat.zero_add, hb.cell]; exact hc j hj⟩
theorem KA.below {w w' : World} {b0 : Nat} {A : Option Addr} {ks : List Bool} (h : KA w b0 A ks) (hB : Below w.heap.size w w') : KA w' b0 A ks := fun hn => by
  obtain ⟨g, hA, h0, cur, hb, r⟩ := h hn
  exact ⟨g, hA, h0, cur, hb.below hB hb.lt, r⟩
theorem Krow.ka {w : World} {base b0 : Nat} {v : Value} {ks : List Bool} (h : Krow w base v ks) (hb0 : b0 ≤ base) : ∃ A c, v = .slice A ks.length c ∧ KA w b0 A ks ∧ c ≤ maxLen := by
  rcases h.2 with ⟨rfl, h0⟩ | ⟨g, cap, cur, rfl, hb, hh, hc, hm, hs, ht⟩
  · exact ⟨none, 0, by rw [h0], fun hn => absurd hn (by omega), by unfold maxLen; omega⟩
  · refine ⟨_, _, rfl, fun hn => ⟨g, rfl, by omega, cur, hh, by omega, fun j hj => ?_⟩, hm⟩
    have := h.cellAt j (by omega)
    rw [Blk.cell (t := 4) hh] at this
    rw [this]
    simp [List.getD, hj]
theorem Secs.below {w w' : World} {g n j : Nat} {q : List (Int × List Value)} (h : Secs w g n q j) (hB : Below w.heap.size w w') : Secs w' g n q j := by
  obtain ⟨cur, hb, r⟩ := h
  exact ⟨cur, hb.below hB hb.lt, r⟩

/-- What lies in memory on the way. -/
structure Dz (w0 : World) (base p gs g6 : Nat) (S : DSt) (A : Option Addr) (ks : List Bool) (wr : World) : Prop where
  dk : Dk wr base p gs S
  below : Below w0.heap.size w0 wr
  secs : Secs wr g6 S.q.length S.q S.q.length
  keep : KA wr w0.heap.size A ks
section
variable {w0 wr wr' : World} {base p gs g6 : Nat} {S : DSt} {A : Option Addr} {ks : List Bool}
theorem Dz.low (h : Dz w0 base p gs g6 S A ks wr) (hb : Below wr.heap.size wr wr') : Dz w0 base p gs g6 S A ks wr' :=
  ⟨h.dk.below hb, h.below.trans (hb.mono h.below.size), h.secs.below hb, h.keep.below hb⟩
theorem Dz.alloc (h : Dz w0 base p gs g6 S A ks wr) (o : Obj) : Dz w0 base p gs g6 S A ks (wr.alloc o) := h.low ((Below.refl _ wr).alloc (Nat.le_refl _) o)
theorem Dz.set {j : Nat} (h : Dz w0 base p gs g6 S A (widen ks j) wr) (hj : j < ks.length) {g : Nat} (hA : A = some ⟨g, 0, none⟩) : Dz w0 base p gs g6 S A (widen ks (j + 1)) (wr.setCell ⟨g, j, none⟩ (.bool (wider ks j))) := by
  obtain ⟨g', hA', h0, cur, hb, hs, hc⟩ := h.keep (by rw [widen_len]; omega)
  rw [hA] at hA'
  injection hA' with hA'
  injection hA' with hg
  subst hg
  rw [widen_len] at hs
  refine ⟨?_, h.below.setCell h0 _, ?_, fun _ => ⟨g, hA, h0, _, hb.set_ j _, by rw [widen_len]; simpa using hs, fun i hi => ?_⟩⟩
  · obtain ⟨cs, vq, hbp, ho, _⟩ := h.dk.own
    obtain ⟨_, cur', hgl⟩ := ho.gs
    exact h.dk.keep (Below.heap_setCell wr _ _ p (hbp.ne hb (by decide))) (Below.heap_setCell wr _ _ gs (hgl.ne hb (by decide))) fun k cur'' _ hk => Below.heap_setCell wr _ _ k (hk.ne hb (by decide))
  · obtain ⟨c3, hb3, r⟩ := h.secs
    exact ⟨c3, hb3.far (hb3.ne hb (by decide)) _, r⟩
  · rw [widen_len] at hi
    rw [widen_get ks _ i hi]
    by_cases hij : i = j
    · subst hij
      rw [if_pos (by omega)]
      rw [Array.getElem?_setIfInBounds_self_of_lt (by omega)]
    · rw [Array.getElem?_setIfInBounds_ne (Ne.symm hij), hc i (by rw [widen_len]; exact hi), widen_get ks _ i hi]
      by_cases h1 : i < j
      · rw [if_pos h1, if_pos (by omega)]
      · rw [if_neg h1, if_neg (by omega)]
end

theorem Dz.drewN {w0 wr : World} {base p gs g6 : Nat} {S : DSt} {A : Option Addr} {ks : List Bool} (h : Dz w0 base p gs g6 S A ks wr) (n : Nat) : Dz w0 base p gs g6 S A ks (wr.drewN n) := ⟨h.dk.drewN n, below_drewN h.below n, h.secs, h.keep⟩

/-- Nine blocks. -/
structure A9 (C : List (List Value)) : Prop where
  ok : ∀ b ∈ C, B64 b
  len : C.length = 9
section
variable {C : List (List Value)}
theorem A9.size (h : A9 C) : C.flatten.length = 576 := by rw [Parts.len (k := 64) (fun b hb => (h.ok b hb).1), h.len]
theorem A9.i53 (h : A9 C) : (Try.prog.info? 53).map (·.size) = some C.flatten.length := by rw [h.size]; exact Try.i53
theorem A9.z53 (h : A9 C) : Z9.toArray.size = C.flatten.length := by rw [h.size, List.size_toArray]; exact List.length_replicate
theorem A9.o53 (h : A9 C) : ∀ v ∈ C.flatten, v.oneCell' = true := fun v hv => by
  obtain ⟨b, hb, hv⟩ := List.mem_flatten.1 hv
  exact (h.ok b hb).one v hv
theorem A9.at_ (h : A9 C) {i : Nat} (hi : i < 9) : B64 (C.getD i []) := by
  have e : C.getD i [] = C[i]'(by rw [h.len]; exact hi) := by simp [List.getD, h.len, hi]
  rw [e]
  exact h.ok _ (List.getElem_mem _)
theorem A9.load (h : A9 C) {w : World} {g : Nat} (hb : Blk w g 53 C.flatten.toArray) {i : Nat} (hi : i < 9) (n : Nat) : (Instr.loadAt 39 (.pointer (some ⟨g, i * 64, none⟩))).run Try.prog (w.drewN n) = .ok (.agg (C.getD i []).toArray) (w.drewN n) := by
  have hp : Parts 64 C := fun b hb => (h.ok b hb).1
  have hl := (h.at_ hi).len
  refine run_loadAt_mid (w.drewN n) g (i * 64) 39 _ _ (fun j v hj => ?_) Try.underlying39 rfl (by rw [hl]; exact Try.i39)
  have hj' : j < 64 := by
    obtain ⟨h1, _⟩ := List.getElem?_eq_some_iff.1 hj
    omega
  have e := hp.get i j (by rw [h.len]; exact hi) hj'
  show w.cell? ⟨g, i * 64 + j, none⟩ = some v
  rw [hb.cell, List.getElem?_toArray, e]
  exact hj
end

/-- A load of a block in a region that draws its order and only reads. -/
theorem wpQuiet_load39 {ops : Array Oper} {C : World → Prop} {Q : Act → Prop} {rest : List Oper} {dst : Option Tmp} {x : Operand} {ty : TypeId} {pos : String} {aft : Array Edge} {gd : Option (Nat × Bool)} {a : Act} (g i : Nat) (B : Array Value)
    (hw : Region.wanted ⟨dst, .load 39 x, ty, pos, aft, gd⟩ (yielded ops a.tmps) = true) (hx : a.eval x = .pointer (some ⟨g, i, none⟩))
    (hl : ∀ w, C w → (Instr.loadAt 39 (.pointer (some ⟨g, i, none⟩))).run Try.prog w = .ok (.agg B) w)
    (h : wpQuiet Try.prog ops C Q rest (a.put dst (.agg B))) : wpQuiet Try.prog ops C Q (⟨dst, .load 39 x, ty, pos, aft, gd⟩ :: rest) a :=
  wpQuiet_step fun K hK => by
    rw [if_pos hw]
    refine ⟨.agg B, fun w hc => ?_, hK _ h⟩
    unfold Oper.quietAt execOp
    simp only [hx, Sem.run_bind, Sem.run_pure, Result.andThen_ok, hl w hc]
    exact ⟨rfl, rfl⟩

set_option maxRecDepth 100000 in
set_option maxHeartbeats 60000000 in
theorem depth_walk (Al : Option Addr) (nl cl : Nat) (A : Option Addr) (c : Nat) (ks : List Bool) (w : World) (hAl : Asks w w.heap.size Al nl) (hnl : nl ≤ 9223372036854775807) (hk : Bs w w.heap.size A ks) (hkc : ks.length ≤ c) (hc : c ≤ 9223372036854775807) :
    Calls Try.prog 6 #[.slice Al nl cl, .slice A ks.length c] w fun e w' => e = .returned (.bool true) ∧ Below w.heap.size w w' := by
  have HBS := Lib.hid hk
  have HAL := Lib.hid hAl
  clear hk hAl
  go_enter Try.func6, Try.ntmps6
  go_wp2_with fail
  refine (wakes_any w).mono ?_
  rintro e w1 ⟨rfl, hB1⟩
  have has := asked_any Al nl cl w1 ((HAL.out.below hB1).more hB1.size) hnl
  have HAS := Lib.hid has
  have HB1 := Lib.hid hB1
  clear has hB1
  go_wp2_with fail
  refine HAS.out.mono ?_
  rintro e w2 ⟨p, gs, S, rfl, d2, hq2, hh2, hb2⟩
  have HPE := Lib.hid (pending_any d2 (by omega))
  have D2 := Lib.hid d2
  have HB2 := Lib.hid (HB1.out.trans (hb2.mono HB1.out.size))
  clear HAS HB1 hb2 d2
  generalize w1.heap.size = base at *
  go_wp2_with fail
  refine HPE.out.mono ?_
  rintro e w3 ⟨rfl, hsec, hb3⟩
  have D3 := Lib.hid (D2.out.below hb3)
  have HB3 := Lib.hid (HB2.out.trans (hb3.mono HB2.out.size))
  have HS3 := Lib.hid hsec
  obtain ⟨nq, hnq⟩ : ∃ nq, nq = S.q.length := ⟨_, rfl⟩
  obtain ⟨ks1, m1, hks1, hm1, hkq, hbs1⟩ : ∃ ks1 : List Bool, ∃ m1, m1 = ks1.length ∧ m1 = min ks.length nq ∧ ks1.length ≤ S.q.length ∧ Bs w3 w3.heap.size A ks1 :=
    ⟨ks.take nq, _, by rw [List.length_take, Nat.min_comm], rfl, by rw [List.length_take]; omega, ((HBS.out.below HB3.out).more HB3.out.size).take nq⟩
  have hcl := clone23 A c ks1 w3 hbs1 (by omega)
  rw [← hks1] at hcl
  have HCL := Lib.hid hcl
  have HK1 := Lib.hid hks1
  have HKQ := Lib.hid hkq
  have HNQ := Lib.hid hnq
  rw [← hnq] at hq2 ⊢
  clear HPE D2 HB2 hb3 hsec hcl hbs1 hks1 hkq hnq
  have hm2 : m1 ≤ nq := by omega
  have hm3 : m1 ≤ ks.length := by omega
  have hif : (if nq < ks.length then (nq : Int) else (ks.length : Int)) = (m1 : Int) := by split <;> omega
  clear hm1
  generalize w2.heap.size = g6 at *
  go_wp2_with fail
  clear hif
  refine HCL.out.mono ?_
  rintro e w4 ⟨v4, rfl, hkr, hb4⟩
  obtain ⟨A1, c1, rfl, hka, hc1⟩ := hkr.ka HB3.out.size
  have hc1' : c1 ≤ 9223372036854775807 := by unfold maxLen at hc1; omega
  have dz4 : Dz w base p gs g6 S A1 ks1 w4 := ⟨D3.out.below hb4, HB3.out.trans (hb4.mono HB3.out.size), HS3.out.below hb4, hka⟩
  have hvw := view_any A1 c1 ks1 w4 base p gs S dz4.dk (by rw [← HNQ.out]; omega) hh2 hka.bs (by rw [← HK1.out]; omega)
  have hC : ∀ b ∈ (crashed S ks1).has, B64 b := (crashed_ok dz4.dk.ok _).has
  have hCl : (crashed S ks1).has.length = 9 := by rw [crashed_len, hh2]
  have hwd := crashed_widen S HKQ.out
  have hsl := fun i => some_least (i := i) dz4.dk.ok HKQ.out
  have hml := fun i => most_least (i := i) dz4.dk.ok (List.replicate nq true)
  obtain ⟨C, hCe⟩ : ∃ C, C = (crashed S ks1).has := ⟨_, rfl⟩
  rw [← hCe] at hvw hC hCl hwd
  simp only [← hCe] at hsl
  rw [← HK1.out] at hvw ⊢
  have HVW := Lib.hid hvw
  have HOK := Lib.hid hC
  have HWD := Lib.hid hwd
  have HSL := Lib.hid hsl
  have HML := Lib.hid hml
  have DZ4 := Lib.hid dz4
  have hhb : Hid (∀ b ∈ S.has, B64 b) := dz4.dk.ok.has
  have hMB : Hid (∀ b ∈ (crashed S (List.replicate nq true)).has, B64 b) := (crashed_ok dz4.dk.ok _).has
  clear hvw hC hwd hsl hml dz4 hkr hka hb4 hc1 hCe HCL D3 HB3 HS3 HBS HAL
  go_wp2_with fail
  refine HVW.out.mono ?_
  rintro e w5 ⟨rfl, hb5⟩
  have dz5 := (DZ4.out.low hb5).alloc (.cells C.flatten.toArray 53)
  have hsz : C.flatten.length = 576 := by rw [Parts.len (k := 64) (fun b hb => (HOK.out b hb).1), hCl]
  have i53 := Lib.hid (show (Try.prog.info? 53).map (·.size) = some C.flatten.length by rw [hsz]; exact Try.i53)
  have z53 := Lib.hid (show Z9.toArray.size = C.flatten.length by rw [hsz]; simp [Z9])
  have o53 : Hid (∀ v ∈ C.flatten, v.oneCell' = true) := fun v hv => by
    obtain ⟨b, hb, hv⟩ := List.mem_flatten.1 hv
    exact (HOK.out b hb).one v hv
  have hHu : U8s 576 C.flatten.toArray := by
    intro i hi
    have hi' : i < C.flatten.length := by omega
    have hmem := List.getElem_mem hi'
    obtain ⟨b, hb, hv⟩ := List.mem_flatten.1 hmem
    obtain ⟨z, hz⟩ := (HOK.out b hb).2 _ hv
    exact ⟨z, by rw [List.getElem?_toArray, List.getElem?_eq_getElem hi', hz]⟩
  have HNE := Lib.hid (fun w : World => ne53 w C.flatten.toArray hHu)
  have ST : Hid (Dz w base p gs g6 S A1 ks1 (w5.alloc (.cells C.flatten.toArray 53)) ∧ Blk (w5.alloc (.cells C.flatten.toArray 53)) w5.heap.size 53 C.flatten.toArray) := ⟨dz5, Blk.new w5 53 _⟩
  clear HVW DZ4 hb5 dz5 hHu
  go_wp2_with ((with_reducible refine at_store (t := 53) ?_); refine wpList_store_new w5 rfl 53 _ _ rfl _ _ _ C.flatten rfl rfl rfl z53.out i53.out o53.out ?_)
  generalize w5.alloc (.cells C.flatten.toArray 53) = w6 at *
  generalize w5.heap.size = g7 at *
  go_loopw [9, 47] (fun l i wr => ∃ j : Nat, j ≤ m1 ∧ i = .int .i64 j ∧ l = .int .i64 (lastK ks1 j) ∧ wr = w6) (fun _ i _ => m1 - (intOf i).toNat)
  case atStart => exact ⟨0, Nat.zero_le _, rfl, rfl, rfl⟩
  case round =>
    obtain ⟨j, hj, rfl, rfl, rfl⟩ := hrel
    by_cases hlt : j < m1
    · have hlt' : (j : Int) < m1 := by omega
      obtain ⟨g, rfl, _, cur, hbk, hsk, hck⟩ := ST.out.1.keep (by rw [← HK1.out]; omega)
      have hcell : wr.cell? ⟨g, j, none⟩ = some (.bool (ks1.getD j false)) := (hbk.cell j).trans (hck j (by rw [← HK1.out]; exact hlt))
      have hls := Lib.hid (show lastK ks1 (j + 1) = if kept ks1 j = true then (j : Int) else lastK ks1 j from rfl)
      have hkd : kept ks1 j = ks1.getD j false := rfl
      rw [← hkd] at hcell
      clear hbk hsk hck hkd
      generalize lastK ks1 j = l0 at *
      generalize kept ks1 j = z at *
      have hj1 : (j : Int) + 1 ≤ 9223372036854775807 := by omega
      cases z with
      | true =>
        go_wp2_with fail
        have := hls.out
        rw [if_pos rfl] at this
        exact ⟨⟨j + 1, by omega, by go_num, by rw [this], trivial⟩, by simp [intOf]; omega⟩
      | false =>
        go_wp2_with fail
        have := hls.out
        rw [if_neg (by simp)] at this
        exact ⟨⟨j + 1, by omega, by go_num, by rw [this], trivial⟩, by simp [intOf]; omega⟩
    · have hjm : j = m1 := by omega
      subst hjm
      obtain ⟨W6, hW6⟩ : ∃ W6, W6 = wr := ⟨_, rfl⟩
      subst hW6
      have hlb := lastK_le ks1 ks1.length
      rw [← HK1.out] at hlb
      have ST2 : Hid (Dz w base p gs g6 S A1 (widen ks1 0) W6 ∧ Blk W6 g7 53 C.flatten.toArray) := by rw [widen_zero]; exact ST.out
      have hwd : ∀ k, wider ks1 k = (kept ks1 k || decide ((k : Int) + 4 ≤ lastK ks1 ks1.length)) := fun _ => rfl
      rw [← HK1.out] at hwd
      obtain ⟨last, hla⟩ : ∃ last, last = lastK ks1 j := ⟨_, rfl⟩
      rw [← hla] at hwd hlb ⊢
      have HWI := Lib.hid hwd
      clear ST hwd hla
      go_wp2_with fail
      go_loopw [57] (fun i wr => ∃ k : Nat, k ≤ j ∧ i = .int .i64 k ∧ Dz w base p gs g6 S A1 (widen ks1 k) wr ∧ Blk wr g7 53 C.flatten.toArray) (fun i _ => j - (intOf i).toNat)
      case atStart => exact ⟨0, Nat.zero_le _, rfl, ST2.out.1, ST2.out.2⟩
      case round =>
        clear ST2
        obtain ⟨k, hk, rfl, dz, was⟩ := hrel
        by_cases hlt : k < j
        · have hlt' : (k : Int) < j := by omega
          have hkl : k < ks1.length := by rw [← HK1.out]; exact hlt
          obtain ⟨g, rfl, _, cur, hbk, hsk, hck⟩ := dz.keep (by rw [widen_len]; omega)
          have hcell : wr.cell? ⟨g, k, none⟩ = some (.bool (kept ks1 k)) := by
            refine (hbk.cell k).trans ?_
            rw [hck k (by rw [widen_len]; exact hkl), widen_get ks1 k k hkl, if_neg (by omega)]
          have hfr := hbk.frozen k
          have dz2 := dz.set hkl rfl
          have was2 := was.far (p := ⟨g, k, none⟩) (was.ne hbk (by decide)) (.bool (wider ks1 k))
          rw [HWI.out k] at dz2 was2
          have DZ2 := Lib.hid dz2
          have WAS2 := Lib.hid was2
          clear dz2 was2 dz was hbk hsk hck hkl
          generalize kept ks1 k = z at *
          cases z with
          | true =>
            rw [Bool.true_or] at DZ2 WAS2
            go_wp2_with fail
            exact ⟨⟨k + 1, by omega, by go_num, DZ2.out, WAS2.out⟩, by simp [intOf]; omega⟩
          | false =>
            rw [Bool.false_or] at DZ2 WAS2
            go_wp2_with fail
            exact ⟨⟨k + 1, by omega, by go_num, DZ2.out, WAS2.out⟩, by simp [intOf]; omega⟩
        · have hkj : k = j := by omega
          subst hkj
          obtain ⟨W7, hW7⟩ : ∃ W7, W7 = wr := ⟨_, rfl⟩
          subst hW7
          have hwl := widen_len ks1 k
          have hwe : widen ks1 ks1.length = widen ks1 k := by rw [← HK1.out]
          have hvw := view_any A1 c1 (widen ks1 k) W7 base p gs S dz.dk (by rw [← HNQ.out]; omega) hh2 dz.keep.bs (by rw [hwl, ← HK1.out]; omega)
          rw [← hwe, HWD.out, hwe, hwl, ← HK1.out] at hvw
          have hsl := HSL.out
          rw [hwe] at hsl
          rw [← HK1.out] at hwl
          obtain ⟨ks2, hks2⟩ : ∃ ks2, ks2 = widen ks1 k := ⟨_, rfl⟩
          rw [← hks2] at hsl hwl dz
          have HSL2 := Lib.hid hsl
          have HWL := Lib.hid hwl
          have HVW := Lib.hid hvw
          have DZ := Lib.hid dz
          have WAS := Lib.hid was
          clear HSL hsl hwl hvw dz was hks2 hwe HWD HWI HK1 HKQ
          go_wp2_with fail
          refine HVW.out.mono ?_
          rintro e w8 ⟨rfl, hb8⟩
          have dz8 := (DZ.out.low hb8).alloc (.cells C.flatten.toArray 53)
          have was8 := Lib.hid ((WAS.out.below hb8 WAS.out.lt).alloc (.cells C.flatten.toArray 53))
          have now8 := Lib.hid (Blk.new w8 53 C.flatten.toArray)
          have hvw := view_any none 0 [] _ base p gs S dz8.dk (by rw [← HNQ.out]; omega) hh2 (Bs.nil _ _) (by simp)
          rw [crashed_nothing, show ([] : List Bool).length = 0 from rfl] at hvw
          have HVW := Lib.hid hvw
          have DZ8 := Lib.hid dz8
          have HNE' := HNE.out
          clear hvw dz8 DZ WAS hb8
          go_wp2_with ((with_reducible refine at_store (t := 53) ?_); refine wpList_store_new w8 rfl 53 _ _ rfl _ _ _ C.flatten rfl rfl rfl z53.out i53.out o53.out ?_)
          refine wp_load_mid 53 _ rfl g7 0 rfl C.flatten _ was8.out.rng Try.underlying53' rfl i53.out ?_
          go_wp2_with fail
          refine wp_load_mid 53 _ rfl w8.heap.size 0 rfl C.flatten _ now8.out.rng Try.underlying53' rfl i53.out ?_
          go_wp2_with fail
          refine HVW.out.mono ?_
          rintro e w9 ⟨rfl, hb9⟩
          have hA9 : Hid (A9 S.has) := ⟨hhb.out, hh2⟩
          have hM9 : Hid (A9 (crashed S (List.replicate nq true)).has) := ⟨hMB.out, by rw [crashed_len, hh2]⟩
          have hC9 : Hid (A9 C) := ⟨HOK.out, hCl⟩
          obtain ⟨H, hH⟩ : ∃ H, H = S.has := ⟨_, rfl⟩
          have hml := HML.out
          have hsl := HSL2.out
          rw [← hH] at hA9
          simp only [← hH] at hsl hml
          have dz9 := (DZ8.out.low hb9).alloc (.cells S.has.flatten.toArray 53)
          have was9 := Lib.hid ((was8.out.below hb9 was8.out.lt).alloc (.cells S.has.flatten.toArray 53))
          have least9 := Lib.hid (Blk.new w9 53 S.has.flatten.toArray)
          have HYE := Lib.hid (yes_any nq hq2 (w9.alloc (.cells S.has.flatten.toArray 53)))
          have DZ9 := Lib.hid dz9
          have HML2 := Lib.hid hml
          have HSL3 := Lib.hid hsl
          rw [← hH] at was9 least9 HYE DZ9 ⊢
          have HHE := Lib.hid hH
          clear HVW DZ8 was8 now8 HNE HNE' hb9 dz9 HML HSL2 hml hsl hH hhb hMB i53 z53 o53 hsz HOK
          go_wp2_with ((with_reducible refine at_store (t := 53) ?_); refine wpList_store_new w9 rfl 53 _ _ rfl _ _ _ H.flatten rfl rfl rfl hA9.out.z53 hA9.out.i53 hA9.out.o53 ?_)
          refine HYE.out.mono ?_
          rintro e wa ⟨ga, rfl, hbsa, hba⟩
          have dza := DZ9.out.low hba
          have wasa := Lib.hid (was9.out.below hba was9.out.lt)
          have leasta := Lib.hid (least9.out.below hba least9.out.lt)
          have hvw := view_any (some ⟨ga, 0, none⟩) nq (List.replicate nq true) wa base p gs S dza.dk (by rw [← HNQ.out]; omega) hh2 hbsa (by simp; omega)
          rw [List.length_replicate] at hvw
          obtain ⟨M, hM⟩ : ∃ M, M = (crashed S (List.replicate nq true)).has := ⟨_, rfl⟩
          have hml := HML2.out
          rw [← hM] at hvw hM9
          simp only [← hM] at hml
          have HML3 := Lib.hid hml
          have HVW := Lib.hid hvw
          have DZA := Lib.hid dza
          clear HYE HML2 hml hM hvw dza hba hbsa was9 least9 DZ9
          generalize w9.heap.size = g14 at *
          go_wp2_with fail
          refine HVW.out.mono ?_
          rintro e wb ⟨rfl, hbb⟩
          have dzb := (DZA.out.low hbb).alloc (.cells M.flatten.toArray 53)
          have wasb := (wasa.out.below hbb wasa.out.lt).alloc (.cells M.flatten.toArray 53)
          have leastb := (leasta.out.below hbb leasta.out.lt).alloc (.cells M.flatten.toArray 53)
          have mostb := Blk.new wb 53 M.flatten.toArray
          have ALL : Hid (Dz w base p gs g6 S A1 ks2 (wb.alloc (.cells M.flatten.toArray 53)) ∧ Blk (wb.alloc (.cells M.flatten.toArray 53)) g7 53 C.flatten.toArray ∧ Blk (wb.alloc (.cells M.flatten.toArray 53)) g14 53 H.flatten.toArray ∧ Blk (wb.alloc (.cells M.flatten.toArray 53)) wb.heap.size 53 M.flatten.toArray) := ⟨dzb, wasb, leastb, mostb⟩
          clear HVW DZA dzb wasb leastb mostb wasa leasta hbb
          go_wp2_with ((with_reducible refine at_store (t := 53) ?_); refine wpList_store_new wb rfl 53 _ _ rfl _ _ _ M.flatten rfl rfl rfl hM9.out.z53 hM9.out.i53 hM9.out.o53 ?_)
          generalize wb.alloc (.cells M.flatten.toArray 53) = W at *
          generalize wb.heap.size = g15 at *
          obtain ⟨L, hL⟩ : ∃ L : World → Prop, L = fun wr => Dz w base p gs g6 S A1 ks2 wr ∧ Blk wr g7 53 C.flatten.toArray ∧ Blk wr g14 53 H.flatten.toArray ∧ Blk wr g15 53 M.flatten.toArray := ⟨_, rfl⟩
          have hLd : Hid (∀ wr n, L wr → L (wr.drewN n)) := fun wr n h => by
            rw [hL] at h ⊢
            exact ⟨h.1.drewN n, h.2.1, h.2.2.1, h.2.2.2⟩
          have HL := Lib.hid hL
          have ALL2 : Hid (L W) := by rw [hL]; exact ALL.out
          clear hL ALL HVW
          go_loopw [106] (fun i wr => ∃ j : Nat, j ≤ 9 ∧ i = .int .i64 j ∧ L wr) (fun i _ => 9 - (intOf i).toNat)
          case atStart => exact ⟨0, by omega, rfl, ALL2.out⟩
          case round =>
            clear ALL2
            obtain ⟨j, hj, rfl, hw⟩ := hrel
            have HW := Lib.hid hw
            clear hw
            by_cases hlt : j < 9
            · have hlt' : (j : Int) < 9 := by omega
              go_wp2_with fail
              obtain ⟨W8, hW8⟩ : ∃ W8, W8 = wr := ⟨_, rfl⟩
              subst hW8
              have hall := HW.out
              rw [HL.out] at hall
              obtain ⟨hdz, h7, h14, h15⟩ := hall
              have HDZ := Lib.hid hdz
              have H7 := Lib.hid h7
              have H14 := Lib.hid h14
              have H15 := Lib.hid h15
              clear hdz h7 h14 h15
              go_loopw [18, 111] (fun l i wr => ∃ k2 : Nat, k2 ≤ nq ∧ i = .int .i64 k2 ∧ l = .bool (decide (Lives S.q ks2 k2 j)) ∧ wr = W8) (fun _ i _ => nq - (intOf i).toNat)
              case atStart => exact ⟨0, Nat.zero_le _, rfl, by rw [decide_eq_false (Lives.zero _ _ _)], rfl⟩
              case round =>
                obtain ⟨k2, hk2, rfl, rfl, rfl⟩ := hrel
                by_cases hlt2 : k2 < nq
                · have hlt2' : (k2 : Int) < nq := by omega
                  obtain ⟨cur3, hb3, hs3, hc3⟩ := HDZ.out.secs
                  have hcell : wr.cell? ⟨g6, k2, none⟩ = some (.int .i64 (S.q.getD k2 (0, [])).1) := (hb3.cell k2).trans (hc3 k2 (by rw [← HNQ.out]; exact hlt2))
                  have hsu := Lib.hid (Lives.succ S.q ks2 k2 j)
                  have hkd : Hid (kept ks2 k2 = ks2.getD k2 false) := show _ = _ from rfl
                  clear hb3 hs3 hc3
                  by_cases hlv : Lives S.q ks2 k2 j
                  · have hn : Hid (decide (Lives S.q ks2 (k2 + 1) j) = true) := show _ = _ from decide_eq_true (hsu.out.2 (.inl hlv))
                    rw [decide_eq_true hlv]
                    clear hsu hlv hkd
                    go_wp2_with fail
                    exact ⟨⟨k2 + 1, by omega, by go_num, by rw [hn.out], trivial⟩, by simp [intOf]; omega⟩
                  · rw [decide_eq_false hlv]
                    generalize (S.q.getD k2 (0, [])).1 = z at *
                    by_cases he : z = j
                    · by_cases hkk : k2 < k
                      · have hkk' : (k2 : Int) < k := by omega
                        obtain ⟨gk, hgk, _, cur, hbk, _, hck⟩ := HDZ.out.keep (by rw [HWL.out]; omega)
                        have hkc : wr.cell? ⟨gk, k2, none⟩ = some (.bool (ks2.getD k2 false)) := (hbk.cell k2).trans (hck k2 (by rw [HWL.out]; omega))
                        have hn : Hid (decide (Lives S.q ks2 (k2 + 1) j) = ks2.getD k2 false) := show _ = _ by
                          rw [← hkd.out, Bool.eq_iff_iff, decide_eq_true_iff, hsu.out]
                          exact ⟨fun h => h.elim (fun h => absurd h hlv) fun h => h.2.2, fun h => .inr ⟨he, by rw [HWL.out]; exact hkk, h⟩⟩
                        subst he
                        subst hgk
                        clear hbk hck hsu hlv hkd
                        generalize ks2.getD k2 false = z2 at *
                        go_wp2_with fail
                        exact ⟨⟨k2 + 1, by omega, by go_num, by rw [hn.out], trivial⟩, by simp [intOf]; omega⟩
                      · have hkk' : decide ((k2 : Int) < k) = false := by simp; omega
                        have hn : Hid (decide (Lives S.q ks2 (k2 + 1) j) = false) := show _ = _ from decide_eq_false fun h => (hsu.out.1 h).elim hlv fun h => by have := h.2.1; rw [HWL.out] at this; omega
                        subst he
                        clear hsu hlv hkd
                        go_wp2_with fail
                        exact ⟨⟨k2 + 1, by omega, by go_num, by rw [hn.out], trivial⟩, by simp [intOf]; omega⟩
                    · have he' : (z == (j : Int)) = false := by simpa using he
                      have hn : Hid (decide (Lives S.q ks2 (k2 + 1) j) = false) := show _ = _ from decide_eq_false fun h => (hsu.out.1 h).elim hlv fun h => he h.1
                      clear hsu hlv hkd
                      go_wp2_with fail
                      exact ⟨⟨k2 + 1, by omega, by go_num, by rw [hn.out], trivial⟩, by simp [intOf]; omega⟩
                · have hkn : k2 = nq := by omega
                  subst hkn
                  have SEC : Hid (Secs wr g6 k2 S.q k2) := by have := HDZ.out.secs; rw [← HNQ.out] at this; exact this
                  have l7 := hC9.out.load H7.out hlt
                  have l14 := hA9.out.load H14.out hlt
                  have l15 := hM9.out.load H15.out hlt
                  have hsl := HSL3.out j
                  have hml := HML3.out j
                  rw [← HNQ.out] at hsl hml
                  have hne : ∀ w : World, (binOp .neq 39 (.agg (H.getD j []).toArray) (.agg (H.getD j []).toArray)).run Try.prog w = .ok (.bool false) w := fun w => ne39 w _ (hA9.out.at_ hlt)
                  clear HDZ H7 H14 H15 HSL3 HML3 hA9 hC9 hM9 HWL hlt2 hCl hh2
                  by_cases hlv : Lives S.q ks2 k2 j
                  · rw [decide_eq_true hlv]
                    clear hsl hlv l7
                    by_cases hin : In S.q k2 j
                    · have hI : decide (In S.q k2 j) = true := decide_eq_true hin
                      clear hml hin l14 l15 hne
                      go_wp2_with fail
                      go_quiet ((go_at_call 26; exact quiet_l (contains_any g6 k2 S.q j _ (by exact SEC.out) (by omega))))
                      go_wp2_with fail
                      exact ⟨⟨j + 1, by omega, by go_num, hLd.out _ _ HW.out⟩, by simp [intOf]; omega⟩
                    · have hI : decide (In S.q k2 j) = false := decide_eq_false hin
                      rw [hml hin] at l15
                      clear hml hin
                      generalize H.getD j [] = B at *
                      go_wp2_with fail
                      refine wp_region_quiet_lit (by kernel_rfl) (by kernel_rfl) ?_
                      iterate 19 (first | go_big_quiet_step (((go_at_call 26; exact quiet_l (contains_any g6 k2 S.q j _ (by exact SEC.out) (by omega))))) | quiet_step (((go_at_call 26; exact quiet_l (contains_any g6 k2 S.q j _ (by exact SEC.out) (by omega))))))
                      refine wpQuiet_load39 g15 (j * 64) B.toArray (by rfl) (by rfl) (fun w hc => by obtain ⟨n, rfl⟩ := hc; exact l15 n) ?_
                      iterate 2 (first | go_big_quiet_step (((go_at_call 26; exact quiet_l (contains_any g6 k2 S.q j _ (by exact SEC.out) (by omega))))) | quiet_step (((go_at_call 26; exact quiet_l (contains_any g6 k2 S.q j _ (by exact SEC.out) (by omega))))))
                      refine wpQuiet_load39 g14 (j * 64) B.toArray (by rfl) (by rfl) (fun w hc => by obtain ⟨n, rfl⟩ := hc; exact l14 n) ?_
                      repeat (first | go_big_quiet_step (((go_at_call 26; exact quiet_l (contains_any g6 k2 S.q j _ (by exact SEC.out) (by omega))))) | quiet_step (((go_at_call 26; exact quiet_l (contains_any g6 k2 S.q j _ (by exact SEC.out) (by omega))))))
                      refine wpQuiet_nil ?_
                      intro _ hw'
                      obtain ⟨nd, hw''⟩ := hw'
                      subst hw''
                      go_wp2_with fail
                      exact ⟨⟨j + 1, by omega, by go_num, hLd.out _ _ HW.out⟩, by simp [intOf]; omega⟩
                  · rw [decide_eq_false hlv]
                    rw [hsl hlv] at l7
                    clear hsl hlv
                    by_cases hin : In S.q k2 j
                    · have hI : decide (In S.q k2 j) = true := decide_eq_true hin
                      clear hml hin l15
                      generalize H.getD j [] = B at *
                      go_wp2_with fail
                      refine wp_region_quiet_lit (by kernel_rfl) (by kernel_rfl) ?_
                      iterate 5 (first | go_big_quiet_step (((go_at_call 26; exact quiet_l (contains_any g6 k2 S.q j _ (by exact SEC.out) (by omega))))) | quiet_step (((go_at_call 26; exact quiet_l (contains_any g6 k2 S.q j _ (by exact SEC.out) (by omega))))))
                      refine wpQuiet_load39 g7 (j * 64) B.toArray (by rfl) (by rfl) (fun w hc => by obtain ⟨n, rfl⟩ := hc; exact l7 n) ?_
                      iterate 2 (first | go_big_quiet_step (((go_at_call 26; exact quiet_l (contains_any g6 k2 S.q j _ (by exact SEC.out) (by omega))))) | quiet_step (((go_at_call 26; exact quiet_l (contains_any g6 k2 S.q j _ (by exact SEC.out) (by omega))))))
                      refine wpQuiet_load39 g14 (j * 64) B.toArray (by rfl) (by rfl) (fun w hc => by obtain ⟨n, rfl⟩ := hc; exact l14 n) ?_
                      repeat (first | go_big_quiet_step (((go_at_call 26; exact quiet_l (contains_any g6 k2 S.q j _ (by exact SEC.out) (by omega))))) | quiet_step (((go_at_call 26; exact quiet_l (contains_any g6 k2 S.q j _ (by exact SEC.out) (by omega))))))
                      refine wpQuiet_nil ?_
                      intro _ hw'
                      obtain ⟨nd, hw''⟩ := hw'
                      subst hw''
                      go_wp2_with fail
                      exact ⟨⟨j + 1, by omega, by go_num, hLd.out _ _ HW.out⟩, by simp [intOf]; omega⟩
                    · have hI : decide (In S.q k2 j) = false := decide_eq_false hin
                      rw [hml hin] at l15
                      clear hml hin
                      generalize H.getD j [] = B at *
                      go_wp2_with fail
                      refine wp_region_quiet_lit (by kernel_rfl) (by kernel_rfl) ?_
                      iterate 5 (first | go_big_quiet_step (((go_at_call 26; exact quiet_l (contains_any g6 k2 S.q j _ (by exact SEC.out) (by omega))))) | quiet_step (((go_at_call 26; exact quiet_l (contains_any g6 k2 S.q j _ (by exact SEC.out) (by omega))))))
                      refine wpQuiet_load39 g7 (j * 64) B.toArray (by rfl) (by rfl) (fun w hc => by obtain ⟨n, rfl⟩ := hc; exact l7 n) ?_
                      iterate 2 (first | go_big_quiet_step (((go_at_call 26; exact quiet_l (contains_any g6 k2 S.q j _ (by exact SEC.out) (by omega))))) | quiet_step (((go_at_call 26; exact quiet_l (contains_any g6 k2 S.q j _ (by exact SEC.out) (by omega))))))
                      refine wpQuiet_load39 g14 (j * 64) B.toArray (by rfl) (by rfl) (fun w hc => by obtain ⟨n, rfl⟩ := hc; exact l14 n) ?_
                      iterate 10 (first | go_big_quiet_step (((go_at_call 26; exact quiet_l (contains_any g6 k2 S.q j _ (by exact SEC.out) (by omega))))) | quiet_step (((go_at_call 26; exact quiet_l (contains_any g6 k2 S.q j _ (by exact SEC.out) (by omega))))))
                      refine wpQuiet_load39 g15 (j * 64) B.toArray (by rfl) (by rfl) (fun w hc => by obtain ⟨n, rfl⟩ := hc; exact l15 n) ?_
                      iterate 2 (first | go_big_quiet_step (((go_at_call 26; exact quiet_l (contains_any g6 k2 S.q j _ (by exact SEC.out) (by omega))))) | quiet_step (((go_at_call 26; exact quiet_l (contains_any g6 k2 S.q j _ (by exact SEC.out) (by omega))))))
                      refine wpQuiet_load39 g14 (j * 64) B.toArray (by rfl) (by rfl) (fun w hc => by obtain ⟨n, rfl⟩ := hc; exact l14 n) ?_
                      repeat (first | go_big_quiet_step (((go_at_call 26; exact quiet_l (contains_any g6 k2 S.q j _ (by exact SEC.out) (by omega))))) | quiet_step (((go_at_call 26; exact quiet_l (contains_any g6 k2 S.q j _ (by exact SEC.out) (by omega))))))
                      refine wpQuiet_nil ?_
                      intro _ hw'
                      obtain ⟨nd, hw''⟩ := hw'
                      subst hw''
                      go_wp2_with fail
                      exact ⟨⟨j + 1, by omega, by go_num, hLd.out _ _ HW.out⟩, by simp [intOf]; omega⟩
            · have hj9 : j = 9 := by omega
              subst hj9
              have hall := HW.out
              rw [HL.out] at hall
              have HB := Lib.hid hall.1.below
              clear hall HW
              go_wp2_with fail
              go_ret
              exact ⟨rfl, HB.out⟩

end Go.Proofs.Ythhpaejeplninaa
