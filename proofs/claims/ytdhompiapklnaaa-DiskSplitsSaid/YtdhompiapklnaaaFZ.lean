/-
  A frame that keeps every queue: what crash and read leave as it was.
-/
import Derived.Test.YtdhompiapklnaaaSy
import Derived.Test.YtdhompiapklnaaaCr
import Derived.Laws.EntriesVeiled
namespace Go.Proofs.Ytdhompiapklnaaa
open Go.RowKit Go.Shelf
attribute [local go_sem ↓] Try.z39 Try.z86 Go.wp_at_zero Go.wp_at_succ

/-- Nothing but p, gs and new blocks. -/
structure Fz (base p gs : Nat) (w w' : World) : Prop where
  os : w'.os = w.os
  tape : w'.tape = w.tape
  output : w'.output = w.output
  size : w.heap.size ≤ w'.heap.size
  block : ∀ i, i < w.heap.size → (i < base ∨ (i ≠ p ∧ i ≠ gs)) → w'.heap[i]? = w.heap[i]?
section
variable {w w' w'' : World} {base p gs : Nat}
theorem Fz.refl (base p gs : Nat) (w : World) : Fz base p gs w w := ⟨rfl, rfl, rfl, Nat.le_refl _, fun _ _ _ => rfl⟩
theorem Fz.trans (h : Fz base p gs w w') (k : Fz base p gs w' w'') : Fz base p gs w w'' :=
  ⟨k.os.trans h.os, k.tape.trans h.tape, k.output.trans h.output, Nat.le_trans h.size k.size, fun i hi hc => by
    have e := h.block i hi hc
    exact (k.block i (Nat.lt_of_lt_of_le hi h.size) hc).trans e⟩
theorem Fz.of_below (h : Below w.heap.size w w') : Fz base p gs w w' := ⟨h.os, h.tape, h.output, h.size, fun i hi _ => h.block i hi⟩
theorem Fz.alloc (h : Fz base p gs w w') (o : Obj) : Fz base p gs w (w'.alloc o) := h.trans (.of_below ((Below.refl _ _).alloc (Nat.le_refl _) o))
theorem Fz.below (h : Fz base p gs w w') (hb : base ≤ w.heap.size) : Below base w w' := ⟨h.os, h.tape, h.output, h.size, fun i hi => h.block i (by omega) (.inl hi)⟩
theorem Fz.set (h : Fz base p gs w w') (hb : base ≤ p) (i : Nat) (u : Value) : Fz base p gs w (w'.setCell ⟨p, i, none⟩ u) :=
  h.trans ⟨rfl, rfl, rfl, by simp [World.setCell], fun i hi hc => Below.heap_setCell w' _ u i (by show i ≠ p; omega)⟩
theorem Fz.drew (h : Fz base p gs w w') (n : Nat) : Fz base p gs w (w'.drewN n) := ⟨h.os, h.tape, h.output, h.size, h.block⟩
end

theorem Fz.setCells {base p gs : Nat} {w w' : World} (h : Fz base p gs w w') (hb : base ≤ gs) (o : Nat) (vs : List Value) : Fz base p gs w (w'.setCells gs o vs) := by
  obtain ⟨h1, h2, h3, h4⟩ := setCells_rest vs w' gs o
  exact h.trans ⟨h1, h2, h3, Nat.le_of_eq h4.symm, fun i hi hc => heap_setCells_other vs w' gs o i (by omega)⟩

/-- Where the emptying stands: the first j writes are done or lost. -/
structure Ez (w : World) (base p gs cs : Nat) (Aq : Option Addr) (cq : Nat) (S : DSt) (done : Nat → Bool) (j : Nat) (wr : World) : Prop where
  blk : Blk wr p 73 (dcells gs S.has.length cs (.slice Aq S.q.length cq) S)
  sec : Own wr base 39 64 (.slice (some ⟨gs, 0, none⟩) S.has.length cs) (doN done S.q S.has j)
  que : Own wr base 86 65 (.slice Aq S.q.length cq) (S.q.map put1)
  fr : Fz base p gs w wr

section
variable {w wr : World} {base p gs cs : Nat} {Aq : Option Addr} {cq : Nat} {S : DSt} {done : Nat → Bool} {j : Nat}
theorem Ez.skip (h : Ez w base p gs cs Aq cq S done j wr) (hd : done j = false) (o : Obj) : Ez w base p gs cs Aq cq S done (j + 1) (wr.alloc o) :=
  ⟨h.blk.alloc o, by rw [doN, if_neg (by rw [hd]; simp)]; exact h.sec.alloc o, h.que.alloc o, h.fr.alloc o⟩
theorem Ez.step (h : Ez w base p gs cs Aq cq S done j wr) (ok : S.ok) (hj : j < S.q.length) (hd : done j = true) (o : Obj) : Ez w base p gs cs Aq cq S done (j + 1) ((wr.alloc o).drew.setCells gs ((S.q.getD j (0, [])).1.toNat * 64) (S.q.getD j (0, [])).2) := by
  obtain ⟨hb, h0, h1⟩ := ok.at_ hj
  have hs : Own (wr.alloc o).drew base 39 64 (.slice (some ⟨gs, 0, none⟩) S.has.length cs) (doN done S.q S.has j) := h.sec.alloc o
  obtain ⟨hbg, cur, hbl⟩ := hs.gs
  have hbk : Blk (wr.alloc o).drew p 73 (dcells gs S.has.length cs (.slice Aq S.q.length cq) S) := h.blk.alloc o
  refine ⟨hbk.setCells_far (hbk.ne hbl (by decide)) _ _, ?_, ?_, (h.fr.alloc o).trans ((Fz.refl _ _ _ _).drew 1 |>.trans (Fz.setCells (Fz.refl _ _ _ (wr.alloc o).drew) hbg _ _))⟩
  · rw [doN, if_pos hd]
    exact hs.store rfl (by rw [doN_len]; omega) hb.1
  · exact Own.keep (show Own (wr.alloc o).drew base 86 65 _ _ from h.que.alloc o) fun g cur' _ _ hg => heap_setCells_other _ _ _ _ g (hg.ne hbl (by decide))
theorem Ez.fin (h : Ez w base p gs cs Aq cq S done S.q.length wr) (ok : S.ok) (hb : base ≤ p) : Dk (wr.setCell ⟨p, 1, none⟩ (.slice none 0 0)) base p gs { S with has := doN done S.q S.has S.q.length, q := [] } := by
  obtain ⟨hgb, cur, hgl⟩ := h.sec.gs
  refine ⟨⟨cs, .slice none 0 0, ?_, ?_, Own.nil _ _ _ _⟩, hb, ⟨doN_ok ok _ _ (Nat.le_refl _), fun e he => by simp at he, ok.armed, ok.doomed, ok.armed', ok.doomed'⟩⟩
  · show Blk _ p 73 (dcells gs (doN done S.q S.has S.q.length).length cs _ _)
    rw [doN_len]
    exact h.blk.set_ 1 _
  · show Own _ base 39 64 (.slice (some ⟨gs, 0, none⟩) (doN done S.q S.has S.q.length).length cs) (doN done S.q S.has S.q.length)
    rw [doN_len]
    exact h.sec.keep fun g cur' _ _ hg => Below.heap_setCell wr _ _ g (hg.ne h.blk (by decide))
end

set_option maxRecDepth 100000 in
set_option maxHeartbeats 8000000 in
theorem empty65z (w : World) (base p gs : Nat) (S : DSt) (a1 a2 : Value) (done : Nat → Bool) (h : Dk w base p gs S) (hq : S.q.length ≤ 1000000)
    (hdone : ∀ wr, Fz base p gs w wr → ∀ k : Nat, k < S.q.length → Calls Try.prog 65 #[.int .i64 (k : Int), a1, a2] wr fun e w' => e = .returned (.bool (done k)) ∧ wr = w') :
    Calls Try.prog 51 #[.pointer (some ⟨p, 0, none⟩), .func (.func 65) #[] #[a1, a2]] w fun e w' => (∃ v, e = .returned v) ∧ Dk w' base p gs { S with has := doN done S.q S.has S.q.length, q := [] } ∧ Fz base p gs w w' := by
  have ok := h.ok
  have hbase := h.base
  obtain ⟨cs, vq, hb, ho, hw⟩ := h.own
  obtain ⟨Aq, cq, hvq⟩ := hw.val
  rw [List.length_map] at hvq
  subst hvq
  have hp := h.lt
  have hc1 : w.cell? ⟨p, 1, none⟩ = some (.slice Aq S.q.length cq) := hb.cell 1
  have st : Ez w base p gs cs Aq cq S done 0 w := ⟨hb, ho, hw, Fz.refl _ _ _ _⟩
  have OK := Lib.hid ok
  have HD := Lib.hid hdone
  clear h hb ho hw ok hdone
  go_enter Try.func51, Try.ntmps51
  go_wp2
  go_loopw [11] (fun i wr => ∃ j : Nat, j ≤ S.q.length ∧ i = .int .i64 j ∧ Ez w base p gs cs Aq cq S done j wr) (fun i _ => S.q.length - (intOf i).toNat)
  case atStart => exact ⟨0, Nat.zero_le _, rfl, st⟩
  case round =>
    clear st hc1
    obtain ⟨j, hj, rfl, st⟩ := hrel
    have ST := Lib.hid st
    by_cases hlt : j < S.q.length
    · obtain ⟨hbe, hs0, hs1⟩ := OK.out.at_ hlt
      obtain ⟨g, rfl, hr, _⟩ := qAt (wr := wr) st.que (fun e he => (OK.out.q e he).1) hlt (Below.refl _ _)
      obtain ⟨hgb, cur, hgl⟩ := st.sec.gs
      have hgs := hgl.lt
      have hpp := st.blk.lt
      have hdn := HD.out _ (st.fr.alloc (.cells (put1 (S.q.getD j (0, []))).toArray 86)) j hlt
      have c0 : wr.cell? ⟨p, 0, none⟩ = some (.slice (some ⟨gs, 0, none⟩) S.has.length cs) := st.blk.cell 0
      have hth : wr.there gs ((S.q.getD j (0, [])).1.toNat * 64) 64 := st.sec.there rfl (by rw [doN_len]; omega)
      have hstep := fun hd => st.step OK.out hlt hd (.cells (put1 (S.q.getD j (0, []))).toArray 86)
      have hskip := fun hd => st.skip hd (.cells (put1 (S.q.getD j (0, []))).toArray 86)
      generalize hE : S.q.getD j (0, []) = E at *
      obtain ⟨s, b⟩ := E
      dsimp only at hs0 hs1 hbe hth hstep
      obtain ⟨m, rfl⟩ := Int.eq_ofNat_of_zero_le hs0
      rw [Int.toNat_natCast] at hth hstep
      have hone := Lib.hid (put1_one (e := ((m : Int), b)) hbe)
      have hi86 := Lib.hid (show (Try.prog.info? 86).map (·.size) = some (put1 ((m : Int), b)).length by rw [put1_len hbe]; exact Try.i86)
      have hz := Lib.hid (show (Value.int .i64 0 :: Z0).toArray.size = (put1 ((m : Int), b)).length by rw [put1_len hbe]; rfl)
      have hR := Lib.hid hr
      have hl64 := hbe.1
      have hone1 := hbe.one
      have i39 : (Try.prog.info? 39).map (·.size) = some b.length := by rw [hl64]; exact Try.i39
      have hu := Try.underlying39
      have x0 : (wr.alloc (.cells (put1 ((m : Int), b)).toArray 86)).cell? ⟨wr.heap.size, 0, none⟩ = some (.int .i64 (m : Int)) := (Blk.new wr 86 _).cell 0
      have xr : (wr.alloc (.cells (put1 ((m : Int), b)).toArray 86)).rangeAt wr.heap.size 1 b := by
        intro i v hi
        rw [(Blk.new wr 86 _).cell (1 + i), List.getElem?_toArray, Nat.add_comm, put1, List.getElem?_cons_succ]
        exact hi
      have xt := World.there_alloc hth (.cells (put1 ((m : Int), b)).toArray 86)
      have xc : (wr.alloc (.cells (put1 ((m : Int), b)).toArray 86)).cell? ⟨p, 0, none⟩ = some (.slice (some ⟨gs, 0, none⟩) S.has.length cs) := Lib.cell?_alloc_some _ c0
      have HDN := Lib.hid hdn
      have HST := Lib.hid hstep
      have HSK := Lib.hid hskip
      have hp1 : p ≠ gs := st.blk.ne hgl (by decide)
      clear hr hE hbe st hdn hth c0 hstep hskip hgl
      have hlt' : decide (j < S.q.length) = true := by simpa using hlt
      go_wp2_with (first
        | ((with_reducible refine at_load (t := 86) ?_); refine wpList_load_mid rfl 86 _ rfl g (j * 65) rfl (put1 ((m : Int), b)) _ hR.out Try.underlying86 rfl hi86.out ?_)
        | ((with_reducible refine at_store (t := 86) ?_); refine wpList_store_new wr rfl 86 _ _ rfl _ _ _ (put1 ((m : Int), b)) rfl rfl rfl hz.out hi86.out hone.out ?_))
      refine HDN.out.mono ?_
      rintro e w1 ⟨rfl, rfl⟩
      have hwn : wr.heap.size < (wr.alloc (.cells (put1 ((m : Int), b)).toArray 86)).heap.size := by simp
      have hw2 : wr.heap.size ≠ gs := by omega
      generalize wr.alloc (.cells (put1 ((m : Int), b)).toArray 86) = wb at *
      generalize wr.heap.size = x at *
      clear HDN hR hone hi86 hz
      cases hd : done j with
      | false =>
        have HS := Lib.hid (HSK.out hd)
        clear HSK HST hd
        go_wp2
        exact ⟨⟨j + 1, by omega, by go_num, HS.out⟩, by simp [intOf]; omega⟩
      | true =>
        have HS := Lib.hid (HST.out hd)
        clear HSK HST hd
        have hm0 : (0 : Int) ≤ (m : Int) := by omega
        have hm1 : (m : Int) < (S.has.length : Int) := hs1
        have K1 : (wb.drew.setCells gs (m * 64) b).cell? ⟨p, 0, none⟩ = some (.slice (some ⟨gs, 0, none⟩) S.has.length cs) ∧ (wb.drew.setCells gs (m * 64) b).cell? ⟨x, 0, none⟩ = some (.int .i64 (m : Int)) ∧ (wb.drew.setCells gs (m * 64) b).rangeAt x 1 b ∧ (wb.drew.setCells gs (m * 64) b).there gs (m * 64) 64 :=
          ⟨by rw [World.cell?_setCells_out _ _ _ _ _ (fun e _ => absurd e hp1)]; exact xc, by rw [World.cell?_setCells_out _ _ _ _ _ (fun e _ => absurd e hw2)]; exact x0, World.rangeAt_setCells_apart (w := wb.drew) xr _ _ _ (.inl hw2), World.there_setCells (w := wb.drew) xt _ _ _⟩
        have HK1 := Lib.hid K1
        clear K1
        go_wp2_with fail
        go_region_held3 (fun w' => w'.cell? ⟨p, 0, none⟩ = some (.slice (some ⟨gs, 0, none⟩) S.has.length cs) ∧ w'.cell? ⟨x, 0, none⟩ = some (.int .i64 (m : Int)) ∧ w'.rangeAt x 1 b ∧ w'.there gs (m * 64) 64) (first | exact HK1.out | go_keep_ranges | go_keep) (fail)
        go_wp2
        exact ⟨⟨j + 1, by omega, by go_num, HS.out⟩, by simp [intOf]; omega⟩
    · obtain rfl : j = S.q.length := by omega
      have c1 : wr.cell? ⟨p, 1, none⟩ = some (.slice Aq S.q.length cq) := st.blk.cell 1
      have f1 := st.blk.frozen 1
      clear st
      go_wp2
      go_end0
      exact ⟨⟨_, rfl⟩, ST.out.fin OK.out hbase, ST.out.fr.set hbase _ _⟩

theorem Blk.fz {w w' : World} {base p gs g : Nat} {t : TypeId} {cs : Array Value} (h : Blk w g t cs) (hf : Fz base p gs w w') (hp : g ≠ p) (hg : g ≠ gs) (_ht : t ≠ 86) : Blk w' g t cs :=
  (hf.block g h.lt (.inr ⟨hp, hg⟩)).trans h
theorem Kb.fz {w w' : World} {base p gs : Nat} {S : DSt} {A : Option Addr} {ks : List Bool} (h : Kb w base A ks) (hd : Dk w base p gs S) (hf : Fz base p gs w w') : Kb w' base A ks := fun hn => by
  obtain ⟨b, o, e, hb, hs, hc⟩ := h hn
  obtain ⟨cs, vq, hbk, ho, _⟩ := hd.own
  obtain ⟨_, cur', hgl⟩ := ho.gs
  have hbl : w'.heap[b]? = w.heap[b]? := by
    rcases hs with hs | ⟨cur, hs⟩
    · exact hf.block b hb (.inl hs)
    · exact (hs.fz hf (hs.ne hbk (by decide)) (hs.ne hgl (by decide)) (by decide)).trans hs.symm
  refine ⟨b, o, e, Nat.lt_of_lt_of_le hb hf.size, ?_, fun j hj => (World.cell?_of_block (a := ⟨b, o + j, none⟩) hbl).trans (hc j hj)⟩
  rcases hs with hs | ⟨cur, hs⟩
  · exact .inl hs
  · exact .inr ⟨cur, hbl.trans hs⟩

/-- What a call leaves that answers an error. -/
def Leftz (w : World) (base p gs : Nat) (S' : DSt) (er : Int) (e : Ending) (w' : World) : Prop := e = .returned (.int .i64 er) ∧ Dk w' base p gs S' ∧ Fz base p gs w w'

set_option maxHeartbeats 1000000 in
theorem crash_anyz (w : World) (base p gs : Nat) (S : DSt) (A : Option Addr) (c : Nat) (ks : List Bool) (h : Dk w base p gs S) (hq : S.q.length ≤ 1000000) (hk : Kb w base A ks) (hl : ks.length ≤ 9223372036854775807) :
    Calls Try.prog 30 #[.pointer (some ⟨p, 0, none⟩), .slice A ks.length c] w (Leftz w base p gs (crashed S ks) 0) := by
  obtain ⟨cs, vq, hb, ho, hw⟩ := h.own
  obtain ⟨Aq, cq, hvq⟩ := hw.val
  rw [List.length_map] at hvq
  subst hvq
  have hc1 : w.cell? ⟨p, 1, none⟩ = some (.slice Aq S.q.length cq) := hb.cell 1
  have hcall := Lib.hid (outlasts_any Aq cq S.q base A c ks w hw hq (fun e he => (h.ok.q e he).1) hk.bs hl)
  have HH := Lib.hid h
  have HKB := Lib.hid hk
  clear hb ho hw hk h
  go_enter Try.func30, Try.ntmps30
  go_wp2_with fail
  refine hcall.out.mono ?_
  rintro e w2 ⟨kb, b1, b2, rfl, k0, k1, k2, hB2⟩
  clear hcall hc1
  have d2 := HH.out.below hB2
  have hk2 := HKB.out.below hB2
  obtain ⟨cs2, vq2, hb2, ho2, _⟩ := d2.own
  obtain ⟨_, cur2, hgl2⟩ := ho2.gs
  have hem := Lib.hid (empty65z w2 base p gs S (.pointer (some ⟨b1, 0, none⟩)) (.pointer (some ⟨b2, 0, none⟩)) (dn S.q.length ks) d2 hq fun wr hf k hk =>
    done65 A c ks S.q.length wr wr.heap.size kb b1 b2 k (hk2.fz d2 hf).bs ((k0.fz hf (k0.ne hb2 (by decide)) (k0.ne hgl2 (by decide)) (by decide)).cell 0) ((k1.fz hf (k1.ne hb2 (by decide)) (k1.ne hgl2 (by decide)) (by decide)).cell 0) ((k2.fz hf (k2.ne hb2 (by decide)) (k2.ne hgl2 (by decide)) (by decide)).cell 0) hl hk hq)
  clear k0 k1 k2 hk2 hb2 ho2 hgl2 d2
  go_wp2_with fail
  refine hem.out.mono ?_
  rintro e w3 ⟨⟨v, rfl⟩, d3, f3⟩
  have hF : Fz base p gs w w3 := (Fz.of_below hB2).trans f3
  clear hem f3 hB2
  obtain ⟨cs3, vq3, hb3, _⟩ := d3.own
  have hp3 := hb3.lt
  have p2 : w3.cell? ⟨p, 2, none⟩ = some (.int .i64 S.armed) := hb3.cell 2
  have p3 : w3.cell? ⟨p, 3, none⟩ = some (.int .i64 S.doomed) := hb3.cell 3
  have p4 : w3.cell? ⟨p, 4, none⟩ = some (.bool S.dead) := hb3.cell 4
  have f2 := hb3.frozen 2
  have f3 := hb3.frozen 3
  have f4 := hb3.frozen 4
  have fin : ∀ o : Obj, Leftz w base p gs (crashed S ks) 0 (.returned (.int .i64 0)) ((((w3.setCell ⟨p, 2, none⟩ (.int .i64 (-1))).setCell ⟨p, 3, none⟩ (.int .i64 (-1))).setCell ⟨p, 4, none⟩ (.bool false)).alloc o) := fun o => by
    refine ⟨rfl, Dk.alloc ?_ o, ((((hF.set HH.out.base 2 _).set HH.out.base 3 _).set HH.out.base 4 _)).alloc o⟩
    refine d3.turn (fun cs vq hb => ((hb.set_ 2 _).set_ 3 _).set_ 4 _) (fun k hk => ?_) rfl rfl (crashed_ok HH.out.ok ks)
    rw [Below.heap_setCell _ _ _ k hk, Below.heap_setCell _ _ _ k hk, Below.heap_setCell _ _ _ k hk]
  have FIN := Lib.hid fin
  clear fin d3 hF hb3
  go_wp2_with (go_at_call 34; refine (noCounts_new _).mono ?_; rintro e w' ⟨rfl, rfl⟩)
  go_ret
  exact FIN.out _

set_option maxHeartbeats 2000000 in
/-- A request that does not go well. -/
theorem ask_errz (f : FuncId) (caps : Array Value) (ch : Bool) (i : Int) (w : World) (base p gs : Nat) (S : DSt) (h : Dk w base p gs S) (he : askErr S ch i ≠ 0) :
    Calls Try.prog 49 #[.pointer (some ⟨p, 0, none⟩), .bool ch, .int .i64 i, .func (.func f) #[] caps] w (Leftz w base p gs (askSt S ch i) (askErr S ch i)) := by
  obtain ⟨cs, vq, hb, _⟩ := h.own
  have hp := hb.lt
  have f3 := hb.frozen 3
  have f4 := hb.frozen 4
  have h0 : w.cell? ⟨p, 0, none⟩ = some (.slice (some ⟨gs, 0, none⟩) S.has.length cs) := hb.cell 0
  have h2 : w.cell? ⟨p, 2, none⟩ = some (.int .i64 S.armed) := hb.cell 2
  have h3 : w.cell? ⟨p, 3, none⟩ = some (.int .i64 S.doomed) := hb.cell 3
  have h4 : w.cell? ⟨p, 4, none⟩ = some (.bool S.dead) := hb.cell 4
  by_cases hd : S.dead = true
  · have fin : Leftz w base p gs (askSt S ch i) (askErr S ch i) (.returned (.int .i64 9)) w := by
      rw [show askErr S ch i = 9 by simp [askErr, hd], show askSt S ch i = S by simp [askSt, hd]]
      exact ⟨rfl, h, Fz.refl _ _ _ _⟩
    rw [hd] at h4
    have F := Lib.hid fin
    clear fin h hb he hd
    go_enter Try.func49, Try.ntmps49
    go_wp2_with (go_at_call 61; refine (power_dead _ _ h4).mono ?_; rintro e w' ⟨rfl, rfl⟩)
    go_ret
    exact F.out
  · have hd' : S.dead = false := by simpa using hd
    rw [hd'] at h4
    by_cases hr : 0 ≤ i ∧ i < S.has.length
    · obtain ⟨hr0, hr1⟩ := hr
      by_cases ha : ch = true ∧ S.armed = 0
      · have fin : Leftz w base p gs (askSt S ch i) (askErr S ch i) (.returned (.int .i64 9)) (w.setCell ⟨p, 4, none⟩ (.bool true)) := by
          rw [show askErr S ch i = 9 by simp [askErr, hd', hr0, hr1, ha], show askSt S ch i = { S with dead := true } by simp [askSt, hd', hr0, hr1, ha]]
          exact ⟨rfl, h.turn (fun cs vq hb => hb.set_ 4 _) (fun k hk => Below.heap_setCell w _ _ k hk) rfl rfl ⟨h.ok.has, h.ok.q, h.ok.armed, h.ok.doomed, h.ok.armed', h.ok.doomed'⟩, (Fz.refl _ _ _ _).set h.base _ _⟩
        obtain ⟨rfl, ha⟩ := ha
        rw [ha] at h2
        have F := Lib.hid fin
        clear fin h hb he hd hd' ha
        have hn0 : ¬ (i < 0) := by omega
        have hn1 : ¬ ((S.has.length : Int) ≤ i) := by omega
        go_enter Try.func49, Try.ntmps49
        go_wp2_with (first | (go_at_call 61; refine (power_ok _ _ h4).mono ?_; rintro e w' ⟨rfl, rfl⟩) | (go_at_call 62; refine (meet_dead _ _ h2).mono ?_; rintro e w' ⟨rfl, rfl⟩))
        go_ret
        exact F.out
      · by_cases hz : S.doomed = 0
        · have fin : Leftz w base p gs (askSt S ch i) (askErr S ch i) (.returned (.int .i64 8)) ((w.setCell ⟨p, 3, none⟩ (.int .i64 (-1))).setCell ⟨p, 4, none⟩ (.bool false)) := by
            rw [show askErr S ch i = 8 by simp only [askErr]; rw [if_neg (by simp [hd']), if_pos ⟨hr0, hr1⟩, if_neg ha, if_pos hz], show askSt S ch i = { S with doomed := -1 } by simp only [askSt]; rw [if_neg (by simp [hd']), if_pos ⟨hr0, hr1⟩, if_neg ha, if_pos hz]]
            refine ⟨rfl, h.turn (fun cs vq hb => ?_) (fun k hk => ?_) rfl rfl ⟨h.ok.has, h.ok.q, h.ok.armed, by simp, h.ok.armed', by simp⟩, ((Fz.refl _ _ _ _).set h.base _ _).set h.base _ _⟩
            · have := (hb.set_ 3 (.int .i64 (-1))).set_ 4 (.bool false)
              simpa [dcells, hd'] using this
            · rw [Below.heap_setCell _ _ _ k hk, Below.heap_setCell _ _ _ k hk]
          have hm : ch = false ∨ (S.armed == 0) = false := by
            cases ch with
            | false => exact .inl rfl
            | true => exact .inr (by simpa using ha)
          rw [hz] at h3
          have F := Lib.hid fin
          have HM := Lib.hid hm
          clear fin h hb he hd hd' hz ha hm
          have hn0 : ¬ (i < 0) := by omega
          have hn1 : ¬ ((S.has.length : Int) ≤ i) := by omega
          go_enter Try.func49, Try.ntmps49
          go_wp2_with (first | (go_at_call 61; refine (power_ok _ _ h4).mono ?_; rintro e w' ⟨rfl, rfl⟩) | (go_at_call 62; refine (meet_io _ _ _ _ HM.out h2 h3 f3).mono ?_; rintro e w' ⟨rfl, rfl⟩))
          go_ret
          exact F.out
        · exact absurd (by simp only [askErr]; rw [if_neg (by simp [hd']), if_pos ⟨hr0, hr1⟩, if_neg ha, if_neg hz]) he
    · have fin : Leftz w base p gs (askSt S ch i) (askErr S ch i) (.returned (.int .i64 2)) w := by
        rw [show askErr S ch i = 2 by simp only [askErr]; rw [if_neg (by simp [hd']), if_neg hr], show askSt S ch i = S by simp only [askSt]; rw [if_neg (by simp [hd']), if_neg hr]]
        exact ⟨rfl, h, Fz.refl _ _ _ _⟩
      have F := Lib.hid fin
      clear fin h hb he hd hd'
      by_cases hn0 : i < 0
      · clear hr
        go_enter Try.func49, Try.ntmps49
        go_wp2_with (go_at_call 61; refine (power_ok _ _ h4).mono ?_; rintro e w' ⟨rfl, rfl⟩)
        go_ret
        exact F.out
      · have hn1 : (S.has.length : Int) ≤ i := by omega
        clear hr
        go_enter Try.func49, Try.ntmps49
        go_wp2_with (go_at_call 61; refine (power_ok _ _ h4).mono ?_; rintro e w' ⟨rfl, rfl⟩)
        go_ret
        exact F.out

set_option maxHeartbeats 2000000 in
theorem ask_readz (a1 a2 a3 : Value) (i : Int) (w : World) (base p gs : Nat) (S : DSt) (H : List (List Value)) (Q : List (Int × List Value)) (X : World → Prop) (h : Dk w base p gs S) (he : askErr S false i = 0)
    (hact : ∀ w1, Dk w1 base p gs (ahead S false i) → Fz base p gs w w1 → Calls Try.prog 54 #[a1, a2, a3] w1 fun e w2 => (∃ v, e = .returned v) ∧ Dk w2 base p gs { ahead S false i with has := H, q := Q } ∧ X w2)
    (hX : ∀ w2 u, X w2 → X (w2.setCell ⟨p, 5, none⟩ u)) :
    Calls Try.prog 49 #[.pointer (some ⟨p, 0, none⟩), .bool false, .int .i64 i, .func (.func 54) #[] #[a1, a2, a3]] w fun e w' => e = .returned (.int .i64 0) ∧ Dk w' base p gs { askSt S false i with has := H, q := Q } ∧ X w' := by
  obtain ⟨hd, hr0, hr1, ha, hz, hst⟩ := askErr_zero he
  have hbase := h.base
  have ok := h.ok
  obtain ⟨cs, vq, hb, _⟩ := h.own
  have hp := hb.lt
  have f2 := hb.frozen 2
  have f3 := hb.frozen 3
  have h0 : w.cell? ⟨p, 0, none⟩ = some (.slice (some ⟨gs, 0, none⟩) S.has.length cs) := hb.cell 0
  have h2 : w.cell? ⟨p, 2, none⟩ = some (.int .i64 S.armed) := hb.cell 2
  have h3 : w.cell? ⟨p, 3, none⟩ = some (.int .i64 S.doomed) := hb.cell 3
  have h4 : w.cell? ⟨p, 4, none⟩ = some (.bool S.dead) := hb.cell 4
  rw [hd] at h4
  have hn0 : ¬ (i < 0) := by omega
  have hn1 : ¬ ((S.has.length : Int) ≤ i) := by omega
  have HM := Lib.hid (meet_read p S.doomed w hz ok.doomed ok.doomed' h3 f3)
  have f1 : Fz base p gs w (w.setCell ⟨p, 3, none⟩ (.int .i64 (less S.doomed))) := (Fz.refl _ _ _ _).set hbase _ _
  have d1 : Dk (w.setCell ⟨p, 3, none⟩ (.int .i64 (less S.doomed))) base p gs (ahead S false i) := by
    have ok1 := ahead_ok ok false i
    have e1 : ahead S false i = { S with doomed := less S.doomed } := by unfold ahead; rw [hst]; rfl
    rw [e1] at ok1 ⊢
    exact h.turn (fun cs vq hb => hb.set_ 3 _) (fun k hk => Below.heap_setCell _ _ _ k hk) rfl rfl ok1
  clear ha
  have hcall := hact _ d1 f1
  have HC := Lib.hid hcall
  have HX := Lib.hid hX
  have HST := Lib.hid hst
  clear hcall hact hX d1 f1 h hb hst he
  go_enter Try.func49, Try.ntmps49
  go_wp2_with (first | (go_at_call 61; refine (power_ok _ _ h4).mono ?_; rintro e w' ⟨rfl, rfl⟩) | (go_at_call 62; refine HM.out.mono ?_; rintro e w' ⟨rfl, rfl⟩))
  refine HC.out.mono ?_
  rintro e w2 ⟨⟨v, rfl⟩, d2, hx⟩
  clear HC HM h0 h2 h3 h4 f2 f3
  obtain ⟨cs2, vq2, hb2, _⟩ := d2.own
  have hp2 := hb2.lt
  have p5 : w2.cell? ⟨p, 5, none⟩ = some (.int .i64 S.ops) := hb2.cell 5
  have f5 := hb2.frozen 5
  have fin : Dk (w2.setCell ⟨p, 5, none⟩ (.int .i64 (wrap64 (S.ops + 1)))) base p gs { askSt S false i with has := H, q := Q } := by
    have okS := d2.ok
    have ho : (askSt S false i).ops = wrap64 (S.ops + 1) := by rw [HST.out]
    refine d2.turn (fun cs vq hb => ?_) (fun k hk => Below.heap_setCell _ _ _ k hk) rfl rfl ⟨okS.has, okS.q, okS.armed, okS.doomed, okS.armed', okS.doomed'⟩
    rw [← ho]
    exact hb.set_ 5 _
  have FIN := Lib.hid fin
  clear fin d2 hb2
  go_wp2
  go_ret
  exact ⟨rfl, FIN.out, HX.out _ _ hx⟩

theorem Fz.grown {base p gs b : Nat} {w w1 w2 : World} (h : Fz base p gs w w1) (hg : w1.grownBy w2 (some b)) (hb : w.heap.size ≤ b) : Fz base p gs w w2 :=
  ⟨hg.os.trans h.os, hg.tape.trans h.tape, hg.output.trans h.output, Nat.le_trans h.size hg.size, fun i hi hc => (hg.block i (Nat.lt_of_lt_of_le hi h.size) (fun e => by injection e with e; omega)).trans (h.block i hi hc)⟩

/-- What Read leaves. -/
def Readz (w : World) (base p gs : Nat) (S : DSt) (i : Int) (e : Ending) (w' : World) : Prop := e = .returned (.tuple #[.agg (readB S i).toArray, .int .i64 (askErr S false i)]) ∧ Dk w' base p gs (askSt S false i) ∧ Fz base p gs w w'

set_option maxHeartbeats 1000000 in
theorem read_anyz (i : Int) (w : World) (base p gs : Nat) (S : DSt) (h : Dk w base p gs S) (hq : S.q.length ≤ 1000000) :
    Calls Try.prog 31 #[.pointer (some ⟨p, 0, none⟩), .int .i64 i] w (Readz w base p gs S i) := by
  have hgl := h.own
  obtain ⟨cs0, vq0, hb0, ho0, _⟩ := hgl
  obtain ⟨_, cur0, hgl0⟩ := ho0.gs
  have hgs := hgl0.lt
  have hpl := hb0.lt
  have hrb := readB_ok h.ok i
  have hB : Below w.heap.size w ((((w.alloc (.cells #[.pointer (some ⟨p, 0, none⟩)] 24)).alloc (.cells #[.int .i64 i] 3)).alloc (.cells Z0.toArray 39)).alloc (.cells Z0.toArray 39)) := ((((Below.refl _ w).alloc (Nat.le_refl _) _).alloc (by simp) _).alloc (by simp; omega) _).alloc (by simp; omega) _
  have b0 : Blk ((((w.alloc (.cells #[.pointer (some ⟨p, 0, none⟩)] 24)).alloc (.cells #[.int .i64 i] 3)).alloc (.cells Z0.toArray 39)).alloc (.cells Z0.toArray 39)) w.heap.size 24 #[.pointer (some ⟨p, 0, none⟩)] := (((Blk.new w 24 _).alloc _).alloc _).alloc _
  have b1 : Blk ((((w.alloc (.cells #[.pointer (some ⟨p, 0, none⟩)] 24)).alloc (.cells #[.int .i64 i] 3)).alloc (.cells Z0.toArray 39)).alloc (.cells Z0.toArray 39)) (w.heap.size + 1) 3 #[.int .i64 i] := ((Blk.new' (w.alloc _) 3 _ (by simp)).alloc _).alloc _
  have b2 : Blk ((((w.alloc (.cells #[.pointer (some ⟨p, 0, none⟩)] 24)).alloc (.cells #[.int .i64 i] 3)).alloc (.cells Z0.toArray 39)).alloc (.cells Z0.toArray 39)) (w.heap.size + 1 + 1) 39 Z0.toArray := (Blk.new' ((w.alloc _).alloc _) 39 _ (by simp)).alloc _
  have b3 : Blk ((((w.alloc (.cells #[.pointer (some ⟨p, 0, none⟩)] 24)).alloc (.cells #[.int .i64 i] 3)).alloc (.cells Z0.toArray 39)).alloc (.cells Z0.toArray 39)) (w.heap.size + 1 + 1 + 1) 39 Z0.toArray := Blk.new' (((w.alloc _).alloc _).alloc _) 39 _ (by simp)
  have d1 := h.below hB
  have f1 : Fz base p gs w _ := Fz.of_below hB
  have hcall : Calls Try.prog 49 #[.pointer (some ⟨p, 0, none⟩), .bool false, .int .i64 i, .func (.func 54) #[] #[.pointer (some ⟨w.heap.size, 0, none⟩), .pointer (some ⟨w.heap.size + 1, 0, none⟩), .pointer (some ⟨w.heap.size + 1 + 1 + 1, 0, none⟩)]] ((((w.alloc (.cells #[.pointer (some ⟨p, 0, none⟩)] 24)).alloc (.cells #[.int .i64 i] 3)).alloc (.cells Z0.toArray 39)).alloc (.cells Z0.toArray 39))
      fun e w' => e = .returned (.int .i64 (askErr S false i)) ∧ Dk w' base p gs (askSt S false i) ∧ Fz base p gs w w' ∧ Blk w' (w.heap.size + 1 + 1) 39 Z0.toArray ∧ Blk w' (w.heap.size + 1 + 1 + 1) 39 (readB S i).toArray := by
    generalize (((w.alloc (.cells #[.pointer (some ⟨p, 0, none⟩)] 24)).alloc (.cells #[.int .i64 i] 3)).alloc (.cells Z0.toArray 39)).alloc (.cells Z0.toArray 39) = W at *
    obtain ⟨cs, vq, hb, ho, _⟩ := d1.own
    by_cases he : askErr S false i = 0
    · obtain ⟨_, h0, h1⟩ := askErr_ok he
      obtain ⟨k, rfl⟩ := Int.eq_ofNat_of_zero_le h0
      rw [show readB S k = readAs S k by simp only [readB]; rw [if_pos he], he]
      refine (ask_readz _ _ _ k W base p gs S S.has S.q (fun w2 => Fz base p gs w w2 ∧ Blk w2 (w.heap.size + 1 + 1) 39 Z0.toArray ∧ Blk w2 (w.heap.size + 1 + 1 + 1) 39 (readAs S k).toArray) d1 he (fun w1 hd hf => ?_) (fun w2 u hx => ⟨hx.1.set h.base _ _, hx.2.1.far (by show _ ≠ p; omega) _, hx.2.2.far (by show _ ≠ p; omega) _⟩)).mono ?_
      · have c0 := b0.fz hf (by omega) (by omega) (by decide)
        have c1 := b1.fz hf (by omega) (by omega) (by decide)
        have c2 := b2.fz hf (by omega) (by omega) (by decide)
        have c3 := b3.fz hf (by omega) (by omega) (by decide)
        have e1 : (ahead S false k).q = S.q := askSt_q S false k
        have e2 : (ahead S false k).has = S.has := askSt_has S false k
        refine (read1 w1 base p gs w.heap.size (w.heap.size + 1) (w.heap.size + 1 + 1 + 1) k (ahead S false k) hd (by rw [e1]; exact hq) (by rw [e2]; omega) (c0.cell 0) (c1.cell 0) c3 (by omega)).mono ?_
        rintro e w2 ⟨hv, d2, hk2, hg2⟩
        rw [readAs_ahead] at hk2
        have e3 : ({ ahead S false k with has := S.has, q := S.q } : DSt) = ahead S false k := by
          simp only [← e1, ← e2]
        rw [e3]
        exact ⟨hv, d2, (f1.trans hf).grown hg2 (by omega), (hg2.block _ c2.lt (fun e => by injection e with e; omega)).trans c2, hk2⟩
      · rintro e w' ⟨he', hd, hf, k2, k3⟩
        have e4 : ({ askSt S false k with has := S.has, q := S.q } : DSt) = askSt S false k := by
          have e1 := askSt_q S false k
          have e2 := askSt_has S false k
          simp only [← e1, ← e2]
        rw [e4] at hd
        exact ⟨he', hd, hf, k2, k3⟩
    · rw [show readB S i = Z0 by simp only [readB]; rw [if_neg he]]
      refine (ask_errz 54 _ false i W base p gs S d1 he).mono ?_
      rintro e w' ⟨he', hd, hf⟩
      exact ⟨he', hd, f1.trans hf, b2.fz hf (by omega) (by omega) (by decide), b3.fz hf (by omega) (by omega) (by decide)⟩
  have HC := Lib.hid hcall
  have hone := Lib.hid hrb.one
  have hlen := Lib.hid hrb.1
  clear hcall h b0 b1 b2 b3 d1 f1 hB hgl0 hb0 ho0 hrb
  show Calls Try.prog 31 _ w fun e w' => e = .returned (.tuple #[.agg (readB S i).toArray, .int .i64 (askErr S false i)]) ∧ Dk w' base p gs (askSt S false i) ∧ Fz base p gs w w'
  generalize readB S i = R at *
  generalize askErr S false i = er at *
  generalize askSt S false i = S' at *
  go_enter Try.func31, Try.ntmps31
  go_wp2_with fail
  refine HC.out.mono ?_
  rintro e w2 ⟨rfl, d2, f2, k2, k3⟩
  clear HC
  have i39 := Lib.hid (show (Try.prog.info? 39).map (·.size) = some R.toArray.size by rw [List.size_toArray, hlen.out]; exact Try.i39)
  have ht := Lib.hid (there_blk k2 R.toArray.size (by rw [List.size_toArray, hlen.out]; exact Nat.le_refl _))
  have K2 := Lib.hid k2
  have K3 := Lib.hid k3
  clear k2 k3
  go_wp2_with (first
    | ((with_reducible refine at_load (t := 39) ?_); refine wpList_load_row rfl 39 _ rfl (w.heap.size + 1 + 1 + 1) rfl 39 R.toArray (0, 0) _ K3.out Try.underlying39 rfl i39.out ?_)
    | ((with_reducible refine at_store (t := 39) ?_); refine wpList_store_mid rfl 39 _ _ rfl (w.heap.size + 1 + 1) 0 R.toArray rfl rfl ht.out i39.out (all_oneCell_toArray hone.out) ?_))
  have kf := K2.out.setCells 0 R
  rw [lay_whole _ _ (by rw [hlen.out]; rfl)] at kf
  refine bodyPost_ret (ret_cell_tmp (p := 4) (u := 5) (ty := 39) rfl _ _ (w.heap.size + 1 + 1) 39 R.toArray _ rfl kf Try.underlying39 rfl i39.out) rfl ⟨rfl, ?_, ?_⟩
  · obtain ⟨cs, vq, hb, _, _⟩ := d2.own
    exact d2.keep (heap_setCells_other _ _ _ _ _ (by omega)) (heap_setCells_other _ _ _ _ _ (by omega)) fun g cur _ hg' => heap_setCells_other _ _ _ _ _ (hg'.ne K2.out (by decide))
  · obtain ⟨r1, r2, r3, r4⟩ := setCells_rest R w2 (w.heap.size + 1 + 1) 0
    exact f2.grown ⟨r1, r2, r3, Nat.le_of_eq r4.symm, fun k hk hne => heap_setCells_other _ _ _ _ _ (fun e => hne (by rw [e]))⟩ (by omega)

end Go.Proofs.Ytdhompiapklnaaa
