/-
  The queue emptied: what is done, and what is lost.
-/
import Derived.Test.YtdhompiapklnaaaLa
namespace Go.Proofs.Ytdhompiapklnaaa
open Go.RowKit Go.Shelf
attribute [local go_sem ↓] Try.z39 Try.z86 Go.wp_at_zero Go.wp_at_succ

theorem Fr.setCells {base p gs : Nat} {w w' : World} (h : Fr base p gs w w') (hb : base ≤ gs) (o : Nat) (vs : List Value) : Fr base p gs w (w'.setCells gs o vs) := by
  obtain ⟨h1, h2, h3, h4⟩ := setCells_rest vs w' gs o
  exact h.trans ⟨h1, h2, h3, Nat.le_of_eq h4.symm, fun i hi hc => heap_setCells_other vs w' gs o i (by omega)⟩

/-- Where the emptying stands: the first j writes are done or lost. -/
structure Em (w : World) (base p gs cs : Nat) (Aq : Option Addr) (cq : Nat) (S : DSt) (done : Nat → Bool) (j : Nat) (wr : World) : Prop where
  blk : Blk wr p 73 (dcells gs S.has.length cs (.slice Aq S.q.length cq) S)
  sec : Own wr base 39 64 (.slice (some ⟨gs, 0, none⟩) S.has.length cs) (doN done S.q S.has j)
  que : Own wr base 86 65 (.slice Aq S.q.length cq) (S.q.map put1)
  fr : Fr base p gs w wr

theorem Own.gs {w : World} {base : Nat} {t : TypeId} {k : Nat} {g n c : Nat} {l : List (List Value)} (h : Own w base t k (.slice (some ⟨g, 0, none⟩) n c) l) : base ≤ g ∧ ∃ cur, Blk w g t cur := by
  rcases h.form with ⟨hv, _⟩ | ⟨g', c', cur, hv, hb, hbl, _⟩
  · cases hv
  · injection hv with hv
    injection hv with hv
    injection hv with hv
    subst hv
    exact ⟨hb, cur, hbl⟩

section
variable {w wr : World} {base p gs cs : Nat} {Aq : Option Addr} {cq : Nat} {S : DSt} {done : Nat → Bool} {j : Nat}
theorem Em.skip (h : Em w base p gs cs Aq cq S done j wr) (hd : done j = false) (o : Obj) : Em w base p gs cs Aq cq S done (j + 1) (wr.alloc o) :=
  ⟨h.blk.alloc o, by rw [doN, if_neg (by rw [hd]; simp)]; exact h.sec.alloc o, h.que.alloc o, h.fr.alloc o⟩
theorem Em.step (h : Em w base p gs cs Aq cq S done j wr) (ok : S.ok) (hj : j < S.q.length) (hd : done j = true) (o : Obj) : Em w base p gs cs Aq cq S done (j + 1) ((wr.alloc o).drew.setCells gs ((S.q.getD j (0, [])).1.toNat * 64) (S.q.getD j (0, [])).2) := by
  obtain ⟨hb, h0, h1⟩ := ok.at_ hj
  have hs : Own (wr.alloc o).drew base 39 64 (.slice (some ⟨gs, 0, none⟩) S.has.length cs) (doN done S.q S.has j) := h.sec.alloc o
  obtain ⟨hbg, cur, hbl⟩ := hs.gs
  have hbk : Blk (wr.alloc o).drew p 73 (dcells gs S.has.length cs (.slice Aq S.q.length cq) S) := h.blk.alloc o
  refine ⟨hbk.setCells_far (hbk.ne hbl (by decide)) _ _, ?_, ?_, (h.fr.alloc o).trans ((Fr.refl _ _ _ _).drew 1 |>.trans (Fr.setCells (Fr.refl _ _ _ (wr.alloc o).drew) hbg _ _))⟩
  · rw [doN, if_pos hd]
    exact hs.store rfl (by rw [doN_len]; omega) hb.1
  · exact Own.keep (show Own (wr.alloc o).drew base 86 65 _ _ from h.que.alloc o) fun g cur' _ _ hg => heap_setCells_other _ _ _ _ g (hg.ne hbl (by decide))
theorem Em.fin (h : Em w base p gs cs Aq cq S done S.q.length wr) (ok : S.ok) (hb : base ≤ p) : Dk (wr.setCell ⟨p, 1, none⟩ (.slice none 0 0)) base p gs { S with has := doN done S.q S.has S.q.length, q := [] } := by
  obtain ⟨hgb, cur, hgl⟩ := h.sec.gs
  refine ⟨⟨cs, .slice none 0 0, ?_, ?_, Own.nil _ _ _ _⟩, hb, ⟨doN_ok ok _ _ (Nat.le_refl _), fun e he => by simp at he, ok.armed, ok.doomed, ok.armed', ok.doomed'⟩⟩
  · show Blk _ p 73 (dcells gs (doN done S.q S.has S.q.length).length cs _ _)
    rw [doN_len]
    exact h.blk.set_ 1 _
  · show Own _ base 39 64 (.slice (some ⟨gs, 0, none⟩) (doN done S.q S.has S.q.length).length cs) (doN done S.q S.has S.q.length)
    rw [doN_len]
    exact h.sec.keep fun g cur' _ _ hg => Below.heap_setCell wr _ _ g (hg.ne h.blk (by decide))
end

set_option maxRecDepth 100000 in
set_option maxHeartbeats 8000000 in
theorem empty65 (w : World) (base p gs : Nat) (S : DSt) (a1 a2 : Value) (done : Nat → Bool) (h : Dk w base p gs S) (hq : S.q.length ≤ 1000000)
    (hdone : ∀ wr, Fr base p gs w wr → ∀ k : Nat, k < S.q.length → Calls Try.prog 65 #[.int .i64 (k : Int), a1, a2] wr fun e w' => e = .returned (.bool (done k)) ∧ wr = w') :
    Calls Try.prog 51 #[.pointer (some ⟨p, 0, none⟩), .func (.func 65) #[] #[a1, a2]] w fun e w' => (∃ v, e = .returned v) ∧ Dk w' base p gs { S with has := doN done S.q S.has S.q.length, q := [] } ∧ Fr base p gs w w' := by
  have ok := h.ok
  have hbase := h.base
  obtain ⟨cs, vq, hb, ho, hw⟩ := h.own
  obtain ⟨Aq, cq, hvq⟩ := hw.val
  rw [List.length_map] at hvq
  subst hvq
  have hp := h.lt
  have hc1 : w.cell? ⟨p, 1, none⟩ = some (.slice Aq S.q.length cq) := hb.cell 1
  have st : Em w base p gs cs Aq cq S done 0 w := ⟨hb, ho, hw, Fr.refl _ _ _ _⟩
  have OK := Lib.hid ok
  have HD := Lib.hid hdone
  clear h hb ho hw ok hdone
  go_enter Try.func51, Try.ntmps51
  go_wp2
  go_loopw [11] (fun i wr => ∃ j : Nat, j ≤ S.q.length ∧ i = .int .i64 j ∧ Em w base p gs cs Aq cq S done j wr) (fun i _ => S.q.length - (intOf i).toNat)
  case atStart => exact ⟨0, Nat.zero_le _, rfl, st⟩
  case round =>
    clear st hc1
    obtain ⟨j, hj, rfl, st⟩ := hrel
    have ST := Lib.hid st
    by_cases hlt : j < S.q.length
    · obtain ⟨hbe, hs0, hs1⟩ := OK.out.at_ hlt
      obtain ⟨g, rfl, hr, _⟩ := qAt (wr := wr) st.que (fun e he => (OK.out.q e he).1) hlt (Below.refl _ _)
      obtain ⟨hgb, cur, hgl⟩ := st.sec.gs
      have hgs := hgl.lt
      have hpp := st.blk.lt
      have hdn := HD.out _ (st.fr.alloc (.cells (put1 (S.q.getD j (0, []))).toArray 86)) j hlt
      have c0 : wr.cell? ⟨p, 0, none⟩ = some (.slice (some ⟨gs, 0, none⟩) S.has.length cs) := st.blk.cell 0
      have hth : wr.there gs ((S.q.getD j (0, [])).1.toNat * 64) 64 := st.sec.there rfl (by rw [doN_len]; omega)
      have hstep := fun hd => st.step OK.out hlt hd (.cells (put1 (S.q.getD j (0, []))).toArray 86)
      have hskip := fun hd => st.skip hd (.cells (put1 (S.q.getD j (0, []))).toArray 86)
      generalize hE : S.q.getD j (0, []) = E at *
      obtain ⟨s, b⟩ := E
      dsimp only at hs0 hs1 hbe hth hstep
      obtain ⟨m, rfl⟩ := Int.eq_ofNat_of_zero_le hs0
      rw [Int.toNat_natCast] at hth hstep
      have hone := Lib.hid (put1_one (e := ((m : Int), b)) hbe)
      have hi86 := Lib.hid (show (Try.prog.info? 86).map (·.size) = some (put1 ((m : Int), b)).length by rw [put1_len hbe]; exact Try.i86)
      have hz := Lib.hid (show (Value.int .i64 0 :: Z0).toArray.size = (put1 ((m : Int), b)).length by rw [put1_len hbe]; rfl)
      have hR := Lib.hid hr
      have hl64 := hbe.1
      have hone1 := hbe.one
      have i39 : (Try.prog.info? 39).map (·.size) = some b.length := by rw [hl64]; exact Try.i39
      have hu := Try.underlying39
      have x0 : (wr.alloc (.cells (put1 ((m : Int), b)).toArray 86)).cell? ⟨wr.heap.size, 0, none⟩ = some (.int .i64 (m : Int)) := (Blk.new wr 86 _).cell 0
      have xr : (wr.alloc (.cells (put1 ((m : Int), b)).toArray 86)).rangeAt wr.heap.size 1 b := by
        intro i v hi
        rw [(Blk.new wr 86 _).cell (1 + i), List.getElem?_toArray, Nat.add_comm, put1, List.getElem?_cons_succ]
        exact hi
      have xt := World.there_alloc hth (.cells (put1 ((m : Int), b)).toArray 86)
      have xc : (wr.alloc (.cells (put1 ((m : Int), b)).toArray 86)).cell? ⟨p, 0, none⟩ = some (.slice (some ⟨gs, 0, none⟩) S.has.length cs) := Lib.cell?_alloc_some _ c0
      have HDN := Lib.hid hdn
      have HST := Lib.hid hstep
      have HSK := Lib.hid hskip
      have hp1 : p ≠ gs := st.blk.ne hgl (by decide)
      clear hr hE hbe st hdn hth c0 hstep hskip hgl
      have hlt' : decide (j < S.q.length) = true := by simpa using hlt
      go_wp2_with (first
        | ((with_reducible refine at_load (t := 86) ?_); refine wpList_load_mid rfl 86 _ rfl g (j * 65) rfl (put1 ((m : Int), b)) _ hR.out Try.underlying86 rfl hi86.out ?_)
        | ((with_reducible refine at_store (t := 86) ?_); refine wpList_store_new wr rfl 86 _ _ rfl _ _ _ (put1 ((m : Int), b)) rfl rfl rfl hz.out hi86.out hone.out ?_))
      refine HDN.out.mono ?_
      rintro e w1 ⟨rfl, rfl⟩
      have hwn : wr.heap.size < (wr.alloc (.cells (put1 ((m : Int), b)).toArray 86)).heap.size := by simp
      have hw2 : wr.heap.size ≠ gs := by omega
      generalize wr.alloc (.cells (put1 ((m : Int), b)).toArray 86) = wb at *
      generalize wr.heap.size = x at *
      clear HDN hR hone hi86 hz
      cases hd : done j with
      | false =>
        have HS := Lib.hid (HSK.out hd)
        clear HSK HST hd
        go_wp2
        exact ⟨⟨j + 1, by omega, by go_num, HS.out⟩, by simp [intOf]; omega⟩
      | true =>
        have HS := Lib.hid (HST.out hd)
        clear HSK HST hd
        have hm0 : (0 : Int) ≤ (m : Int) := by omega
        have hm1 : (m : Int) < (S.has.length : Int) := hs1
        have K1 : (wb.drew.setCells gs (m * 64) b).cell? ⟨p, 0, none⟩ = some (.slice (some ⟨gs, 0, none⟩) S.has.length cs) ∧ (wb.drew.setCells gs (m * 64) b).cell? ⟨x, 0, none⟩ = some (.int .i64 (m : Int)) ∧ (wb.drew.setCells gs (m * 64) b).rangeAt x 1 b ∧ (wb.drew.setCells gs (m * 64) b).there gs (m * 64) 64 :=
          ⟨by rw [World.cell?_setCells_out _ _ _ _ _ (fun e _ => absurd e hp1)]; exact xc, by rw [World.cell?_setCells_out _ _ _ _ _ (fun e _ => absurd e hw2)]; exact x0, World.rangeAt_setCells_apart (w := wb.drew) xr _ _ _ (.inl hw2), World.there_setCells (w := wb.drew) xt _ _ _⟩
        have HK1 := Lib.hid K1
        clear K1
        go_wp2_with fail
        go_region_held3 (fun w' => w'.cell? ⟨p, 0, none⟩ = some (.slice (some ⟨gs, 0, none⟩) S.has.length cs) ∧ w'.cell? ⟨x, 0, none⟩ = some (.int .i64 (m : Int)) ∧ w'.rangeAt x 1 b ∧ w'.there gs (m * 64) 64) (first | exact HK1.out | go_keep_ranges | go_keep) (fail)
        go_wp2
        exact ⟨⟨j + 1, by omega, by go_num, HS.out⟩, by simp [intOf]; omega⟩
    · obtain rfl : j = S.q.length := by omega
      have c1 : wr.cell? ⟨p, 1, none⟩ = some (.slice Aq S.q.length cq) := st.blk.cell 1
      have f1 := st.blk.frozen 1
      clear st
      go_wp2
      go_end0
      exact ⟨⟨_, rfl⟩, ST.out.fin OK.out hbase, ST.out.fr.set hbase _ _⟩

set_option maxRecDepth 100000 in
set_option maxHeartbeats 8000000 in
theorem empty52 (w : World) (base p gs : Nat) (S : DSt) (done : Nat → Bool) (h : Dk w base p gs S) (hq : S.q.length ≤ 1000000)
    (hdone : ∀ wr, Fr base p gs w wr → ∀ k : Nat, k < S.q.length → Calls Try.prog 52 #[.int .i64 (k : Int)] wr fun e w' => e = .returned (.bool (done k)) ∧ wr = w') :
    Calls Try.prog 51 #[.pointer (some ⟨p, 0, none⟩), .func (.func 52) #[] #[]] w fun e w' => (∃ v, e = .returned v) ∧ Dk w' base p gs { S with has := doN done S.q S.has S.q.length, q := [] } ∧ Fr base p gs w w' := by
  have ok := h.ok
  have hbase := h.base
  obtain ⟨cs, vq, hb, ho, hw⟩ := h.own
  obtain ⟨Aq, cq, hvq⟩ := hw.val
  rw [List.length_map] at hvq
  subst hvq
  have hp := h.lt
  have hc1 : w.cell? ⟨p, 1, none⟩ = some (.slice Aq S.q.length cq) := hb.cell 1
  have st : Em w base p gs cs Aq cq S done 0 w := ⟨hb, ho, hw, Fr.refl _ _ _ _⟩
  have OK := Lib.hid ok
  have HD := Lib.hid hdone
  clear h hb ho hw ok hdone
  go_enter Try.func51, Try.ntmps51
  go_wp2
  go_loopw [11] (fun i wr => ∃ j : Nat, j ≤ S.q.length ∧ i = .int .i64 j ∧ Em w base p gs cs Aq cq S done j wr) (fun i _ => S.q.length - (intOf i).toNat)
  case atStart => exact ⟨0, Nat.zero_le _, rfl, st⟩
  case round =>
    clear st hc1
    obtain ⟨j, hj, rfl, st⟩ := hrel
    have ST := Lib.hid st
    by_cases hlt : j < S.q.length
    · obtain ⟨hbe, hs0, hs1⟩ := OK.out.at_ hlt
      obtain ⟨g, rfl, hr, _⟩ := qAt (wr := wr) st.que (fun e he => (OK.out.q e he).1) hlt (Below.refl _ _)
      obtain ⟨hgb, cur, hgl⟩ := st.sec.gs
      have hgs := hgl.lt
      have hpp := st.blk.lt
      have hdn := HD.out _ (st.fr.alloc (.cells (put1 (S.q.getD j (0, []))).toArray 86)) j hlt
      have c0 : wr.cell? ⟨p, 0, none⟩ = some (.slice (some ⟨gs, 0, none⟩) S.has.length cs) := st.blk.cell 0
      have hth : wr.there gs ((S.q.getD j (0, [])).1.toNat * 64) 64 := st.sec.there rfl (by rw [doN_len]; omega)
      have hstep := fun hd => st.step OK.out hlt hd (.cells (put1 (S.q.getD j (0, []))).toArray 86)
      have hskip := fun hd => st.skip hd (.cells (put1 (S.q.getD j (0, []))).toArray 86)
      generalize hE : S.q.getD j (0, []) = E at *
      obtain ⟨s, b⟩ := E
      dsimp only at hs0 hs1 hbe hth hstep
      obtain ⟨m, rfl⟩ := Int.eq_ofNat_of_zero_le hs0
      rw [Int.toNat_natCast] at hth hstep
      have hone := Lib.hid (put1_one (e := ((m : Int), b)) hbe)
      have hi86 := Lib.hid (show (Try.prog.info? 86).map (·.size) = some (put1 ((m : Int), b)).length by rw [put1_len hbe]; exact Try.i86)
      have hz := Lib.hid (show (Value.int .i64 0 :: Z0).toArray.size = (put1 ((m : Int), b)).length by rw [put1_len hbe]; rfl)
      have hR := Lib.hid hr
      have hl64 := hbe.1
      have hone1 := hbe.one
      have i39 : (Try.prog.info? 39).map (·.size) = some b.length := by rw [hl64]; exact Try.i39
      have hu := Try.underlying39
      have x0 : (wr.alloc (.cells (put1 ((m : Int), b)).toArray 86)).cell? ⟨wr.heap.size, 0, none⟩ = some (.int .i64 (m : Int)) := (Blk.new wr 86 _).cell 0
      have xr : (wr.alloc (.cells (put1 ((m : Int), b)).toArray 86)).rangeAt wr.heap.size 1 b := by
        intro i v hi
        rw [(Blk.new wr 86 _).cell (1 + i), List.getElem?_toArray, Nat.add_comm, put1, List.getElem?_cons_succ]
        exact hi
      have xt := World.there_alloc hth (.cells (put1 ((m : Int), b)).toArray 86)
      have xc : (wr.alloc (.cells (put1 ((m : Int), b)).toArray 86)).cell? ⟨p, 0, none⟩ = some (.slice (some ⟨gs, 0, none⟩) S.has.length cs) := Lib.cell?_alloc_some _ c0
      have HDN := Lib.hid hdn
      have HST := Lib.hid hstep
      have HSK := Lib.hid hskip
      have hp1 : p ≠ gs := st.blk.ne hgl (by decide)
      clear hr hE hbe st hdn hth c0 hstep hskip hgl
      have hlt' : decide (j < S.q.length) = true := by simpa using hlt
      go_wp2_with (first
        | ((with_reducible refine at_load (t := 86) ?_); refine wpList_load_mid rfl 86 _ rfl g (j * 65) rfl (put1 ((m : Int), b)) _ hR.out Try.underlying86 rfl hi86.out ?_)
        | ((with_reducible refine at_store (t := 86) ?_); refine wpList_store_new wr rfl 86 _ _ rfl _ _ _ (put1 ((m : Int), b)) rfl rfl rfl hz.out hi86.out hone.out ?_))
      refine HDN.out.mono ?_
      rintro e w1 ⟨rfl, rfl⟩
      have hwn : wr.heap.size < (wr.alloc (.cells (put1 ((m : Int), b)).toArray 86)).heap.size := by simp
      have hw2 : wr.heap.size ≠ gs := by omega
      generalize wr.alloc (.cells (put1 ((m : Int), b)).toArray 86) = wb at *
      generalize wr.heap.size = x at *
      clear HDN hR hone hi86 hz
      cases hd : done j with
      | false =>
        have HS := Lib.hid (HSK.out hd)
        clear HSK HST hd
        go_wp2
        exact ⟨⟨j + 1, by omega, by go_num, HS.out⟩, by simp [intOf]; omega⟩
      | true =>
        have HS := Lib.hid (HST.out hd)
        clear HSK HST hd
        have hm0 : (0 : Int) ≤ (m : Int) := by omega
        have hm1 : (m : Int) < (S.has.length : Int) := hs1
        have K1 : (wb.drew.setCells gs (m * 64) b).cell? ⟨p, 0, none⟩ = some (.slice (some ⟨gs, 0, none⟩) S.has.length cs) ∧ (wb.drew.setCells gs (m * 64) b).cell? ⟨x, 0, none⟩ = some (.int .i64 (m : Int)) ∧ (wb.drew.setCells gs (m * 64) b).rangeAt x 1 b ∧ (wb.drew.setCells gs (m * 64) b).there gs (m * 64) 64 :=
          ⟨by rw [World.cell?_setCells_out _ _ _ _ _ (fun e _ => absurd e hp1)]; exact xc, by rw [World.cell?_setCells_out _ _ _ _ _ (fun e _ => absurd e hw2)]; exact x0, World.rangeAt_setCells_apart (w := wb.drew) xr _ _ _ (.inl hw2), World.there_setCells (w := wb.drew) xt _ _ _⟩
        have HK1 := Lib.hid K1
        clear K1
        go_wp2_with fail
        go_region_held3 (fun w' => w'.cell? ⟨p, 0, none⟩ = some (.slice (some ⟨gs, 0, none⟩) S.has.length cs) ∧ w'.cell? ⟨x, 0, none⟩ = some (.int .i64 (m : Int)) ∧ w'.rangeAt x 1 b ∧ w'.there gs (m * 64) 64) (first | exact HK1.out | go_keep_ranges | go_keep) (fail)
        go_wp2
        exact ⟨⟨j + 1, by omega, by go_num, HS.out⟩, by simp [intOf]; omega⟩
    · obtain rfl : j = S.q.length := by omega
      have c1 : wr.cell? ⟨p, 1, none⟩ = some (.slice Aq S.q.length cq) := st.blk.cell 1
      have f1 := st.blk.frozen 1
      clear st
      go_wp2
      go_end0
      exact ⟨⟨_, rfl⟩, ST.out.fin OK.out hbase, ST.out.fr.set hbase _ _⟩

end Go.Proofs.Ytdhompiapklnaaa
