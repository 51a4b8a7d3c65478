/-
  Sync, Read.
-/
import Derived.Test.YtdhompiapklnaaaAo
namespace Go.Proofs.Ytdhompiapklnaaa
open Go.RowKit
attribute [local go_sem ↓] Try.z39 Try.z86

theorem yes52 (k : Int) (w : World) : Calls Try.prog 52 #[.int .i64 k] w fun e w' => e = .returned (.bool true) ∧ w = w' := by
  go_enter Try.func52, Try.ntmps52
  go_wp2
  go_ret
  exact ⟨rfl, rfl⟩

theorem sync1 (w : World) (base p gs b : Nat) (S : DSt) (h : Dk w base p gs S) (hq : S.q.length ≤ 1000000) (hb : w.cell? ⟨b, 0, none⟩ = some (.pointer (some ⟨p, 0, none⟩))) :
    Calls Try.prog 50 #[.pointer (some ⟨b, 0, none⟩)] w fun e w' => (∃ v, e = .returned v) ∧ Dk w' base p gs { S with has := doN (fun _ => true) S.q S.has S.q.length, q := [] } ∧ Fr base p gs w w' := by
  have hc := Lib.hid (empty52 w base p gs S (fun _ => true) h hq fun wr _ k _ => yes52 k wr)
  clear h
  go_enter Try.func50, Try.ntmps50
  go_wp2_with fail
  refine hc.out.mono ?_
  rintro e w2 ⟨⟨v, rfl⟩, d2, f2⟩
  clear hc
  go_wp2
  go_end0
  exact ⟨⟨_, rfl⟩, d2, f2⟩

theorem sync_nil (w : World) : Calls Try.prog 29 #[.pointer none] w fun e w' => e = .returned (.int .i64 1) ∧ Below w.heap.size w w' := by
  go_enter Try.func29, Try.ntmps29
  go_wp2_with (go_at_call 49; refine (ask_nil _ _ _ _).mono ?_; rintro e w' ⟨rfl, rfl⟩)
  go_ret
  exact ⟨rfl, (Below.refl _ _).alloc (Nat.le_refl _) _⟩

theorem sync_any (w : World) (base p gs : Nat) (S : DSt) (h : Dk w base p gs S) (hq : S.q.length ≤ 1000000) :
    Calls Try.prog 29 #[.pointer (some ⟨p, 0, none⟩)] w (Left w base p gs (syncSt S) (askErr S true 0)) := by
  have hp := h.lt
  have d1 := h.alloc (.cells #[.pointer (some ⟨p, 0, none⟩)] 24)
  have f1 := (Fr.refl base p gs w).alloc (.cells #[.pointer (some ⟨p, 0, none⟩)] 24)
  have b1 := Blk.new w 24 #[.pointer (some ⟨p, 0, none⟩)]
  have hcall : Calls Try.prog 49 #[.pointer (some ⟨p, 0, none⟩), .bool true, .int .i64 0, .func (.func 50) #[] #[.pointer (some ⟨w.heap.size, 0, none⟩)]] (w.alloc (.cells #[.pointer (some ⟨p, 0, none⟩)] 24)) (Left w base p gs (syncSt S) (askErr S true 0)) := by
    by_cases he : askErr S true 0 = 0
    · rw [show syncSt S = { askSt S true 0 with has := doN (fun _ => true) S.q S.has S.q.length, q := [] } by simp only [syncSt]; rw [if_pos he]; simp only [synced, askSt_q, askSt_has], he]
      obtain ⟨cs, vq, hb, ho, _⟩ := d1.own
      obtain ⟨_, cur, hgl⟩ := ho.gs
      refine (ask_sync (.pointer (some ⟨w.heap.size, 0, none⟩)) 0 _ base p gs S (doN (fun _ => true) S.q S.has S.q.length) [] (Fr base p gs w) d1 he (fun w1 hd hf => ?_) (fun _ _ hx => hx.set h.base _ _)).mono ?_
      · have b2 := b1.fr hf (b1.ne hb (by decide)) (b1.ne hgl (by decide)) (by decide)
        have e1 : (ahead S true 0).q = S.q := askSt_q S true 0
        have e2 : (ahead S true 0).has = S.has := askSt_has S true 0
        refine (sync1 w1 base p gs w.heap.size (ahead S true 0) hd (by rw [e1]; exact hq) (b2.cell 0)).mono ?_
        rintro e w2 ⟨hv, d2, f2⟩
        rw [e1, e2] at d2
        exact ⟨hv, d2, (f1.trans hf).trans f2⟩
      · rintro e w' ⟨he, hd, hf⟩
        exact ⟨he, hd, hf⟩
    · rw [show syncSt S = askSt S true 0 by simp only [syncSt]; rw [if_neg he]]
      refine (ask_err 50 #[.pointer (some ⟨w.heap.size, 0, none⟩)] true 0 _ base p gs S d1 he).mono ?_
      rintro e w' ⟨he, hd, hf⟩
      exact ⟨he, hd, f1.trans hf⟩
  have HC := Lib.hid hcall
  clear hcall h d1 f1 b1
  go_enter Try.func29, Try.ntmps29
  go_wp2_with fail
  refine HC.out.mono ?_
  rintro e w2 ⟨rfl, d2, f2⟩
  clear HC
  go_wp2
  go_ret
  exact ⟨rfl, d2, f2⟩

theorem there_blk {w : World} {g : Nat} {t : TypeId} {c : Array Value} (hb : Blk w g t c) (m : Nat) (hm : m ≤ c.size) : w.there g 0 m := by
  intro j hj
  refine ⟨?_, hb.frozen _⟩
  rw [hb.cell, Nat.zero_add]
  have : j < c.size := by omega
  simp [this]

theorem ret_cell_tmp {P : Program} {fn : Func} {p u : Tmp} {ty : TypeId} (h : fn.results = #[.cell p ty, .tmp u]) (tmps : Array Value) (w : World) (g : Nat) (t : TypeId) (cs : Array Value) (d : TypeDesc)
    (hp : tmps.getD p undef = .pointer (some ⟨g, 0, none⟩)) (hg : Blk w g t cs) (hu : P.underlying ty = some d) (hd : (match d with | .struct _ | .array _ _ => true | _ => false) = true) (hi : (P.info? ty).map (·.size) = some cs.size) :
    (results fn tmps).run P w = .ok (.tuple #[.agg cs, tmps.getD u undef]) w := by
  rw [results_cell_tmp h, hp]
  simp only [asAddr, Sem.run_pure, Result.andThen_ok, run_loadVar_row w g t ty cs (0, 0) d hg hu hd hi]

theorem readAs_ahead (S : DSt) (ch : Bool) (i : Int) : readAs (ahead S ch i) i = readAs S i := by
  have e1 : (ahead S ch i).q = S.q := askSt_q S ch i
  have e2 : (ahead S ch i).has = S.has := askSt_has S ch i
  have key : ∀ n, readN (ahead S ch i) i n = readN S i n := by
    intro n
    induction n with
    | zero => simp only [readN, e2]
    | succ n ih => simp only [readN, e1, ih]
  unfold readAs
  rw [e1, key]

set_option maxHeartbeats 1000000 in
theorem read1 (w : World) (base p gs b1 b2 b3 k : Nat) (S : DSt) (h : Dk w base p gs S) (hq : S.q.length ≤ 1000000) (hk : k < S.has.length) (h1 : w.cell? ⟨b1, 0, none⟩ = some (.pointer (some ⟨p, 0, none⟩))) (h2 : w.cell? ⟨b2, 0, none⟩ = some (.int .i64 (k : Int))) (h3 : Blk w b3 39 Z0.toArray) (hg : b3 ≠ gs) :
    Calls Try.prog 54 #[.pointer (some ⟨b1, 0, none⟩), .pointer (some ⟨b2, 0, none⟩), .pointer (some ⟨b3, 0, none⟩)] w fun e w' => (∃ v, e = .returned v) ∧ Dk w' base p gs S ∧ Blk w' b3 39 (readAs S k).toArray ∧ w.grownBy w' (some b3) := by
  have hc := Lib.hid (reads_any k h hq hk)
  have hrb := readAs_ok h.ok (i := (k : Int)) (by omega) (by omega)
  have HH := Lib.hid h
  have H3 := Lib.hid h3
  have h3l := h3.lt
  clear h h3
  generalize readAs S k = R at *
  have i39 := Lib.hid (show (Try.prog.info? 39).map (·.size) = some R.length by rw [hrb.1]; exact Try.i39)
  have hone := Lib.hid hrb.one
  have hz := Lib.hid (show Z0.toArray.size = R.length by rw [hrb.1]; rfl)
  have hlen := Lib.hid hrb.1
  clear hrb
  go_enter Try.func54, Try.ntmps54
  go_wp2_with fail
  refine hc.out.mono ?_
  rintro e w2 ⟨rfl, hB⟩
  have k3 := H3.out.below hB h3l
  have ht := Lib.hid (show w2.there b3 0 R.length by
    intro j hj
    rw [hlen.out] at hj
    refine ⟨?_, k3.frozen _⟩
    rw [k3.cell, Nat.zero_add, List.getElem?_toArray, Z0, List.getElem?_replicate, if_pos hj]
    rfl)
  clear hc
  go_wp2_with ((with_reducible refine at_store (t := 39) ?_); refine wpList_store_mid rfl 39 _ _ rfl b3 0 R.toArray rfl rfl (by simpa using ht.out) (by simpa using i39.out) (all_oneCell_toArray hone.out) ?_)
  go_end0
  have d2 := HH.out.below hB
  obtain ⟨cs, vq, hb, _, _⟩ := d2.own
  have kf := k3.setCells 0 R
  rw [lay_whole _ _ hz.out] at kf
  obtain ⟨r1, r2, r3, r4⟩ := setCells_rest R w2 b3 0
  refine ⟨⟨_, rfl⟩, d2.keep ?_ ?_ fun g cur _ hg' => ?_, kf, r1.trans hB.os, r2.trans hB.tape, r3.trans hB.output, by rw [r4]; exact hB.size, fun i hi hne => ?_⟩
  · exact heap_setCells_other _ _ _ _ _ (hb.ne k3 (by decide))
  · exact heap_setCells_other _ _ _ _ _ hg.symm
  · exact heap_setCells_other _ _ _ _ _ (hg'.ne k3 (by decide))
  · exact (heap_setCells_other _ _ _ _ _ (fun e => hne (by rw [e]))).trans (hB.block i hi)

theorem Fr.grown {base p gs b : Nat} {w w1 w2 : World} (h : Fr base p gs w w1) (hg : w1.grownBy w2 (some b)) (hb : w.heap.size ≤ b) : Fr base p gs w w2 :=
  ⟨hg.os.trans h.os, hg.tape.trans h.tape, hg.output.trans h.output, Nat.le_trans h.size hg.size, fun i hi hc => (hg.block i (Nat.lt_of_lt_of_le hi h.size) (fun e => by injection e with e; omega)).trans (h.block i hi hc)⟩

theorem read_nil (i : Int) (w : World) : Calls Try.prog 31 #[.pointer none, .int .i64 i] w fun e w' => e = .returned (.tuple #[.agg Z0.toArray, .int .i64 1]) ∧ Below w.heap.size w w' := by
  have i39 : (Try.prog.info? 39).map (·.size) = some Z0.length := Try.i39
  have hone := Lib.hid Z0.ok.one
  have hB : Hid (Below w.heap.size w ((((w.alloc (.cells #[.pointer none] 24)).alloc (.cells #[.int .i64 i] 3)).alloc (.cells Z0.toArray 39)).alloc (.cells Z0.toArray 39))) := ((((Below.refl _ w).alloc (Nat.le_refl _) _).alloc (by simp) _).alloc (by simp; omega) _).alloc (by simp; omega) _
  have b2 : Blk ((((w.alloc (.cells #[.pointer none] 24)).alloc (.cells #[.int .i64 i] 3)).alloc (.cells Z0.toArray 39)).alloc (.cells Z0.toArray 39)) (w.heap.size + 1 + 1) 39 Z0.toArray := (Blk.new' ((w.alloc _).alloc _) 39 _ (by simp)).alloc _
  have b3 : Blk ((((w.alloc (.cells #[.pointer none] 24)).alloc (.cells #[.int .i64 i] 3)).alloc (.cells Z0.toArray 39)).alloc (.cells Z0.toArray 39)) (w.heap.size + 1 + 1 + 1) 39 Z0.toArray := Blk.new' (((w.alloc _).alloc _).alloc _) 39 _ (by simp)
  have B2 := Lib.hid b2
  have B3 := Lib.hid b3
  clear b2 b3
  go_enter Try.func31, Try.ntmps31
  go_wp2_with fail
  refine (ask_nil _ _ _ _).mono ?_
  rintro e w' ⟨rfl, rfl⟩
  generalize (((w.alloc (.cells #[.pointer none] 24)).alloc (.cells #[.int .i64 i] 3)).alloc (.cells Z0.toArray 39)).alloc (.cells Z0.toArray 39) = W at *
  go_wp2_with (first
    | ((with_reducible refine at_load (t := 39) ?_); refine wpList_load_row rfl 39 _ rfl (w.heap.size + 1 + 1 + 1) rfl 39 Z0.toArray (0, 0) _ B3.out Try.underlying39 rfl Try.i39 ?_)
    | ((with_reducible refine at_store (t := 39) ?_); refine wpList_store_mid rfl 39 _ _ rfl (w.heap.size + 1 + 1) 0 Z0.toArray rfl rfl (there_blk B2.out _ (Nat.le_refl _)) Try.i39 (all_oneCell_toArray hone.out) ?_))
  have kf := B2.out.setCells 0 Z0
  rw [lay_whole _ _ rfl] at kf
  exact bodyPost_ret (ret_cell_tmp (p := 4) (u := 5) (ty := 39) rfl _ _ (w.heap.size + 1 + 1) 39 Z0.toArray _ rfl kf Try.underlying39 rfl Try.i39) rfl ⟨rfl, Below.setCells hB.out (by omega) _ _⟩

/-- What Read leaves. -/
def Readd (w : World) (base p gs : Nat) (S : DSt) (i : Int) (e : Ending) (w' : World) : Prop := e = .returned (.tuple #[.agg (readB S i).toArray, .int .i64 (askErr S false i)]) ∧ Dk w' base p gs (askSt S false i) ∧ Fr base p gs w w'

set_option maxHeartbeats 1000000 in
theorem read_any (i : Int) (w : World) (base p gs : Nat) (S : DSt) (h : Dk w base p gs S) (hq : S.q.length ≤ 1000000) :
    Calls Try.prog 31 #[.pointer (some ⟨p, 0, none⟩), .int .i64 i] w (Readd w base p gs S i) := by
  have hgl := h.own
  obtain ⟨cs0, vq0, hb0, ho0, _⟩ := hgl
  obtain ⟨_, cur0, hgl0⟩ := ho0.gs
  have hgs := hgl0.lt
  have hpl := hb0.lt
  have hrb := readB_ok h.ok i
  have hB : Below w.heap.size w ((((w.alloc (.cells #[.pointer (some ⟨p, 0, none⟩)] 24)).alloc (.cells #[.int .i64 i] 3)).alloc (.cells Z0.toArray 39)).alloc (.cells Z0.toArray 39)) := ((((Below.refl _ w).alloc (Nat.le_refl _) _).alloc (by simp) _).alloc (by simp; omega) _).alloc (by simp; omega) _
  have b0 : Blk ((((w.alloc (.cells #[.pointer (some ⟨p, 0, none⟩)] 24)).alloc (.cells #[.int .i64 i] 3)).alloc (.cells Z0.toArray 39)).alloc (.cells Z0.toArray 39)) w.heap.size 24 #[.pointer (some ⟨p, 0, none⟩)] := (((Blk.new w 24 _).alloc _).alloc _).alloc _
  have b1 : Blk ((((w.alloc (.cells #[.pointer (some ⟨p, 0, none⟩)] 24)).alloc (.cells #[.int .i64 i] 3)).alloc (.cells Z0.toArray 39)).alloc (.cells Z0.toArray 39)) (w.heap.size + 1) 3 #[.int .i64 i] := ((Blk.new' (w.alloc _) 3 _ (by simp)).alloc _).alloc _
  have b2 : Blk ((((w.alloc (.cells #[.pointer (some ⟨p, 0, none⟩)] 24)).alloc (.cells #[.int .i64 i] 3)).alloc (.cells Z0.toArray 39)).alloc (.cells Z0.toArray 39)) (w.heap.size + 1 + 1) 39 Z0.toArray := (Blk.new' ((w.alloc _).alloc _) 39 _ (by simp)).alloc _
  have b3 : Blk ((((w.alloc (.cells #[.pointer (some ⟨p, 0, none⟩)] 24)).alloc (.cells #[.int .i64 i] 3)).alloc (.cells Z0.toArray 39)).alloc (.cells Z0.toArray 39)) (w.heap.size + 1 + 1 + 1) 39 Z0.toArray := Blk.new' (((w.alloc _).alloc _).alloc _) 39 _ (by simp)
  have d1 := h.below hB
  have f1 : Fr base p gs w _ := Fr.of_below hB
  have hcall : Calls Try.prog 49 #[.pointer (some ⟨p, 0, none⟩), .bool false, .int .i64 i, .func (.func 54) #[] #[.pointer (some ⟨w.heap.size, 0, none⟩), .pointer (some ⟨w.heap.size + 1, 0, none⟩), .pointer (some ⟨w.heap.size + 1 + 1 + 1, 0, none⟩)]] ((((w.alloc (.cells #[.pointer (some ⟨p, 0, none⟩)] 24)).alloc (.cells #[.int .i64 i] 3)).alloc (.cells Z0.toArray 39)).alloc (.cells Z0.toArray 39))
      fun e w' => e = .returned (.int .i64 (askErr S false i)) ∧ Dk w' base p gs (askSt S false i) ∧ Fr base p gs w w' ∧ Blk w' (w.heap.size + 1 + 1) 39 Z0.toArray ∧ Blk w' (w.heap.size + 1 + 1 + 1) 39 (readB S i).toArray := by
    generalize (((w.alloc (.cells #[.pointer (some ⟨p, 0, none⟩)] 24)).alloc (.cells #[.int .i64 i] 3)).alloc (.cells Z0.toArray 39)).alloc (.cells Z0.toArray 39) = W at *
    obtain ⟨cs, vq, hb, ho, _⟩ := d1.own
    by_cases he : askErr S false i = 0
    · obtain ⟨_, h0, h1⟩ := askErr_ok he
      obtain ⟨k, rfl⟩ := Int.eq_ofNat_of_zero_le h0
      rw [show readB S k = readAs S k by simp only [readB]; rw [if_pos he], he]
      refine (ask_read _ _ _ k W base p gs S S.has S.q (fun w2 => Fr base p gs w w2 ∧ Blk w2 (w.heap.size + 1 + 1) 39 Z0.toArray ∧ Blk w2 (w.heap.size + 1 + 1 + 1) 39 (readAs S k).toArray) d1 he (fun w1 hd hf => ?_) (fun w2 u hx => ⟨hx.1.set h.base _ _, hx.2.1.far (by show _ ≠ p; omega) _, hx.2.2.far (by show _ ≠ p; omega) _⟩)).mono ?_
      · have c0 := b0.fr hf (by omega) (by omega) (by decide)
        have c1 := b1.fr hf (by omega) (by omega) (by decide)
        have c2 := b2.fr hf (by omega) (by omega) (by decide)
        have c3 := b3.fr hf (by omega) (by omega) (by decide)
        have e1 : (ahead S false k).q = S.q := askSt_q S false k
        have e2 : (ahead S false k).has = S.has := askSt_has S false k
        refine (read1 w1 base p gs w.heap.size (w.heap.size + 1) (w.heap.size + 1 + 1 + 1) k (ahead S false k) hd (by rw [e1]; exact hq) (by rw [e2]; omega) (c0.cell 0) (c1.cell 0) c3 (by omega)).mono ?_
        rintro e w2 ⟨hv, d2, hk2, hg2⟩
        rw [readAs_ahead] at hk2
        have e3 : ({ ahead S false k with has := S.has, q := S.q } : DSt) = ahead S false k := by
          simp only [← e1, ← e2]
        rw [e3]
        exact ⟨hv, d2, (f1.trans hf).grown hg2 (by omega), (hg2.block _ c2.lt (fun e => by injection e with e; omega)).trans c2, hk2⟩
      · rintro e w' ⟨he', hd, hf, k2, k3⟩
        have e4 : ({ askSt S false k with has := S.has, q := S.q } : DSt) = askSt S false k := by
          have e1 := askSt_q S false k
          have e2 := askSt_has S false k
          simp only [← e1, ← e2]
        rw [e4] at hd
        exact ⟨he', hd, hf, k2, k3⟩
    · rw [show readB S i = Z0 by simp only [readB]; rw [if_neg he]]
      refine (ask_err 54 _ false i W base p gs S d1 he).mono ?_
      rintro e w' ⟨he', hd, hf⟩
      exact ⟨he', hd, f1.trans hf, b2.fr hf (by omega) (by omega) (by decide), b3.fr hf (by omega) (by omega) (by decide)⟩
  have HC := Lib.hid hcall
  have hone := Lib.hid hrb.one
  have hlen := Lib.hid hrb.1
  clear hcall h b0 b1 b2 b3 d1 f1 hB hgl0 hb0 ho0 hrb
  show Calls Try.prog 31 _ w fun e w' => e = .returned (.tuple #[.agg (readB S i).toArray, .int .i64 (askErr S false i)]) ∧ Dk w' base p gs (askSt S false i) ∧ Fr base p gs w w'
  generalize readB S i = R at *
  generalize askErr S false i = er at *
  generalize askSt S false i = S' at *
  go_enter Try.func31, Try.ntmps31
  go_wp2_with fail
  refine HC.out.mono ?_
  rintro e w2 ⟨rfl, d2, f2, k2, k3⟩
  clear HC
  have i39 := Lib.hid (show (Try.prog.info? 39).map (·.size) = some R.toArray.size by rw [List.size_toArray, hlen.out]; exact Try.i39)
  have ht := Lib.hid (there_blk k2 R.toArray.size (by rw [List.size_toArray, hlen.out]; exact Nat.le_refl _))
  have K2 := Lib.hid k2
  have K3 := Lib.hid k3
  clear k2 k3
  go_wp2_with (first
    | ((with_reducible refine at_load (t := 39) ?_); refine wpList_load_row rfl 39 _ rfl (w.heap.size + 1 + 1 + 1) rfl 39 R.toArray (0, 0) _ K3.out Try.underlying39 rfl i39.out ?_)
    | ((with_reducible refine at_store (t := 39) ?_); refine wpList_store_mid rfl 39 _ _ rfl (w.heap.size + 1 + 1) 0 R.toArray rfl rfl ht.out i39.out (all_oneCell_toArray hone.out) ?_))
  have kf := K2.out.setCells 0 R
  rw [lay_whole _ _ (by rw [hlen.out]; rfl)] at kf
  refine bodyPost_ret (ret_cell_tmp (p := 4) (u := 5) (ty := 39) rfl _ _ (w.heap.size + 1 + 1) 39 R.toArray _ rfl kf Try.underlying39 rfl i39.out) rfl ⟨rfl, ?_, ?_⟩
  · obtain ⟨cs, vq, hb, _, _⟩ := d2.own
    exact d2.keep (heap_setCells_other _ _ _ _ _ (by omega)) (heap_setCells_other _ _ _ _ _ (by omega)) fun g cur _ hg' => heap_setCells_other _ _ _ _ _ (hg'.ne K2.out (by decide))
  · obtain ⟨r1, r2, r3, r4⟩ := setCells_rest R w2 (w.heap.size + 1 + 1) 0
    exact f2.grown ⟨r1, r2, r3, Nat.le_of_eq r4.symm, fun k hk hne => heap_setCells_other _ _ _ _ _ (fun e => hne (by rw [e]))⟩ (by omega)

end Go.Proofs.Ytdhompiapklnaaa
