/-
  The document's disk in memory; Made; what both tell.
-/
import Derived.Test.YtdhompiapklnaaaWk
namespace Go.Proofs.Ytdhompiapklnaaa
open Go.RowKit
attribute [local go_sem ↓] Try.z39 Try.z86 Try.z75

/-- The cells of the document's disk. -/
def rcells (vh vq : Value) (dm : Int) (S : DSt) : Array Value := #[vh, vq, .int .i64 S.armed, .int .i64 dm, .bool S.dead, .int .i64 S.ops]

/-- m is the document's disk S; its sectors lie in another block than gs. -/
structure Rk (w : World) (gs : Nat) (m : Array Value) (S : DSt) : Prop where
  own : ∃ vh vq dm, m = rcells vh vq dm S ∧ (S.dead = false → dm = S.doomed) ∧ Own w 0 39 64 vh S.has ∧ Own w 0 75 65 vq (S.q.map put1) ∧ vh.ownBlock ≠ some gs
  ok : S.ok

section
variable {w w' : World} {base p gs : Nat} {m : Array Value} {S S0 : DSt}
theorem Rk.below (h : Rk w gs m S) (hb : Below w.heap.size w w') : Rk w' gs m S := by
  obtain ⟨vh, vq, dm, e, hd, h1, h2, h3⟩ := h.own
  exact ⟨⟨vh, vq, dm, e, hd, h1.below hb, h2.below hb, h3⟩, h.ok⟩
theorem Rk.alloc (h : Rk w gs m S) (o : Obj) : Rk (w.alloc o) gs m S := h.below ((Below.refl _ _).alloc (Nat.le_refl _) o)
theorem Rk.fr (h : Rk w gs m S) (hd : Dk w base p gs S0) (hf : Fr base p gs w w') : Rk w' gs m S := by
  obtain ⟨vh, vq, dm, e, hdm, h1, h2, h3⟩ := h.own
  obtain ⟨_, _, hbk, ho, _⟩ := hd.own
  obtain ⟨_, _, hgl⟩ := ho.gs
  refine ⟨⟨vh, vq, dm, e, hdm, h1.keep fun g cur _ hv hg => ?_, h2.keep fun g cur _ hv hg => ?_, h3⟩, h.ok⟩
  · exact (hg.fr hf (hg.ne hbk (by decide)) (fun e => h3 (by rw [hv, e])) (by decide)).trans hg.symm
  · exact (hg.fr hf (hg.ne hbk (by decide)) (hg.ne hgl (by decide)) (by decide)).trans hg.symm
end

theorem Dk.drewN {w : World} {base p gs : Nat} {S : DSt} (h : Dk w base p gs S) (n : Nat) : Dk (w.drewN n) base p gs S := ⟨h.own, h.base, h.ok⟩
theorem Rk.drewN {w : World} {gs : Nat} {m : Array Value} {S : DSt} (h : Rk w gs m S) (n : Nat) : Rk (w.drewN n) gs m S := ⟨h.own, h.ok⟩
theorem below_drewN {B : Nat} {w w' : World} (h : Below B w w') (n : Nat) : Below B w (w'.drewN n) := ⟨h.os, h.tape, h.output, h.size, h.block⟩

theorem quiet_l {P : Program} {f : FuncId} {args : Array Value} {w : World} {n : Nat} {v : Value}
    (h : Calls P f args (w.drewN n) fun e w' => e = .returned v ∧ w.drewN n = w') : Calls P f args (w.drewN n) fun e w'' => e = .returned v ∧ ∃ m, w'' = w.drewN m :=
  h.mono fun _ _ hh => ⟨hh.1, n, hh.2.symm⟩

/-- A small disk's size. -/
def sz (n : Int) : Nat := ((IntKind.u64.wrap n).tmod 20).toNat + 1
theorem sz_eq (n : Int) : wrap64 (wrap64 ((IntKind.u64.wrap n).tmod 20) + 1) = (sz n : Int) := by
  have h0 : 0 ≤ IntKind.u64.wrap n := by rw [IntKind.wrap_u64]; omega
  have h1 : (IntKind.u64.wrap n).tmod 20 = IntKind.u64.wrap n % 20 := Int.tmod_eq_emod_of_nonneg h0
  unfold sz
  rw [h1]
  generalize IntKind.u64.wrap n = m at *
  rw [IntWalk.wrap64_in (m % 20) (by omega), IntWalk.wrap64_in (m % 20 + 1) (by omega)]
  omega
theorem sz_le (n : Int) : 1 ≤ sz n ∧ sz n ≤ 20 := by
  have h0 : 0 ≤ IntKind.u64.wrap n := by rw [IntKind.wrap_u64]; omega
  have h1 : (IntKind.u64.wrap n).tmod 20 = IntKind.u64.wrap n % 20 := Int.tmod_eq_emod_of_nonneg h0
  unfold sz
  rw [h1]
  omega
theorem size_any (n : Int) (w : World) : Calls Try.prog 11 #[.int .i64 n] w fun e w' => e = .returned (.int .i64 (sz n)) ∧ w = w' := by
  have H := Lib.hid (sz_eq n)
  go_enter Try.func11, Try.ntmps11
  go_wp2
  go_ret
  exact ⟨ret_int H.out, rfl⟩

/-- What Made leaves. -/
def Maded (w : World) (gs n : Nat) (e : Ending) (w' : World) : Prop := ∃ m, e = .returned (.agg m) ∧ m.size = 6 ∧ Rk w' gs m (made n) ∧ Below w.heap.size w w'

theorem made_any (n gs : Nat) (w : World) (h2 : n ≤ 2048) (hgs : gs < w.heap.size) : Calls Try.prog 12 #[.int .i64 (n : Int)] w (Maded w gs n) := by
  have hmk := makeBlocks n (by omega)
  go_enter Try.func12, Try.ntmps12
  go_wp2
  have hl : (made n).has.length = n := List.length_replicate
  have hp' : Parts 64 (made n).has := (made_ok n).parts
  have hown : Own ((w.alloc (.cells #[.slice (some ⟨w.heap.size + 1, 0, none⟩) n n, .slice none 0 0, .int .i64 (-1), .int .i64 (-1), .bool false, .int .i64 0] 32)).alloc (.cells (madeCells Z0.toArray (n * 64)) 39)) 0 39 64 (.slice (some ⟨w.heap.size + 1, 0, none⟩) n n) (made n).has := by
    refine ⟨⟨by rw [hp'.len], .inr ⟨w.heap.size + 1, n, _, by rw [hl], Nat.zero_le _, Blk.new' (w.alloc _) 39 _ (by simp), by rw [hl]; exact Nat.le_refl _, by unfold maxLen; omega, size_madeCells _ _, ?_⟩⟩, hp'⟩
    rw [hl, madeZ, List.take_of_length_le (Nat.le_of_eq (by have := hp'.len; rw [hl] at this; exact this))]
    rfl
  refine bodyPost_ret (v := .agg #[.slice (some ⟨w.heap.size + 1, 0, none⟩) n n, .slice none 0 0, .int .i64 (-1), .int .i64 (-1), .bool false, .int .i64 0]) (by simp [results, Try.results12, go_sem]) rfl ⟨_, rfl, rfl, ⟨⟨_, _, -1, rfl, fun _ => rfl, hown, Own.nil _ _ _ _, ?_⟩, made_ok n⟩, ((Below.refl _ _).alloc (Nat.le_refl _) _).alloc (by simp) _⟩
  intro e
  simp only [Value.ownBlock, Option.some.injEq] at e
  omega

set_option maxRecDepth 100000 in
set_option maxHeartbeats 4000000 in
theorem tells_any {w : World} {base p gs : Nat} {m : Array Value} {S : DSt} (hd : Dk w base p gs S) (hm : Rk w gs m S) (hq : S.q.length ≤ 1000000) :
    Calls Try.prog 13 #[.pointer (some ⟨p, 0, none⟩), .agg m] w fun e w' => e = .returned (.bool true) ∧ Below w.heap.size w w' := by
  obtain ⟨vh, vq, dm, rfl, _, ho, hw, _⟩ := hm.own
  obtain ⟨Ah, ch, hvh⟩ := ho.val
  obtain ⟨Aq, cq, hvq⟩ := hw.val
  rw [List.length_map] at hvq
  subst hvh hvq
  have hB0 : Below w.heap.size w (w.alloc (.cells (rcells (.slice Ah S.has.length ch) (.slice Aq S.q.length cq) dm S) 32)) := (Below.refl _ w).alloc (Nat.le_refl _) _
  have hpd := Lib.hid (pending_any (hd.below hB0) hq)
  have HB := Lib.hid (show ∀ e ∈ S.q, B64 e.2 from fun e he => (hm.ok.q e he).1)
  have HW := Lib.hid hw
  have HD := Lib.hid hd
  have bx : Blk (w.alloc (.cells (rcells (.slice Ah S.has.length ch) (.slice Aq S.q.length cq) dm S) 32)) w.heap.size 32 (rcells (.slice Ah S.has.length ch) (.slice Aq S.q.length cq) dm S) := Blk.new w 32 _
  have BX := Lib.hid bx
  have HB0 := Lib.hid hB0
  clear hd hm ho hw bx hB0
  unfold rcells at *
  go_enter Try.func13, Try.ntmps13
  go_wp2_with fail
  refine hpd.out.mono ?_
  rintro e w1 ⟨rfl, hs, hb1⟩
  have B1 := BX.out.below hb1 BX.out.lt
  have hB1 := HB0.out.trans (hb1.mono HB0.out.size)
  have hgl : (w.alloc (.cells #[.slice Ah S.has.length ch, .slice Aq S.q.length cq, .int .i64 S.armed, .int .i64 dm, .bool S.dead, .int .i64 S.ops] 32)).heap.size = w.heap.size + 1 := by simp
  rw [hgl] at hs
  clear hpd BX HB0 hb1 hgl
  have x0 := B1.cell 0
  have x1 := B1.cell 1
  have x4 := B1.cell 4
  have x5 := B1.cell 5
  simp only [List.getElem?_toArray, List.getElem?_cons_zero, List.getElem?_cons_succ] at x0 x1 x4 x5
  clear x0 x4 x5
  have st : Secs w1 (w.heap.size + 1) S.q.length S.q S.q.length ∧ Blk w1 w.heap.size 32 #[.slice Ah S.has.length ch, .slice Aq S.q.length cq, .int .i64 S.armed, .int .i64 dm, .bool S.dead, .int .i64 S.ops] ∧ Below w.heap.size w w1 := ⟨hs, B1, hB1⟩
  have ST := Lib.hid st
  clear st hs B1 hB1
  have eq0 : ((S.q.length : Int) != (S.q.length : Int)) = false := by simp
  go_wp2_with fail
  clear x1
  go_loopw [19] (fun i wr => ∃ j : Nat, j ≤ S.q.length ∧ i = .int .i64 j ∧ Secs wr (w.heap.size + 1) S.q.length S.q S.q.length ∧ Blk wr w.heap.size 32 #[.slice Ah S.has.length ch, .slice Aq S.q.length cq, .int .i64 S.armed, .int .i64 dm, .bool S.dead, .int .i64 S.ops] ∧ Below w.heap.size w wr) (fun i _ => S.q.length - (intOf i).toNat)
  case atStart => exact ⟨0, Nat.zero_le _, rfl, ST.out⟩
  case round =>
    clear ST eq0
    obtain ⟨j, hj, rfl, hS, hbx, hB⟩ := hrel
    by_cases hlt : j < S.q.length
    · obtain ⟨g, rfl, hr, hbe⟩ := qAt HW.out HB.out hlt hB
      have hsec : wr.cell? ⟨w.heap.size + 1, j, none⟩ = some (.int .i64 (S.q.getD j (0, [])).1) := by
        obtain ⟨cur, hc, _, hcc⟩ := hS
        rw [hc.cell j]
        exact hcc j hlt
      have hsl : w.heap.size + 1 < wr.heap.size := by
        obtain ⟨cur, hc, _⟩ := hS
        exact hc.lt
      have hS' : Hid (Secs (wr.alloc (.cells (put1 (S.q.getD j (0, []))).toArray 75)) (w.heap.size + 1) S.q.length S.q S.q.length) := by
        obtain ⟨cur, hc, h1, h2⟩ := hS
        exact ⟨cur, hc.alloc _, h1, h2⟩
      have hbx' := Lib.hid (hbx.alloc (.cells (put1 (S.q.getD j (0, []))).toArray 75))
      have hB' := Lib.hid (hB.alloc hB.size (.cells (put1 (S.q.getD j (0, []))).toArray 75))
      have hlt1 : (j : Int) < (S.q.length : Int) := by omega
      have hlt0 : (0 : Int) ≤ (j : Int) := by omega
      clear hS hbx hB
      generalize hx : S.q.getD j (0, []) = x at *
      obtain ⟨s, b⟩ := x
      have hlen := put1_len hbe
      have hone := Lib.hid (put1_one hbe)
      have hi75 := Lib.hid (show (Try.prog.info? 75).map (·.size) = some (put1 (s, b)).length by rw [hlen]; exact Try.i75)
      have hz := Lib.hid (show (Value.int .i64 0 :: Z0).toArray.size = (put1 (s, b)).length by rw [hlen]; rfl)
      have hR := Lib.hid hr
      have ne0 : (s != s) = false := by simp
      have hsec' : (wr.alloc (.cells (put1 (s, b)).toArray 75)).cell? ⟨w.heap.size + 1, j, none⟩ = some (.int .i64 s) := Lib.cell?_alloc_some _ hsec
      have hx0 : (wr.alloc (.cells (put1 (s, b)).toArray 75)).cell? ⟨wr.heap.size, 0, none⟩ = some (.int .i64 s) := (Blk.new wr 75 _).cell 0
      clear hx hlen hr hbe hsec
      go_wp2_with (first
        | ((with_reducible refine at_load (t := 75) ?_); refine wpList_load_mid rfl 75 _ rfl g (j * 65) rfl (put1 (s, b)) _ hR.out Try.underlying75 rfl hi75.out ?_)
        | ((with_reducible refine at_store (t := 75) ?_); refine wpList_store_new wr rfl 75 _ _ rfl _ _ _ (put1 (s, b)) rfl rfl rfl hz.out hi75.out hone.out ?_))
      generalize wr.alloc (.cells (put1 (s, b)).toArray 75) = w2 at *
      generalize wr.heap.size = gx at *
      clear hR hone hi75 hz
      go_quiet (fail)
      go_wp2_with fail
      go_roundw
      case rel => exact ⟨j + 1, by omega, by go_num, hS'.out, hbx'.out, below_drewN hB'.out _⟩
      case measure => simp [intOf]; omega
    · have x0 := hbx.cell 0
      have x4 := hbx.cell 4
      have x5 := hbx.cell 5
      simp only [List.getElem?_toArray, List.getElem?_cons_zero, List.getElem?_cons_succ] at x0 x4 x5
      have hd := Lib.hid (HD.out.below hB)
      have e1 : ((S.has.length : Int) == (S.has.length : Int)) = true := by simp
      have e2 : (S.ops == S.ops) = true := by simp
      have e3 : (S.dead == S.dead) = true := by simp
      clear hS hbx
      go_wp2_with fail
      go_quiet (first
        | (go_at_call 18; exact quiet_l (len_any (by exact hd.out.drewN _)))
        | (go_at_call 20; exact quiet_l (ops_any (by exact hd.out.drewN _)))
        | (go_at_call 21; exact quiet_l (dead_any (by exact hd.out.drewN _))))
      go_wp2
      go_ret
      exact ⟨rfl, below_drewN hB _⟩

end Go.Proofs.Ytdhompiapklnaaa
