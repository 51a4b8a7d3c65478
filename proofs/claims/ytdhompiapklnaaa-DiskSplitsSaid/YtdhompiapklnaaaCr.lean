/-
  Crash.
-/
import Derived.Test.YtdhompiapklnaaaEm
import Derived.Laws.EntriesVeiled
namespace Go.Proofs.Ytdhompiapklnaaa
open Go.RowKit Go.Shelf
attribute [local go_sem ↓] Try.z39 Try.z86 Go.wp_at_zero Go.wp_at_succ

theorem done65 (A : Option Addr) (c : Nat) (ks : List Bool) (n : Nat) (w : World) (B kb b1 b2 k : Nat) (h : Bs w B A ks) (hc : w.cell? ⟨kb, 0, none⟩ = some (.slice A ks.length c)) (h1 : w.cell? ⟨b1, 0, none⟩ = some (.func (.func 63) #[] #[.pointer (some ⟨kb, 0, none⟩)])) (h2 : w.cell? ⟨b2, 0, none⟩ = some (.int .i64 (lastK ks n))) (hl : ks.length ≤ 9223372036854775807) (hk : k < n) (hn : n ≤ 1000000) :
    Calls Try.prog 65 #[.int .i64 (k : Int), .pointer (some ⟨b1, 0, none⟩), .pointer (some ⟨b2, 0, none⟩)] w fun e w' => e = .returned (.bool (dn n ks k)) ∧ w = w' := by
  have hll := lastK_le ks n
  have hd := Lib.hid (dn_last ks n k)
  have hkc := Lib.hid (kept_any A c ks w B kb k h hc hl (by omega))
  have F : Hid (dn n ks k = (kept ks k || decide ((k : Int) ≤ lastK ks n - 4))) := show _ = _ by rw [hd.out]; rfl
  clear h hc
  generalize lastK ks n = L at *
  cases hz : kept ks k with
  | true =>
    rw [hz] at hkc F
    have F' : Hid (dn n ks k = true) := show _ = _ by rw [F.out]; rfl
    clear hz hd F
    go_enter Try.func65, Try.ntmps65
    go_wp2_with (go_at_call 63; refine hkc.out.mono ?_; rintro e w' ⟨rfl, rfl⟩)
    go_ret
    exact ⟨ret_bool F'.out.symm, rfl⟩
  | false =>
    rw [hz] at hkc F
    have F' : Hid (dn n ks k = decide ((k : Int) ≤ L - 4)) := show _ = _ by rw [F.out]; rfl
    clear hz hd F
    go_enter Try.func65, Try.ntmps65
    go_wp2_with (go_at_call 63; refine hkc.out.mono ?_; rintro e w' ⟨rfl, rfl⟩)
    go_ret
    exact ⟨ret_bool F'.out.symm, rfl⟩

/-- What outlasts leaves. -/
def Outl (w : World) (A : Option Addr) (c : Nat) (ks : List Bool) (n : Nat) (e : Ending) (w' : World) : Prop :=
  ∃ kb b1 b2, e = .returned (.func (.func 65) #[] #[.pointer (some ⟨b1, 0, none⟩), .pointer (some ⟨b2, 0, none⟩)]) ∧ Blk w' kb 35 #[.slice A ks.length c] ∧ Blk w' b1 95 #[.func (.func 63) #[] #[.pointer (some ⟨kb, 0, none⟩)]] ∧ Blk w' b2 3 #[.int .i64 (lastK ks n)] ∧ Below w.heap.size w w'

theorem outlasts_any (Aq : Option Addr) (cq : Nat) (q : List (Int × List Value)) (base : Nat) (A : Option Addr) (c : Nat) (ks : List Bool) (w : World) (hw : Own w base 86 65 (.slice Aq q.length cq) (q.map put1)) (hq : q.length ≤ 1000000) (hqb : ∀ e ∈ q, B64 e.2)
    (h : Bs w w.heap.size A ks) (hl : ks.length ≤ 9223372036854775807) :
    Calls Try.prog 53 #[.slice Aq q.length cq, .slice A ks.length c] w (Outl w A c ks q.length) := by
  have b0 : Blk ((w.alloc (.cells #[.slice A ks.length c] 35)).alloc (.cells #[.func (.func 63) #[] #[.pointer (some ⟨w.heap.size, 0, none⟩)]] 95)) w.heap.size 35 #[.slice A ks.length c] := (Blk.new w 35 _).alloc _
  have b1 : Blk ((w.alloc (.cells #[.slice A ks.length c] 35)).alloc (.cells #[.func (.func 63) #[] #[.pointer (some ⟨w.heap.size, 0, none⟩)]] 95)) (w.heap.size + 1) 95 #[.func (.func 63) #[] #[.pointer (some ⟨w.heap.size, 0, none⟩)]] := Blk.new' (w.alloc _) 95 _ (by simp)
  have hB : Below w.heap.size w ((w.alloc (.cells #[.slice A ks.length c] 35)).alloc (.cells #[.func (.func 63) #[] #[.pointer (some ⟨w.heap.size, 0, none⟩)]] 95)) := ((Below.refl _ w).alloc (Nat.le_refl _) _).alloc (by simp) _
  have hcall := Lib.hid (last_any Aq cq q base A c ks _ w.heap.size (hw.below hB) hq hqb ((h.below hB).more hB.size) (by simp; omega) (b0.cell 0) hl)
  have HB := Lib.hid hB
  have B0 := Lib.hid b0
  have B1 := Lib.hid b1
  clear b0 b1 hB h hw hqb
  go_enter Try.func53, Try.ntmps53
  go_wp2_with fail
  refine hcall.out.mono ?_
  rintro e w2 ⟨rfl, hB2⟩
  clear hcall
  go_wp2
  go_ret
  have k0 := B0.out.below hB2 B0.out.lt
  have k1 := B1.out.below hB2 B1.out.lt
  have hB3 := HB.out.trans (hB2.mono HB.out.size)
  exact ⟨w.heap.size, w.heap.size + 1, w2.heap.size, rfl, k0.alloc _, k1.alloc _, Blk.new w2 3 _, hB3.alloc hB3.size _⟩

/-- A slice holds the answers ks: ahead of base, or in a row of answers. -/
def Kb (w : World) (base : Nat) (A : Option Addr) (ks : List Bool) : Prop := 0 < ks.length → ∃ b o, A = some ⟨b, o, none⟩ ∧ b < w.heap.size ∧ (b < base ∨ ∃ cur, Blk w b 4 cur) ∧ ∀ j, j < ks.length → w.cell? ⟨b, o + j, none⟩ = some (.bool (ks.getD j false))
theorem Kb.bs {w : World} {base : Nat} {A : Option Addr} {ks : List Bool} (h : Kb w base A ks) : Bs w w.heap.size A ks := fun hn => by
  obtain ⟨b, o, e, hb, _, hc⟩ := h hn
  exact ⟨b, o, e, hb, hc⟩
theorem Kb.below {w w' : World} {base : Nat} {A : Option Addr} {ks : List Bool} (h : Kb w base A ks) (hB : Below w.heap.size w w') : Kb w' base A ks := fun hn => by
  obtain ⟨b, o, e, hb, hs, hc⟩ := h hn
  refine ⟨b, o, e, Nat.lt_of_lt_of_le hb hB.size, ?_, fun j hj => (hB.cell (p := ⟨b, o + j, none⟩) hb).trans (hc j hj)⟩
  rcases hs with hs | ⟨cur, hs⟩
  · exact .inl hs
  · exact .inr ⟨cur, hs.below hB hb⟩
theorem Blk.fr {w w' : World} {base p gs g : Nat} {t : TypeId} {cs : Array Value} (h : Blk w g t cs) (hf : Fr base p gs w w') (hp : g ≠ p) (hg : g ≠ gs) (ht : t ≠ 86) : Blk w' g t cs :=
  (hf.block g h.lt (.inr ⟨hp, hg, fun c fr e => by
    rw [show w.heap[g]? = _ from h] at e
    injection e with e
    injection e with _ e
    exact ht e⟩)).trans h
theorem Kb.fr {w w' : World} {base p gs : Nat} {S : DSt} {A : Option Addr} {ks : List Bool} (h : Kb w base A ks) (hd : Dk w base p gs S) (hf : Fr base p gs w w') : Kb w' base A ks := fun hn => by
  obtain ⟨b, o, e, hb, hs, hc⟩ := h hn
  obtain ⟨cs, vq, hbk, ho, _⟩ := hd.own
  obtain ⟨_, cur', hgl⟩ := ho.gs
  have hbl : w'.heap[b]? = w.heap[b]? := by
    rcases hs with hs | ⟨cur, hs⟩
    · exact hf.block b hb (.inl hs)
    · exact (hs.fr hf (hs.ne hbk (by decide)) (hs.ne hgl (by decide)) (by decide)).trans hs.symm
  refine ⟨b, o, e, Nat.lt_of_lt_of_le hb hf.size, ?_, fun j hj => (World.cell?_of_block (a := ⟨b, o + j, none⟩) hbl).trans (hc j hj)⟩
  rcases hs with hs | ⟨cur, hs⟩
  · exact .inl hs
  · exact .inr ⟨cur, hbl.trans hs⟩

/-- What a call leaves that answers an error. -/
def Left (w : World) (base p gs : Nat) (S' : DSt) (er : Int) (e : Ending) (w' : World) : Prop := e = .returned (.int .i64 er) ∧ Dk w' base p gs S' ∧ Fr base p gs w w'

set_option maxHeartbeats 1000000 in
theorem crash_any (w : World) (base p gs : Nat) (S : DSt) (A : Option Addr) (c : Nat) (ks : List Bool) (h : Dk w base p gs S) (hq : S.q.length ≤ 1000000) (hk : Kb w base A ks) (hl : ks.length ≤ 9223372036854775807) :
    Calls Try.prog 30 #[.pointer (some ⟨p, 0, none⟩), .slice A ks.length c] w (Left w base p gs (crashed S ks) 0) := by
  obtain ⟨cs, vq, hb, ho, hw⟩ := h.own
  obtain ⟨Aq, cq, hvq⟩ := hw.val
  rw [List.length_map] at hvq
  subst hvq
  have hc1 : w.cell? ⟨p, 1, none⟩ = some (.slice Aq S.q.length cq) := hb.cell 1
  have hcall := Lib.hid (outlasts_any Aq cq S.q base A c ks w hw hq (fun e he => (h.ok.q e he).1) hk.bs hl)
  have HH := Lib.hid h
  have HKB := Lib.hid hk
  clear hb ho hw hk h
  go_enter Try.func30, Try.ntmps30
  go_wp2_with fail
  refine hcall.out.mono ?_
  rintro e w2 ⟨kb, b1, b2, rfl, k0, k1, k2, hB2⟩
  clear hcall hc1
  have d2 := HH.out.below hB2
  have hk2 := HKB.out.below hB2
  obtain ⟨cs2, vq2, hb2, ho2, _⟩ := d2.own
  obtain ⟨_, cur2, hgl2⟩ := ho2.gs
  have hem := Lib.hid (empty65 w2 base p gs S (.pointer (some ⟨b1, 0, none⟩)) (.pointer (some ⟨b2, 0, none⟩)) (dn S.q.length ks) d2 hq fun wr hf k hk =>
    done65 A c ks S.q.length wr wr.heap.size kb b1 b2 k (hk2.fr d2 hf).bs ((k0.fr hf (k0.ne hb2 (by decide)) (k0.ne hgl2 (by decide)) (by decide)).cell 0) ((k1.fr hf (k1.ne hb2 (by decide)) (k1.ne hgl2 (by decide)) (by decide)).cell 0) ((k2.fr hf (k2.ne hb2 (by decide)) (k2.ne hgl2 (by decide)) (by decide)).cell 0) hl hk hq)
  clear k0 k1 k2 hk2 hb2 ho2 hgl2 d2
  go_wp2_with fail
  refine hem.out.mono ?_
  rintro e w3 ⟨⟨v, rfl⟩, d3, f3⟩
  have hF : Fr base p gs w w3 := (Fr.of_below hB2).trans f3
  clear hem f3 hB2
  obtain ⟨cs3, vq3, hb3, _⟩ := d3.own
  have hp3 := hb3.lt
  have p2 : w3.cell? ⟨p, 2, none⟩ = some (.int .i64 S.armed) := hb3.cell 2
  have p3 : w3.cell? ⟨p, 3, none⟩ = some (.int .i64 S.doomed) := hb3.cell 3
  have p4 : w3.cell? ⟨p, 4, none⟩ = some (.bool S.dead) := hb3.cell 4
  have f2 := hb3.frozen 2
  have f3 := hb3.frozen 3
  have f4 := hb3.frozen 4
  have fin : ∀ o : Obj, Left w base p gs (crashed S ks) 0 (.returned (.int .i64 0)) ((((w3.setCell ⟨p, 2, none⟩ (.int .i64 (-1))).setCell ⟨p, 3, none⟩ (.int .i64 (-1))).setCell ⟨p, 4, none⟩ (.bool false)).alloc o) := fun o => by
    refine ⟨rfl, Dk.alloc ?_ o, ((((hF.set HH.out.base 2 _).set HH.out.base 3 _).set HH.out.base 4 _)).alloc o⟩
    refine d3.turn (fun cs vq hb => ((hb.set_ 2 _).set_ 3 _).set_ 4 _) (fun k hk => ?_) rfl rfl (crashed_ok HH.out.ok ks)
    rw [Below.heap_setCell _ _ _ k hk, Below.heap_setCell _ _ _ k hk, Below.heap_setCell _ _ _ k hk]
  have FIN := Lib.hid fin
  clear fin d3 hF hb3
  go_wp2_with (go_at_call 34; refine (noCounts_new _).mono ?_; rintro e w' ⟨rfl, rfl⟩)
  go_ret
  exact FIN.out _

end Go.Proofs.Ytdhompiapklnaaa
