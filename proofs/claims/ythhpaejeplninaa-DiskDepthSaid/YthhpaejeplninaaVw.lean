/-
  All sectors of a copy of a disk, behind a crash of that.
-/
import Derived.Test.YthhpaejeplninaaCp
import Derived.Test.YthhpaejeplninaaSy
import Derived.Test.YthhpaejeplninaaEq
namespace Go.Proofs.Ythhpaejeplninaa
open Go.RowKit

def Z9 : List Value := List.replicate 576 (.int .u8 0)
theorem Try.z53 : ∀ w, (zeroValue 53).run Try.prog w = .ok (.agg Z9.toArray) w := (zero_of_info (n := 576) (by kernel_rfl)).1
theorem Try.i53 : (Try.prog.info? 53).map (·.size) = some 576 := by kernel_rfl

/-- A disk that answers every read. -/
structure VSt (S : DSt) (C : List (List Value)) : Prop where
  has : S.has = C
  q : S.q = []
  dead : S.dead = false
  doomed : S.doomed = -1
section
variable {S : DSt} {C : List (List Value)}
theorem VSt.err (h : VSt S C) {j : Nat} (hj : j < C.length) : askErr S false j = 0 := by
  unfold askErr
  rw [h.dead, h.has, h.doomed]
  simp [hj]
theorem VSt.read (h : VSt S C) {j : Nat} (hj : j < C.length) : readB S j = C.getD j [] := by
  unfold readB
  rw [if_pos (h.err hj)]
  unfold readAs
  rw [h.q]
  show S.has.getD _ _ = _
  rw [h.has]
  rfl
theorem VSt.next (h : VSt S C) {j : Nat} (hj : j < C.length) : VSt (askSt S false j) C := by
  refine ⟨(askSt_has S false j).trans h.has, (askSt_q S false j).trans h.q, ?_, ?_⟩
  all_goals
    unfold askSt
    rw [h.dead, h.has, h.doomed]
    simp [hj, less]
end
theorem crashed_v (S : DSt) (ks : List Bool) : VSt (crashed S ks) (crashed S ks).has := ⟨rfl, rfl, rfl, rfl⟩

theorem Dk.low {w : World} {base p gs g : Nat} {S : DSt} (h : Dk w base p gs S) (hg : g < base) (o : Nat) (vs : List Value) : Dk (w.setCells g o vs) base p gs S := by
  have hb := h.base
  obtain ⟨cs, vq, _, ho, _⟩ := h.own
  obtain ⟨hgs, _⟩ := ho.gs
  exact h.keep (heap_setCells_other vs w g o p (by omega)) (heap_setCells_other vs w g o gs (by omega)) fun k _ hk _ => heap_setCells_other vs w g o k (by omega)

/-- The first j sectors lie in block g. -/
def Vl (w : World) (g : Nat) (C : List (List Value)) (j : Nat) : Prop := ∃ cur, Blk w g 53 cur ∧ cur.size = 576 ∧ ∀ i, i < j * 64 → cur[i]? = C.flatten[i]?
theorem Vl.step {w : World} {g : Nat} {C : List (List Value)} {j : Nat} (h : Vl w g C j) (hC : Parts 64 C) (hl : C.length = 9) (hj : j < 9) : Vl (w.setCells g (j * 64) (C.getD j [])) g C (j + 1) := by
  obtain ⟨cur, hb, hs, hc⟩ := h
  have hlen := hC.getD (i := j) (by omega)
  refine ⟨_, hb.setCells _ _, by rw [lay_size]; exact hs, fun i hi => ?_⟩
  rw [lay_get _ _ _ _ (by omega)]
  split
  · rename_i h1
    have := hC.get j (i - j * 64) (by omega) (by omega)
    rw [show j * 64 + (i - j * 64) = i by omega] at this
    exact this.symm
  · exact hc i (by omega)
theorem Vl.whole {w : World} {g : Nat} {C : List (List Value)} (h : Vl w g C 9) (hC : Parts 64 C) (hl : C.length = 9) : Blk w g 53 C.flatten.toArray := by
  obtain ⟨cur, hb, hs, hc⟩ := h
  have : cur = C.flatten.toArray := by
    refine Array.ext_getElem? fun i => ?_
    have e : C.flatten.toArray[i]? = C.flatten[i]? := by simp
    rw [e]
    by_cases hi : i < 576
    · exact hc i (by omega)
    · rw [Array.getElem?_eq_none (by omega), List.getElem?_eq_none (by rw [hC.len, hl]; omega)]
  rw [← this]
  exact hb

/-- What view leaves. -/
def Viewd (w : World) (C : List (List Value)) (e : Ending) (w' : World) : Prop := e = .returned (.tuple #[.agg C.flatten.toArray, .bool true]) ∧ Below w.heap.size w w'

attribute [local go_sem ↓] Try.z53 Try.z39
set_option maxRecDepth 100000 in
set_option maxHeartbeats 4000000 in
theorem view_any (A : Option Addr) (c : Nat) (ks : List Bool) (w : World) (base p gs : Nat) (S : DSt) (h : Dk w base p gs S) (hq : S.q.length ≤ 1000000) (hh : S.has.length = 9) (hk : Bs w w.heap.size A ks) (hl : ks.length ≤ 9223372036854775807) :
    Calls Try.prog 24 #[.pointer (some ⟨p, 0, none⟩), .slice A ks.length c] w (Viewd w (crashed S ks).has) := by
  have hcopy := copy_any (w.alloc (.cells Z9.toArray 53)) base p gs S (h.alloc _) hq (by omega)
  have HC := Lib.hid hcopy
  have HK := Lib.hid hk
  have HL := Lib.hid hl
  have HQ := Lib.hid hq
  have hC : Parts 64 (crashed S ks).has := (crashed_ok h.ok ks).parts
  have hO : ∀ b ∈ (crashed S ks).has, B64 b := (crashed_ok h.ok ks).has
  have hCl : (crashed S ks).has.length = 9 := by rw [crashed_len, hh]
  have HP := Lib.hid hC
  have HO := Lib.hid hO
  clear hcopy hk hl h hq hC hO
  go_enter Try.func24, Try.ntmps24
  go_wp2_with fail
  refine HC.out.mono ?_
  rintro e w1 ⟨p1, gs1, rfl, d1, hB1⟩
  clear HC
  have hcr := crash_any w1 _ p1 gs1 S A c ks d1 HQ.out (fun hn => by
    obtain ⟨b, o, hA, hb, hc⟩ := (HK.out.below (((Below.refl _ w).alloc (Nat.le_refl _) (.cells Z9.toArray 53)).trans (hB1.mono (by simp)))) hn
    exact ⟨b, o, hA, by have := hB1.size; simp at this; omega, .inl (by simp; omega), hc⟩) HL.out
  have v1 : Vl w1 w.heap.size (crashed S ks).has 0 := ⟨_, (Blk.new w 53 Z9.toArray).below hB1 (by simp), by simp [Z9], fun i hi => by omega⟩
  have hB2 : Below w.heap.size w w1 := ((Below.refl _ w).alloc (Nat.le_refl _) (.cells Z9.toArray 53)).trans (hB1.mono (by simp))
  have HC := Lib.hid hcr
  have HV := Lib.hid v1
  have HB := Lib.hid hB2
  clear hcr v1 hB1 hB2 d1
  go_wp2_with fail
  refine HC.out.mono ?_
  rintro e w2 ⟨rfl, d2, f2⟩
  clear HC
  have v2 : Vl w2 w.heap.size (crashed S ks).has 0 := by
    obtain ⟨cur, h1, h2⟩ := HV.out
    exact ⟨cur, h1.below (f2.below (by have := f2.size; have := HB.out.size; have := h1.lt; simp; omega)) (by simp), h2⟩
  have hB2 : Below w.heap.size w w2 := HB.out.trans ((f2.below (by obtain ⟨cur, h1, _⟩ := HV.out; have := h1.lt; simp; omega)).mono (by simp))
  have hs := crashed_v S ks
  have hpe := pending_any d2 (by rw [hs.q]; simp)
  rw [hs.q] at hpe
  have HPE := Lib.hid hpe
  have D2 := Lib.hid d2
  have HV2 := Lib.hid v2
  have HB2 := Lib.hid hB2
  have HS := Lib.hid hs
  clear HV HB f2 d2 v2 hB2 hpe hs
  generalize (crashed S ks).has = C at *
  generalize crashed S ks = S1 at *
  go_wp2_with fail
  refine HPE.out.mono ?_
  rintro e w3 ⟨rfl, -, hB3⟩
  have d3 := D2.out.below hB3
  have v3 : Vl w3 w.heap.size C 0 := by
    obtain ⟨cur, h1, h2⟩ := HV2.out
    exact ⟨cur, h1.below hB3 h1.lt, h2⟩
  have hB3 := HB2.out.trans (hB3.mono HB2.out.size)
  have ST : Hid (∃ S' : DSt, VSt S' C ∧ Dk w3 (w.alloc (.cells Z9.toArray 53)).heap.size p1 gs1 S' ∧ Vl w3 w.heap.size C 0 ∧ Below w.heap.size w w3) := ⟨_, HS.out, d3, v3, hB3⟩
  clear HPE D2 HV2 HB2 HS d3 v3 hB3
  go_wp2_with fail
  go_loopw [26] (fun i wr => ∃ j : Nat, j ≤ 9 ∧ i = .int .i64 j ∧ ∃ S' : DSt, VSt S' C ∧ Dk wr (w.alloc (.cells Z9.toArray 53)).heap.size p1 gs1 S' ∧ Vl wr w.heap.size C j ∧ Below w.heap.size w wr) (fun i _ => 9 - (intOf i).toNat)
  case atStart =>
    obtain ⟨S', h1, h2, h3, h4⟩ := ST.out
    exact ⟨0, by omega, rfl, S', h1, h2, h3, h4⟩
  case round =>
    clear ST
    obtain ⟨j, hj, rfl, S', hs, hd, hv, hB⟩ := hrel
    by_cases hlt : j < 9
    · have hj9 : (j : Int) < 9 := by omega
      have hrd := read_any j wr _ p1 gs1 S' hd (by rw [hs.q]; simp)
      unfold Readd at hrd
      rw [hs.read (by omega), hs.err (by omega)] at hrd
      have HRD := Lib.hid hrd
      have HS := Lib.hid (hs.next (j := j) (by omega))
      have HV := Lib.hid hv
      have HB := Lib.hid hB
      have hle : w.heap.size < wr.heap.size := by obtain ⟨cur, h1, _⟩ := hv; exact h1.lt
      clear hrd hs hd hv hB
      have hstep : ∀ w4, Vl w4 w.heap.size C j → Vl (w4.setCells w.heap.size (j * 64) (C.getD j [])) w.heap.size C (j + 1) := fun w4 v4 => v4.step HP.out hCl hlt
      have hbo : B64 (C.getD j []) := HO.out _ (by
        have e : C.getD j [] = C[j] := by simp [List.getD, hCl, hlt]
        rw [e]; exact List.getElem_mem _)
      generalize C.getD j [] = B at *
      have HST := Lib.hid hstep
      have HBO := Lib.hid hbo
      clear hstep hbo
      go_wp2_with fail
      refine HRD.out.mono ?_
      rintro e w4 ⟨rfl, d4, f4⟩
      have hbl := f4.below (by simp; omega)
      have v4 : Vl w4 w.heap.size C j := by
        obtain ⟨cur, h1, h2⟩ := HV.out
        exact ⟨cur, h1.below hbl (by simp), h2⟩
      have hB4 := HB.out.trans (hbl.mono (by simp))
      have hB5 := Lib.hid (Below.setCells hB4 (Nat.le_refl _) (j * 64) B)
      have hV5 := Lib.hid (HST.out w4 v4)
      have D5 := Lib.hid (d4.low (g := w.heap.size) (by simp) (j * 64) B)
      have th : Hid (w4.there w.heap.size (j * 64) B.toArray.size) := by
        obtain ⟨cur, h1, h2, _⟩ := v4
        have hlen := HBO.out.len
        intro i hi
        have hi' : i < 64 := by simpa [hlen] using hi
        refine ⟨?_, h1.frozen _⟩
        rw [h1.cell]
        have : j * 64 + i < cur.size := by omega
        simp [this]
      have i39 := Lib.hid (show (Try.prog.info? 39).map (·.size) = some B.toArray.size by rw [List.size_toArray, HBO.out.len]; exact Try.i39)
      have o39 := Lib.hid (all_oneCell_toArray HBO.out.one)
      clear HRD HV HB d4 f4 hbl v4 hB4
      go_wp2_with ((with_reducible refine at_store (t := 39) ?_); refine wpList_store_mid rfl 39 _ _ rfl w.heap.size (j * 64) B.toArray (by simp [Act.eval]) rfl th.out i39.out o39.out ?_; rw [List.toList_toArray])
      exact ⟨⟨j + 1, by omega, by go_num, _, HS.out, D5.out, hV5.out, hB5.out⟩, by simp [intOf]; omega⟩
    · have hj9 : j = 9 := by omega
      subst hj9
      have hw := Lib.hid (hv.whole HP.out hCl)
      have HB := Lib.hid hB
      have hsz : C.flatten.toArray.size = 576 := by rw [List.size_toArray, HP.out.len, hCl]
      have i53 := Lib.hid (show (Try.prog.info? 53).map (·.size) = some C.flatten.toArray.size by rw [hsz]; exact Try.i53)
      have o53 : Hid (∀ v ∈ C.flatten, v.oneCell' = true) := fun v hv => by
        obtain ⟨b, hb, hv⟩ := List.mem_flatten.1 hv
        exact (HO.out b hb).one v hv
      have th := Lib.hid (there_blk hw.out C.flatten.toArray.size (Nat.le_refl _))
      clear hs hd hB hv
      go_wp2_with (first
        | ((with_reducible refine at_load (t := 53) ?_); refine wpList_load_row rfl 53 _ rfl w.heap.size rfl 53 C.flatten.toArray (0, 0) _ hw.out Try.underlying53' rfl i53.out ?_)
        | ((with_reducible refine at_store (t := 53) ?_); refine wpList_store_mid rfl 53 _ _ rfl w.heap.size 0 C.flatten.toArray rfl rfl th.out i53.out (all_oneCell_toArray o53.out) ?_; rw [List.toList_toArray]))
      have kf := hw.out.setCells 0 C.flatten
      rw [lay_whole _ _ (by simp)] at kf
      exact bodyPost_ret (ret_cell_tmp (p := 4) (u := 5) (ty := 53) rfl _ _ w.heap.size 53 C.flatten.toArray _ rfl kf Try.underlying53' rfl i53.out) rfl ⟨rfl, Below.setCells HB.out (Nat.le_refl _) _ _⟩

end Go.Proofs.Ythhpaejeplninaa
