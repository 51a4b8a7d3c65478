/-
  What an Ask keeps, and its block.
-/
import Derived.Test.YtdhompiapklnaaaR1
namespace Go.Proofs.Ytdhompiapklnaaa
open Go.RowKit
attribute [local go_sem ↓] Try.z39

/-- The block of an Ask. -/
def bk (n : Int) : List Value := (List.range 64).map fun j : Nat => .int .u8 ((n + (j : Int) / 32) % 256)
theorem bk_ok (n : Int) : B64 (bk n) := ⟨by simp [bk], fun v hv => by
  obtain ⟨j, _, rfl⟩ := List.mem_map.1 hv
  exact ⟨_, rfl⟩⟩
theorem bk_get (n : Int) (j : Nat) (hj : j < 64) : (bk n)[j]? = some (.int .u8 ((n + (j : Int) / 32) % 256)) := by simp [bk, hj]

/-- An Ask's value. -/
def askv (kd at_ n : Int) (A : Option Addr) (nk c : Nat) : Array Value := #[.int .i64 kd, .int .i64 at_, .int .i64 n, .slice A nk c]

def Bkd (w : World) (g : Nat) (n : Int) (j : Nat) : Prop := ∃ cur, Blk w g 39 cur ∧ cur.size = 64 ∧ ∀ i, i < j → cur[i]? = (bk n)[i]?
theorem Bkd.step {w : World} {g : Nat} {n : Int} {j : Nat} (h : Bkd w g n j) (hj : j < 64) : Bkd (w.setCell ⟨g, j, none⟩ (.int .u8 ((n + (j : Int) / 32) % 256))) g n (j + 1) := by
  obtain ⟨cur, hb, hs, hc⟩ := h
  refine ⟨_, hb.set_ j _, by simpa using hs, fun i hi => ?_⟩
  rw [Array.getElem?_setIfInBounds]
  by_cases e : j = i
  · subst e
    rw [if_pos rfl, if_pos (by omega), bk_get n j hj]
  · rw [if_neg e]
    exact hc i (by omega)
theorem Bkd.fin {w : World} {g : Nat} {n : Int} (h : Bkd w g n 64) : Blk w g 39 (bk n).toArray := by
  obtain ⟨cur, hb, hs, hc⟩ := h
  have e : cur = (bk n).toArray := by
    apply Array.ext_getElem?
    intro i
    by_cases hi : i < 64
    · rw [hc i hi]
      exact List.getElem?_toArray.symm
    · rw [Array.getElem?_eq_none (xs := cur) (by omega), Array.getElem?_eq_none (xs := (bk n).toArray) (by rw [List.size_toArray, (bk_ok n).1]; omega)]
  rw [← e]
  exact hb

set_option maxRecDepth 100000 in
set_option maxHeartbeats 1000000 in
theorem block_any (kd at_ n : Int) (A : Option Addr) (nk c : Nat) (w : World) : Calls Try.prog 33 #[.agg (askv kd at_ n A nk c)] w fun e w' => e = .returned (.agg (bk n).toArray) ∧ Below w.heap.size w w' := by
  unfold askv
  have st : Blk (((w.alloc (.cells #[.int .i64 kd, .int .i64 at_, .int .i64 n, .slice A nk c] 37)).alloc (.cells Z0.toArray 39)).alloc (.cells Z0.toArray 39)) w.heap.size 37 #[.int .i64 kd, .int .i64 at_, .int .i64 n, .slice A nk c] ∧ Blk (((w.alloc (.cells #[.int .i64 kd, .int .i64 at_, .int .i64 n, .slice A nk c] 37)).alloc (.cells Z0.toArray 39)).alloc (.cells Z0.toArray 39)) (w.heap.size + 1) 39 Z0.toArray ∧ Bkd (((w.alloc (.cells #[.int .i64 kd, .int .i64 at_, .int .i64 n, .slice A nk c] 37)).alloc (.cells Z0.toArray 39)).alloc (.cells Z0.toArray 39)) (w.heap.size + 1 + 1) n 0 ∧ Below w.heap.size w (((w.alloc (.cells #[.int .i64 kd, .int .i64 at_, .int .i64 n, .slice A nk c] 37)).alloc (.cells Z0.toArray 39)).alloc (.cells Z0.toArray 39)) :=
    ⟨((Blk.new w 37 _).alloc _).alloc _, (Blk.new' (w.alloc _) 39 _ (by simp)).alloc _, ⟨_, Blk.new' ((w.alloc _).alloc _) 39 _ (by simp), rfl, fun i hi => absurd hi (by omega)⟩, (((Below.refl _ w).alloc (Nat.le_refl _) _).alloc (by simp) _).alloc (by simp; omega) _⟩
  have ST := Lib.hid st
  have i39 := Lib.hid (show (Try.prog.info? 39).map (·.size) = some (bk n).toArray.size by rw [List.size_toArray, (bk_ok n).1]; exact Try.i39)
  have hone := Lib.hid (bk_ok n).one
  have hlen := Lib.hid (bk_ok n).1
  clear st
  go_enter Try.func33, Try.ntmps33
  go_wp2_with fail
  go_loopw [5] (fun i wr => ∃ j : Nat, j ≤ 64 ∧ i = .int .i64 j ∧ Blk wr w.heap.size 37 #[.int .i64 kd, .int .i64 at_, .int .i64 n, .slice A nk c] ∧ Blk wr (w.heap.size + 1) 39 Z0.toArray ∧ Bkd wr (w.heap.size + 1 + 1) n j ∧ Below w.heap.size w wr) (fun i _ => 64 - (intOf i).toNat)
  case atStart => exact ⟨0, Nat.zero_le _, rfl, ST.out⟩
  case round =>
    clear ST
    obtain ⟨j, hj, rfl, hb, hz, hk, hB⟩ := hrel
    by_cases hlt : j < 64
    · have c2 := hb.cell 2
      simp only [List.getElem?_toArray, List.getElem?_cons_zero, List.getElem?_cons_succ] at c2
      have hcj : ∃ u, wr.cell? ⟨w.heap.size + 1 + 1, j, none⟩ = some u ∧ wr.frozen? ⟨w.heap.size + 1 + 1, j, none⟩ = false := by
        obtain ⟨cur, hc, hs, _⟩ := hk
        exact ⟨cur[j], by rw [hc.cell j]; simp [hs, hlt], hc.frozen j⟩
      obtain ⟨u, hcj, hf⟩ := hcj
      have HK := Lib.hid hk
      clear hk
      go_wp2
      exact ⟨⟨j + 1, by omega, by go_num, hb.far (by simp; omega) _, hz.far (by simp) _, HK.out.step hlt, hB.setCell (by simp; omega) _⟩, by simp [intOf]; omega⟩
    · obtain rfl : j = 64 := by omega
      have KB := Lib.hid hk.fin
      have ht := Lib.hid (there_blk hz (bk n).toArray.size (by rw [List.size_toArray, hlen.out]; exact Nat.le_refl _))
      have HZ := Lib.hid hz
      clear hk hb hz
      go_wp2_with (first
        | ((with_reducible refine at_load (t := 39) ?_); refine wpList_load_row rfl 39 _ rfl (w.heap.size + 1 + 1) rfl 39 (bk n).toArray (0, 0) _ KB.out Try.underlying39 rfl i39.out ?_)
        | ((with_reducible refine at_store (t := 39) ?_); refine wpList_store_mid rfl 39 _ _ rfl (w.heap.size + 1) 0 (bk n).toArray rfl rfl ht.out i39.out (all_oneCell_toArray hone.out) ?_))
      have kf := HZ.out.setCells 0 (bk n)
      rw [lay_whole _ _ (by rw [hlen.out]; rfl)] at kf
      exact bodyPost_ret (results_cell_row (p := 2) (ty := 39) rfl _ _ (w.heap.size + 1) 39 (bk n).toArray (0, 0) _ rfl kf Try.underlying39 rfl i39.out) rfl ⟨rfl, Below.setCells hB (by omega) _ _⟩

/-- A row of answers of one's own. -/
def Krow (w : World) (base : Nat) (v : Value) (ks : List Bool) : Prop := w.ownsRow base 4 1 v ks.length (ks.map Value.bool)
theorem Krow.kb {w : World} {base b' : Nat} {v : Value} {ks : List Bool} (h : Krow w base v ks) : ∃ A c, v = .slice A ks.length c ∧ Kb w b' A ks := by
  rcases h.2 with ⟨rfl, h0⟩ | ⟨g, cap, cur, rfl, hb, hh, hc, hm, hs, ht⟩
  · exact ⟨none, 0, by rw [h0], fun hn => absurd hn (by omega)⟩
  · refine ⟨_, _, rfl, fun hn => ⟨g, 0, rfl, Blk.lt (t := 4) hh, .inr ⟨cur, hh⟩, fun j hj => ?_⟩⟩
    rw [Nat.zero_add, h.cellAt j (by omega)]
    simp [List.getD, hj]

theorem Try.info4 : (Try.prog.info? 4).map (fun i => (i.zero, i.size, i.bytes)) = some (some (.bool false), 1, 1) := by kernel_rfl

/-- What keep leaves. -/
def Keept (w : World) (ks : List Bool) (e : Ending) (w' : World) : Prop := ∃ v, e = .returned v ∧ Krow w' w.heap.size v ks ∧ Below w.heap.size w w'

set_option maxRecDepth 100000 in
set_option maxHeartbeats 2000000 in
theorem keep_any (kd at_ n : Int) (A : Option Addr) (c : Nat) (ks : List Bool) (w : World) (h : Bs w w.heap.size A ks) (hl : ks.length ≤ 9223372036854775807) :
    Calls Try.prog 35 #[.agg (askv kd at_ n A ks.length c)] w (Keept w (ks.take 100)) := by
  obtain ⟨i0, hi, hz0, hz1, hz2⟩ := info_parts Try.info4
  unfold askv
  have HBS := Lib.hid h
  have hB0 : Hid (Below w.heap.size w (w.alloc (.cells #[.int .i64 kd, .int .i64 at_, .int .i64 n, .slice A ks.length c] 37))) := (Below.refl _ w).alloc (Nat.le_refl _) _
  clear h
  go_enter Try.func35, Try.ntmps35
  go_wp2_with fail
  go_loopw [3, 9] (fun v i wr => ∃ j : Nat, j ≤ ks.length ∧ i = .int .i64 j ∧ wr.ownsRow w.heap.size 4 1 v ((ks.take 100).take j).length (((ks.take 100).take j).map Value.bool) ∧ Below w.heap.size w wr) (fun _ i _ => ks.length - (intOf i).toNat)
  case atStart => exact ⟨0, Nat.zero_le _, rfl, World.ownsRow_nil _ _ _ _, hB0.out⟩
  case round =>
    clear hB0
    obtain ⟨j, hj, rfl, hown, hB⟩ := hrel
    by_cases hlt : j < ks.length
    · obtain ⟨b, o, rfl, hb, hc⟩ := (HBS.out.below hB) (by omega)
      have hcell := hc j hlt
      clear hc
      by_cases h100 : j < 100
      · have hnx : Hid ((ks.take 100).take (j + 1) = (ks.take 100).take j ++ [ks.getD j false]) := show _ = _ by
          have h1 : j < (ks.take 100).length := by rw [List.length_take]; omega
          have e : (ks.take 100)[j] = ks.getD j false := by simp [List.getD, hlt]
          rw [List.take_succ_eq_append_getElem h1, e]
        have hln : Hid (((ks.take 100).take j).length = j) := show _ = _ by rw [List.length_take, List.length_take]; omega
        have hj100 : (j : Int) < 100 := by omega
        have HO := Lib.hid hown
        clear hown
        generalize ks.getD j false = z at *
        generalize hX : (ks.take 100).take j = X at *
        clear hX
        go_wp2_with (at_builtin; refine wpList_append_own _ rfl _ _ 35 rfl w.heap.size 4 i0 (.bool false) 1 1 Try.underlying35 hi hz0 hz1 hz2 rfl (by decide) _ _ _ rfl (HO.out.alloc _) ⟨wr.heap.size, 0, none⟩ 1 1 [.bool z] rfl rfl (World.news_of_block (cs := #[.bool z]) (t := 4) (fr := (0, 0)) (heap_alloc_new wr _)) (by simp [Value.oneCell']) (by rw [hln.out]; unfold maxLen; omega) (by rw [hln.out]; omega) (by have := hB.size; simp; omega) ?_; intro v' w1 hown' hgrow _)
        have hB' : Below w.heap.size w w1 := (hB.alloc hB.size _).grown hgrow (by have := hB.size; simp; omega) (fun k e => by
          have := (HO.out.alloc (.cells #[.bool z] 4)).lt k e
          exact this.1)
        have hown2 : w1.ownsRow w.heap.size 4 1 v' ((ks.take 100).take (j + 1)).length (((ks.take 100).take (j + 1)).map Value.bool) := by
          rw [hnx.out, List.length_append, List.map_append]
          exact hown'
        have HO2 := Lib.hid hown2
        clear hown' hown2 hgrow HO
        go_wp2
        exact ⟨⟨j + 1, by omega, by go_num, HO2.out, hB'⟩, by simp [intOf]; omega⟩
      · have hj100 : ¬ ((j : Int) < 100) := by omega
        have hnx : Hid ((ks.take 100).take (j + 1) = (ks.take 100).take j) := show _ = _ by
          have h1 : (ks.take 100).length ≤ j := by rw [List.length_take]; omega
          exact (List.take_of_length_le (by omega)).trans (List.take_of_length_le h1).symm
        have HO := Lib.hid hown
        clear hown
        go_wp2
        exact ⟨⟨j + 1, by omega, by go_num, by rw [hnx.out]; exact HO.out, hB⟩, by simp [intOf]; omega⟩
    · have HO : Hid (Krow wr w.heap.size u3 (ks.take 100)) := show World.ownsRow _ _ _ _ _ _ _ by
        have e : (ks.take 100).take j = ks.take 100 := List.take_of_length_le (by rw [List.length_take]; omega)
        rw [e] at hown
        exact hown
      clear hown
      go_wp2
      go_ret
      exact ⟨_, rfl, HO.out, hB⟩

end Go.Proofs.Ytdhompiapklnaaa
