/-
  The document's Decode.
-/
import Derived.Test.YtfclppopelmdgaaDoorD3
import Derived.Deep.CutBlock
import Derived.Shelf.RegionOpen
namespace Go.Proofs.YtfclppopelmdgaaDoor
open Go.RowKit
attribute [local go_sem ↓] field27

/-- The cells when so many are written. -/
def ics (ts : List Int) (k : Nat) : List Int := ts.take k ++ List.replicate (ts.length - k) 0
def IZ (l : List Int) : Array Value := (l.map (Value.int .i64)).toArray
theorem ics_zero (ts : List Int) : madeCells #[.int .i64 0] ts.length = IZ (ics ts 0) := by
  unfold ics IZ
  rw [made_one, List.take_zero, List.nil_append, List.map_replicate, Nat.sub_zero]
theorem ics_succ {ts : List Int} {k : Nat} (hk : k < ts.length) : (IZ (ics ts k)).setIfInBounds k (.int .i64 (ts.getD k 0)) = IZ (ics ts (k + 1)) := by
  unfold IZ ics
  rw [List.setIfInBounds_toArray, ← List.map_set]
  congr 2
  rw [show ts.length - k = (ts.length - (k + 1)) + 1 by omega, set_mid _ _ _ _ _ (by rw [List.length_take]; omega), List.take_succ_eq_append_getElem hk, List.append_assoc]
  have e : ts.getD k 0 = ts[k] := by simp [List.getD, hk]
  rw [e]
  rfl
theorem ics_end (ts : List Int) : ics ts ts.length = ts := by
  unfold ics
  rw [List.take_length, Nat.sub_self]
  simp
theorem ics_size (ts : List Int) {k : Nat} (hk : k ≤ ts.length) : (IZ (ics ts k)).size = ts.length := by
  unfold IZ ics
  simp
  omega
theorem Is.of_blk {w : World} {g n : Nat} {xs : List Int} (h : Blk w g 3 (IZ xs)) (hn : xs.length = n) : Is w (g + 1) (some ⟨g, 0, none⟩) n xs := by
  refine ⟨hn, fun _ => ⟨g, 0, rfl, by omega, fun j hj => ?_⟩⟩
  rw [Nat.zero_add, h.cell]
  unfold IZ
  simp [List.getD, show j < xs.length by omega]
theorem Mi.of_blk {w : World} {g n base : Nat} {xs : List Int} (h : Blk w g 3 (IZ xs)) (hn : xs.length = n) (hb : base ≤ g) : Mi w base (some ⟨g, 0, none⟩) n n xs := by
  refine ⟨hn, Nat.le_refl _, .inr ⟨g, 3, _, rfl, hb, h, by unfold IZ; simp; omega, fun j hj => ?_⟩⟩
  unfold IZ
  simp [List.getD, show j < xs.length by omega]

set_option maxRecDepth 100000 in
set_option maxHeartbeats 8000000 in
theorem refdecode_any (A : Option Addr) (n c B : Nat) (zs : List Int) (w : World) (h : By w B A n zs) (hn : n ≤ 1000000) (hB : B ≤ w.heap.size) :
    Calls Tryd.prog 34 #[.slice A n c] w (Cfx w (decL zs) (decE zs)) := by
  have HL := Lib.hid h.1
  have hz0 := (h.2.1 0).1
  have hz1 := (h.2.1 0).2
  obtain ⟨E, hE⟩ : ∃ E, decE zs = E := ⟨_, rfl⟩
  have LL := Lib.hid (fun (h0 : E = 0) => decL_len (hE.trans h0))
  unfold decL at LL ⊢
  rw [hE] at LL ⊢
  unfold decE at hE
  rw [h.1] at hE
  have B0 : Hid (Blk (w.alloc (.cells #[.slice none 0 0] 27)) w.heap.size 27 #[.slice none 0 0]) := Lib.hid (Blk.new _ _ _)
  have HB0 : Hid (Below w.heap.size w (w.alloc (.cells #[.slice none 0 0] 27))) := Lib.hid ((Below.refl _ _).alloc (Nat.le_refl _) _)
  rcases Nat.eq_zero_or_pos n with h0 | hpos
  · subst h0
    rw [if_pos (.inl rfl)] at hE
    subst hE
    rw [if_neg (by decide)]
    clear h hz0 hz1
    go_enter Tryd.func34, Tryd.ntmps34
    go_wp2
    exact bodyPost_ret (ret27x rfl _ _ w.heap.size _ _ rfl B0.out rfl) rfl ⟨none, 0, 0, rfl, Mi.none_ _ _, by omega, HB0.out⟩
  obtain ⟨b, o, rfl, hb, hcell⟩ := h.2.2 hpos
  have d0 : (w.alloc (.cells #[.slice none 0 0] 27)).cell? ⟨b, o, none⟩ = some (.int .u8 (zs.getD 0 0)) := by
    rw [World.cell?_alloc_lt w _ _ (by show b < _; omega)]
    exact hcell 0 hpos
  have D0 : Hid (w.cell? ⟨b, o, none⟩ = some (.int .u8 (zs.getD 0 0))) := Lib.hid (hcell 0 hpos)
  have hn0 : ((n : Int) == 0) = false := by simp; omega
  have hp : (0 : Int) < (n : Int) := by omega
  have hpn : 0 < n := hpos
  have hnn : (n : Int) ≤ 1000000 := by omega
  have TC := Lib.hid (fun j (hj : j < n - 1) => show w.cell? ⟨b, o + (j + 1), none⟩ = some (.int .u8 ((zs.drop 1).getD j 0)) by
    rw [hcell (j + 1) (by omega)]
    simp [List.getD, Nat.add_comm])
  have TB := Lib.hid (fun j => show 0 ≤ (zs.drop 1).getD j 0 ∧ (zs.drop 1).getD j 0 ≤ 255 by
    have := h.2.1 (j + 1)
    simpa [List.getD, Nat.add_comm] using this)
  have TL : Hid ((zs.drop 1).length = n - 1) := Lib.hid (by rw [List.length_drop, HL.out])
  have CR : Hid (chkE (zs.drop 1) = if rightC (zs.drop 1) = true then 0 else 180) := Lib.hid (by
    unfold chkE rightC
    by_cases hg : grp (zs.drop 1) = 0
    · rw [if_pos hg, if_neg (by simpa using hg)]
    · rw [if_neg hg, if_pos (by simpa using hg)])
  have BW : Hid (b < w.heap.size) := Lib.hid (by omega)
  clear hcell h
  generalize zs.getD 0 0 = z at *
  by_cases h1 : (n : Int) < 1 + z
  · rw [if_pos (.inr h1)] at hE
    subst hE
    rw [if_neg (by decide)]
    have h1' : (n : Int) - 1 < z := by omega
    go_enter Tryd.func34, Tryd.ntmps34
    go_wp2
    exact bodyPost_ret (ret27x rfl _ _ w.heap.size _ _ rfl B0.out rfl) rfl ⟨none, 0, 0, rfl, Mi.none_ _ _, by omega, HB0.out⟩
  rw [if_neg (by omega)] at hE
  have h1' : ¬ (n : Int) - 1 < z := by omega
  have hm : n - 1 ≤ 1000000 := by omega
  generalize zs.drop 1 = ts at *
  have mk : ∀ W : World, (Instr.makeSlice 23 (.int .i64 ((n : Int) - 1)) (.int .i64 ((n : Int) - 1))).run Tryd.prog W = .ok (.slice (some ⟨W.heap.size, 0, none⟩) (n - 1) (n - 1)) (W.alloc (.cells (IZ (ics ts 0)) 3)) := fun W => by
    have := makeI (n - 1) (by omega) W
    rw [← ics_zero, TL.out]
    rw [show ((n - 1 : Nat) : Int) = (n : Int) - 1 by omega] at this
    exact this
  obtain ⟨R, hR⟩ : ∃ R, (if E = 0 then ts else []) = R := ⟨_, rfl⟩
  rw [hR] at LL ⊢
  have HR := Lib.hid hR
  have HE := Lib.hid hE
  clear hR hE
  have RG := Lib.hid (fun W (hW : Below w.heap.size w W) => hW)
  obtain ⟨W1, hW1⟩ : ∃ W1, ((w.alloc (.cells #[.slice none 0 0] 27)).alloc (.cells (IZ (ics ts 0)) 3)).alloc (.cells #[.slice (some ⟨w.heap.size + 1, 0, none⟩) (n - 1) (n - 1)] 27) = W1 := ⟨_, rfl⟩
  have I0 : Hid (Blk W1 w.heap.size 27 #[.slice none 0 0]) := Lib.hid (by rw [← hW1]; exact (B0.out.alloc _).alloc _)
  have I1 : Hid (Blk W1 (w.heap.size + 1) 3 (IZ (ics ts 0))) := Lib.hid (by rw [← hW1]; exact (Blk.fresh (by simp)).alloc _)
  have I2 : Hid (Blk W1 (w.heap.size + 2) 27 #[.slice (some ⟨w.heap.size + 1, 0, none⟩) (n - 1) (n - 1)]) := Lib.hid (by rw [← hW1]; exact Blk.fresh (by simp))
  have IB : Hid (Below w.heap.size w W1) := Lib.hid (by rw [← hW1]; exact (HB0.out.alloc (by simp) _).alloc (by simp; omega) _)
  subst hW1
  clear RG
  go_enter Tryd.func34, Tryd.ntmps34
  go_upto_region 4 with (fail)
  generalize ((w.alloc (.cells #[.slice none 0 0] 27)).alloc (.cells (IZ (ics ts 0)) 3)).alloc (.cells #[.slice (some ⟨w.heap.size + 1, 0, none⟩) (n - 1) (n - 1)] 27) = W1 at *
  have x2 : W1.cell? ⟨w.heap.size + 1 + 1, 0, none⟩ = some (.slice (some ⟨w.heap.size + 1, 0, none⟩) (n - 1) (n - 1)) := I2.out.cell 0
  clear mk d0
  go_wp2
  go_loopw [28] (fun i wr => ∃ k : Nat, k ≤ n - 1 ∧ i = .int .i64 (k : Int) ∧ Hid (Blk wr w.heap.size 27 #[.slice none 0 0]) ∧ Hid (Blk wr (w.heap.size + 1) 3 (IZ (ics ts k))) ∧ Hid (Blk wr (w.heap.size + 2) 27 #[.slice (some ⟨w.heap.size + 1, 0, none⟩) (n - 1) (n - 1)]) ∧ Hid (Below w.heap.size w wr)) (fun i _ => (n - 1) - (intOf i).toNat)
  case atStart => exact ⟨0, Nat.zero_le _, rfl, I0, I1, I2, IB⟩
  case round =>
    obtain ⟨k, hk, rfl, J0, J1, J2, JB⟩ := hrel
    have x2 : wr.cell? ⟨w.heap.size + 1 + 1, 0, none⟩ = some (.slice (some ⟨w.heap.size + 1, 0, none⟩) (n - 1) (n - 1)) := J2.out.cell 0
    by_cases hlt : k < n - 1
    · have k0 : (0 : Int) ≤ (k : Int) := by omega
      have q0 : wr.cell? ⟨b, o + (1 + k), none⟩ = some (.int .u8 (ts.getD k 0)) := by
        rw [Nat.add_comm 1 k]
        exact (JB.out.cell (p := ⟨b, o + (k + 1), none⟩) BW.out).trans (TC.out k hlt)
      obtain ⟨y0, y1⟩ := TB.out k
      have SU := Lib.hid (ics_succ (ts := ts) (k := k) (by rw [TL.out]; exact hlt))
      have d1 : ∃ v, wr.cell? ⟨w.heap.size + 1, k, none⟩ = some v := by
        rw [J1.out.cell]
        exact ⟨_, Array.getElem?_eq_getElem (by rw [ics_size ts (by rw [TL.out]; omega), TL.out]; omega)⟩
      obtain ⟨vv, d1⟩ := d1
      have e1 : wr.frozen? ⟨w.heap.size + 1, k, none⟩ = false := J1.out.frozen _
      generalize ts.getD k 0 = zb at *
      have kn : (1 : Int) + (k : Int) < (n : Int) := by omega
      have kn2 : 1 + k < n := by omega
      have kn3 : (k : Int) < ((n - 1 : Nat) : Int) := by omega
      go_wp2_with fail
      go_region
      go_wp2
      refine ⟨⟨k + 1, by omega, by go_num, Lib.hid ((J0.out.far (by simp) _).drewN 1), Lib.hid ?_, Lib.hid ((J2.out.far (by simp) _).drewN 1), Lib.hid (JB.out.setCell (p := ⟨w.heap.size + 1, k, none⟩) (by simp) _).drew⟩, by simp [intOf]; omega⟩
      rw [← SU.out]
      exact (J1.out.set_ k _).drewN 1
    · obtain rfl : k = n - 1 := by omega
      have TE : ics ts (n - 1) = ts := by rw [← TL.out]; exact ics_end ts
      rw [TE] at J1
      go_upto_region 9 with fail
      have b0' : wr.drew.cell? ⟨b, o, none⟩ = some (.int .u8 z) := (JB.out.cell (p := ⟨b, o, none⟩) BW.out).trans D0.out
      have L0 : Hid (Blk wr.drew w.heap.size 27 #[.slice none 0 0]) := Lib.hid (J0.out.drewN 1)
      have L1 : Hid (Blk wr.drew (w.heap.size + 1) 3 (IZ ts)) := Lib.hid (J1.out.drewN 1)
      have L2 : Hid (Blk wr.drew (w.heap.size + 2) 27 #[.slice (some ⟨w.heap.size + 1, 0, none⟩) (n - 1) (n - 1)]) := Lib.hid (J2.out.drewN 1)
      have LB : Hid (Below w.heap.size w wr.drew) := Lib.hid JB.out.drew
      have y0 := And.intro b0' (L2.out.cell 0)
      have RG := Lib.hid (right_any (some ⟨w.heap.size + 1, 0, none⟩) (n - 1) (n - 1) (w.heap.size + 2) ts wr.drew (Is.of_blk L1.out TL.out) hm (by have := L2.out.lt; omega))
      have hwz : IntKind.i64.wrap z = z := by rw [IntKind.wrap_i64]; omega
      have HRR := HR.out
      have HEE := HE.out
      clear HR HE x2
      by_cases hz : z < (n : Int) - 1
      · rw [if_pos (by omega)] at HEE
        subst HEE
        rw [if_neg (by decide)] at HRR
        subst HRR
        have hz' : z < ((n - 1 : Nat) : Int) := by omega
        refine wp_region_noPanic ?_
        refine wp_region_held_drew (S := fun w' => w'.cell? ⟨b, o, none⟩ = some (.int .u8 z) ∧ w'.cell? ⟨w.heap.size + 2, 0, none⟩ = some (.slice (some ⟨w.heap.size + 1, 0, none⟩) (n - 1) (n - 1))) (by kernel_rfl) y0 (fun hHeld => ?_)
        refine take_d (i := 0) (d := 42) (v := ?z101) rfl rfl (by kernel_rfl) (by kernel_rfl) (by kernel_rfl) (fun _ _ _ h => h) (Or.inl ⟨by kernel_rfl, ?z101h⟩) hHeld ?z101n
        case z101h => (intro w hSw; (try dsimp only at hSw); go_split_ands; go_simp; (try exact rfl))
        try simp only [Act.put, List.setIfInBounds_toArray, List.set_cons_zero, List.set_cons_succ]
        refine take_d (i := 1) (d := 43) (v := ?z102) rfl rfl (by kernel_rfl) (by kernel_rfl) (by kernel_rfl) (fun _ _ _ h => h) (Or.inl ⟨by kernel_rfl, ?z102h⟩) hHeld ?z102n
        case z102h => (intro w hSw; (try dsimp only at hSw); go_split_ands; go_simp; (try exact rfl))
        try simp only [Act.put, List.setIfInBounds_toArray, List.set_cons_zero, List.set_cons_succ]
        refine take_d (i := 2) (d := 44) (v := ?z103) rfl rfl (by kernel_rfl) (by kernel_rfl) (by kernel_rfl) (fun _ _ _ h => h) (Or.inl ⟨by kernel_rfl, ?z103h⟩) hHeld ?z103n
        case z103h => (intro w hSw; (try dsimp only at hSw); go_split_ands; go_simp; (try exact rfl))
        try simp only [Act.put, List.setIfInBounds_toArray, List.set_cons_zero, List.set_cons_succ]
        refine take_d (i := 3) (d := 45) (v := ?z104) rfl rfl (by kernel_rfl) (by kernel_rfl) (by kernel_rfl) (fun _ _ _ h => h) (Or.inl ⟨by kernel_rfl, ?z104h⟩) hHeld ?z104n
        case z104h => (intro w hSw; (try dsimp only at hSw); go_split_ands; go_simp; (try exact rfl))
        try simp only [Act.put, List.setIfInBounds_toArray, List.set_cons_zero, List.set_cons_succ]
        refine take_d (i := 4) (d := 46) (v := ?z105) rfl rfl (by kernel_rfl) (by kernel_rfl) (by kernel_rfl) (fun _ _ _ h => h) (Or.inl ⟨by kernel_rfl, ?z105h⟩) hHeld ?z105n
        case z105h => (intro w hSw; (try dsimp only at hSw); go_split_ands; go_simp; (try exact rfl))
        try simp only [Act.put, List.setIfInBounds_toArray, List.set_cons_zero, List.set_cons_succ]
        refine take_d (i := 5) (d := 47) (v := ?z106) rfl rfl (by kernel_rfl) (by kernel_rfl) (by kernel_rfl) (fun _ _ _ h => h) (Or.inl ⟨by kernel_rfl, ?z106h⟩) hHeld ?z106n
        case z106h => (intro w hSw; (try dsimp only at hSw); go_split_ands; go_simp; (try exact rfl))
        try simp only [Act.put, List.setIfInBounds_toArray, List.set_cons_zero, List.set_cons_succ]
        refine take_d (i := 6) (d := 48) (v := ?z107) rfl rfl (by kernel_rfl) (by kernel_rfl) (by kernel_rfl) (fun _ _ _ h => h) (Or.inl ⟨by kernel_rfl, ?z107h⟩) hHeld ?z107n
        case z107h => (intro w hSw; (try dsimp only at hSw); go_split_ands; go_simp; (try exact rfl))
        try simp only [Act.put, List.setIfInBounds_toArray, List.set_cons_zero, List.set_cons_succ]
        refine take_d (i := 7) (d := 49) (v := .bool true) rfl rfl (by kernel_rfl) (by kernel_rfl) (by kernel_rfl) (fun _ _ _ h => h) (Or.inl ⟨by kernel_rfl, ?z108h⟩) hHeld ?_
        case z108h => (intro w hSw; (try dsimp only at hSw); go_split_ands; go_simp)
        try simp only [Act.put, List.setIfInBounds_toArray, List.set_cons_zero, List.set_cons_succ]
        refine take_d (i := 8) (d := 50) (v := .bool true) rfl rfl (by kernel_rfl) (by kernel_rfl) (by kernel_rfl) (fun _ _ _ h => h) (Or.inl ⟨by kernel_rfl, ?z109h⟩) hHeld ?_
        case z109h => (intro w hSw; (try dsimp only at hSw); go_split_ands; go_simp)
        try simp only [Act.put, List.setIfInBounds_toArray, List.set_cons_zero, List.set_cons_succ]
        refine take_d (i := 9) (d := 51) (v := undef) rfl rfl (by kernel_rfl) (by kernel_rfl) (by kernel_rfl) (fun _ _ _ h => h) (Or.inr ⟨by kernel_rfl, rfl⟩) hHeld ?_
        try simp only [Act.put, List.setIfInBounds_toArray, List.set_cons_zero, List.set_cons_succ]
        refine take_d (i := 10) (d := 52) (v := undef) rfl rfl (by kernel_rfl) (by kernel_rfl) (by kernel_rfl) (fun _ _ _ h => h) (Or.inr ⟨by kernel_rfl, rfl⟩) hHeld ?_
        try simp only [Act.put, List.setIfInBounds_toArray, List.set_cons_zero, List.set_cons_succ]
        refine take_d (i := 11) (d := 53) (v := undef) rfl rfl (by kernel_rfl) (by kernel_rfl) (by kernel_rfl) (fun _ _ _ h => h) (Or.inr ⟨by kernel_rfl, rfl⟩) hHeld ?_
        try simp only [Act.put, List.setIfInBounds_toArray, List.set_cons_zero, List.set_cons_succ]
        refine take_d (i := 12) (d := 54) (v := .bool true) rfl rfl (by kernel_rfl) (by kernel_rfl) (by kernel_rfl) (fun _ _ _ h => h) (Or.inl ⟨by kernel_rfl, ?z113h⟩) hHeld ?_
        case z113h => (intro w hSw; (try dsimp only at hSw); go_split_ands; go_simp)
        try simp only [Act.put, List.setIfInBounds_toArray, List.set_cons_zero, List.set_cons_succ]
        refine wpAnyH_done (by kernel_rfl) ?_ _
        refine NoPanic.normal ?_
        have g0 : wr.drew.cell? ⟨w.heap.size, 0, none⟩ = some (.slice none 0 0) := L0.out.cell 0
        have g1 : wr.drew.frozen? ⟨w.heap.size, 0, none⟩ = false := L0.out.frozen 0
        go_wp2
        exact bodyPost_ret (ret27x rfl _ _ w.heap.size _ _ rfl (L0.out.set_ 0 _) rfl) rfl ⟨none, 0, 0, rfl, Mi.none_ _ _, by omega, LB.out.setCell (p := ⟨w.heap.size, 0, none⟩) (Nat.le_refl _) _⟩
      · rw [if_neg (by omega), CR.out] at HEE
        have hz' : ¬ z < ((n - 1 : Nat) : Int) := by omega
        cases hr : rightC ts with
        | true =>
          rw [hr] at RG
          rw [hr, if_pos rfl] at HEE
          subst HEE
          rw [if_pos rfl] at HRR
          subst HRR
          have LN := Lib.hid (LL.out rfl).1
          clear LL CR hr
          refine wp_region_noPanic ?_
          refine wp_region_held_drew (S := fun w' => w'.cell? ⟨b, o, none⟩ = some (.int .u8 z) ∧ w'.cell? ⟨w.heap.size + 2, 0, none⟩ = some (.slice (some ⟨w.heap.size + 1, 0, none⟩) (n - 1) (n - 1))) (by kernel_rfl) y0 (fun hHeld => ?_)
          refine take_d (i := 0) (d := 42) (v := ?z114) rfl rfl (by kernel_rfl) (by kernel_rfl) (by kernel_rfl) (fun _ _ _ h => h) (Or.inl ⟨by kernel_rfl, ?z114h⟩) hHeld ?z114n
          case z114h => (intro w hSw; (try dsimp only at hSw); go_split_ands; go_simp; (try exact rfl))
          try simp only [Act.put, List.setIfInBounds_toArray, List.set_cons_zero, List.set_cons_succ]
          refine take_d (i := 1) (d := 43) (v := ?z115) rfl rfl (by kernel_rfl) (by kernel_rfl) (by kernel_rfl) (fun _ _ _ h => h) (Or.inl ⟨by kernel_rfl, ?z115h⟩) hHeld ?z115n
          case z115h => (intro w hSw; (try dsimp only at hSw); go_split_ands; go_simp; (try exact rfl))
          try simp only [Act.put, List.setIfInBounds_toArray, List.set_cons_zero, List.set_cons_succ]
          refine take_d (i := 2) (d := 44) (v := ?z116) rfl rfl (by kernel_rfl) (by kernel_rfl) (by kernel_rfl) (fun _ _ _ h => h) (Or.inl ⟨by kernel_rfl, ?z116h⟩) hHeld ?z116n
          case z116h => (intro w hSw; (try dsimp only at hSw); go_split_ands; go_simp; (try exact rfl))
          try simp only [Act.put, List.setIfInBounds_toArray, List.set_cons_zero, List.set_cons_succ]
          refine take_d (i := 3) (d := 45) (v := ?z117) rfl rfl (by kernel_rfl) (by kernel_rfl) (by kernel_rfl) (fun _ _ _ h => h) (Or.inl ⟨by kernel_rfl, ?z117h⟩) hHeld ?z117n
          case z117h => (intro w hSw; (try dsimp only at hSw); go_split_ands; go_simp; (try exact rfl))
          try simp only [Act.put, List.setIfInBounds_toArray, List.set_cons_zero, List.set_cons_succ]
          refine take_d (i := 4) (d := 46) (v := ?z118) rfl rfl (by kernel_rfl) (by kernel_rfl) (by kernel_rfl) (fun _ _ _ h => h) (Or.inl ⟨by kernel_rfl, ?z118h⟩) hHeld ?z118n
          case z118h => (intro w hSw; (try dsimp only at hSw); go_split_ands; go_simp; (try exact rfl))
          try simp only [Act.put, List.setIfInBounds_toArray, List.set_cons_zero, List.set_cons_succ]
          refine take_d (i := 5) (d := 47) (v := ?z119) rfl rfl (by kernel_rfl) (by kernel_rfl) (by kernel_rfl) (fun _ _ _ h => h) (Or.inl ⟨by kernel_rfl, ?z119h⟩) hHeld ?z119n
          case z119h => (intro w hSw; (try dsimp only at hSw); go_split_ands; go_simp; (try exact rfl))
          try simp only [Act.put, List.setIfInBounds_toArray, List.set_cons_zero, List.set_cons_succ]
          refine take_d (i := 6) (d := 48) (v := ?z120) rfl rfl (by kernel_rfl) (by kernel_rfl) (by kernel_rfl) (fun _ _ _ h => h) (Or.inl ⟨by kernel_rfl, ?z120h⟩) hHeld ?z120n
          case z120h => (intro w hSw; (try dsimp only at hSw); go_split_ands; go_simp; (try exact rfl))
          try simp only [Act.put, List.setIfInBounds_toArray, List.set_cons_zero, List.set_cons_succ]
          refine take_d (i := 7) (d := 49) (v := .bool false) rfl rfl (by kernel_rfl) (by kernel_rfl) (by kernel_rfl) (fun _ _ _ h => h) (Or.inl ⟨by kernel_rfl, ?z121h⟩) hHeld ?_
          case z121h => (intro w hSw; (try dsimp only at hSw); go_split_ands; go_simp)
          try simp only [Act.put, List.setIfInBounds_toArray, List.set_cons_zero, List.set_cons_succ]
          refine take_d (i := 8) (d := 50) (v := .bool false) rfl rfl (by kernel_rfl) (by kernel_rfl) (by kernel_rfl) (fun _ _ _ h => h) (Or.inl ⟨by kernel_rfl, ?z122h⟩) hHeld ?_
          case z122h => (intro w hSw; (try dsimp only at hSw); go_split_ands; go_simp)
          try simp only [Act.put, List.setIfInBounds_toArray, List.set_cons_zero, List.set_cons_succ]
          refine take_d (i := 9) (d := 51) (v := ?z123) rfl rfl (by kernel_rfl) (by kernel_rfl) (by kernel_rfl) (fun _ _ _ h => h) (Or.inl ⟨by kernel_rfl, ?z123h⟩) hHeld ?z123n
          case z123h => (intro w hSw; (try dsimp only at hSw); go_split_ands; go_simp; (try exact rfl))
          try simp only [Act.put, List.setIfInBounds_toArray, List.set_cons_zero, List.set_cons_succ]
          refine wpAnyH_ready (rs := [10]) (by kernel_rfl) (by simp) ?_
          refine AllReadyH.cons rfl (fun K hK => ?_) AllReadyH.nil
          go_simp
          refine RG.out.mono ?_
          rintro e wz ⟨rfl, hb⟩
          have KB := Lib.hid (LB.out.trans (hb.mono LB.out.size))
          have K0 := Lib.hid (L0.out.below hb L0.out.lt)
          have K2 := Lib.hid (L2.out.below hb L2.out.lt)
          have K1 := Lib.hid (L1.out.below hb L1.out.lt)
          clear hb
          refine hK.out _ _ ⟨(KB.out.cell (p := ⟨b, o, none⟩) BW.out).trans D0.out, K2.out.cell 0⟩ (fun hHeld => ?_)
          clear hK K
          try simp only [Act.put, List.setIfInBounds_toArray, List.set_cons_zero, List.set_cons_succ]
          refine take_d (i := 11) (d := 53) (v := .bool false) rfl rfl (by kernel_rfl) (by kernel_rfl) (by kernel_rfl) (fun _ _ _ h => h) (Or.inl ⟨by kernel_rfl, ?z124h⟩) hHeld ?_
          case z124h => (intro w hSw; (try dsimp only at hSw); go_split_ands; go_simp)
          try simp only [Act.put, List.setIfInBounds_toArray, List.set_cons_zero, List.set_cons_succ]
          refine take_d (i := 12) (d := 54) (v := .bool false) rfl rfl (by kernel_rfl) (by kernel_rfl) (by kernel_rfl) (fun _ _ _ h => h) (Or.inl ⟨by kernel_rfl, ?z125h⟩) hHeld ?_
          case z125h => (intro w hSw; (try dsimp only at hSw); go_split_ands; go_simp)
          try simp only [Act.put, List.setIfInBounds_toArray, List.set_cons_zero, List.set_cons_succ]
          refine wpAnyH_done (by kernel_rfl) ?_ _
          refine NoPanic.normal ?_
          have g0 : wz.cell? ⟨w.heap.size, 0, none⟩ = some (.slice none 0 0) := K0.out.cell 0
          have g1 : wz.frozen? ⟨w.heap.size, 0, none⟩ = false := K0.out.frozen 0
          have g2 : wz.cell? ⟨w.heap.size + 1 + 1, 0, none⟩ = some (.slice (some ⟨w.heap.size + 1, 0, none⟩) (n - 1) (n - 1)) := K2.out.cell 0
          go_wp2
          exact bodyPost_ret (ret27x rfl _ _ w.heap.size _ _ rfl (K0.out.set_ 0 _) rfl) rfl ⟨_, n - 1, n - 1, rfl, Mi.of_blk (K1.out.far (by simp) _) TL.out (by omega), by have := LN.out; rw [TL.out] at this; exact this, KB.out.setCell (p := ⟨w.heap.size, 0, none⟩) (Nat.le_refl _) _⟩
        | false =>
          rw [hr] at RG
          rw [hr, if_neg (by decide)] at HEE
          subst HEE
          rw [if_neg (by decide)] at HRR
          subst HRR
          clear LL CR hr
          refine wp_region_noPanic ?_
          refine wp_region_held_drew (S := fun w' => w'.cell? ⟨b, o, none⟩ = some (.int .u8 z) ∧ w'.cell? ⟨w.heap.size + 2, 0, none⟩ = some (.slice (some ⟨w.heap.size + 1, 0, none⟩) (n - 1) (n - 1))) (by kernel_rfl) y0 (fun hHeld => ?_)
          refine take_d (i := 0) (d := 42) (v := ?z126) rfl rfl (by kernel_rfl) (by kernel_rfl) (by kernel_rfl) (fun _ _ _ h => h) (Or.inl ⟨by kernel_rfl, ?z126h⟩) hHeld ?z126n
          case z126h => (intro w hSw; (try dsimp only at hSw); go_split_ands; go_simp; (try exact rfl))
          try simp only [Act.put, List.setIfInBounds_toArray, List.set_cons_zero, List.set_cons_succ]
          refine take_d (i := 1) (d := 43) (v := ?z127) rfl rfl (by kernel_rfl) (by kernel_rfl) (by kernel_rfl) (fun _ _ _ h => h) (Or.inl ⟨by kernel_rfl, ?z127h⟩) hHeld ?z127n
          case z127h => (intro w hSw; (try dsimp only at hSw); go_split_ands; go_simp; (try exact rfl))
          try simp only [Act.put, List.setIfInBounds_toArray, List.set_cons_zero, List.set_cons_succ]
          refine take_d (i := 2) (d := 44) (v := ?z128) rfl rfl (by kernel_rfl) (by kernel_rfl) (by kernel_rfl) (fun _ _ _ h => h) (Or.inl ⟨by kernel_rfl, ?z128h⟩) hHeld ?z128n
          case z128h => (intro w hSw; (try dsimp only at hSw); go_split_ands; go_simp; (try exact rfl))
          try simp only [Act.put, List.setIfInBounds_toArray, List.set_cons_zero, List.set_cons_succ]
          refine take_d (i := 3) (d := 45) (v := ?z129) rfl rfl (by kernel_rfl) (by kernel_rfl) (by kernel_rfl) (fun _ _ _ h => h) (Or.inl ⟨by kernel_rfl, ?z129h⟩) hHeld ?z129n
          case z129h => (intro w hSw; (try dsimp only at hSw); go_split_ands; go_simp; (try exact rfl))
          try simp only [Act.put, List.setIfInBounds_toArray, List.set_cons_zero, List.set_cons_succ]
          refine take_d (i := 4) (d := 46) (v := ?z130) rfl rfl (by kernel_rfl) (by kernel_rfl) (by kernel_rfl) (fun _ _ _ h => h) (Or.inl ⟨by kernel_rfl, ?z130h⟩) hHeld ?z130n
          case z130h => (intro w hSw; (try dsimp only at hSw); go_split_ands; go_simp; (try exact rfl))
          try simp only [Act.put, List.setIfInBounds_toArray, List.set_cons_zero, List.set_cons_succ]
          refine take_d (i := 5) (d := 47) (v := ?z131) rfl rfl (by kernel_rfl) (by kernel_rfl) (by kernel_rfl) (fun _ _ _ h => h) (Or.inl ⟨by kernel_rfl, ?z131h⟩) hHeld ?z131n
          case z131h => (intro w hSw; (try dsimp only at hSw); go_split_ands; go_simp; (try exact rfl))
          try simp only [Act.put, List.setIfInBounds_toArray, List.set_cons_zero, List.set_cons_succ]
          refine take_d (i := 6) (d := 48) (v := ?z132) rfl rfl (by kernel_rfl) (by kernel_rfl) (by kernel_rfl) (fun _ _ _ h => h) (Or.inl ⟨by kernel_rfl, ?z132h⟩) hHeld ?z132n
          case z132h => (intro w hSw; (try dsimp only at hSw); go_split_ands; go_simp; (try exact rfl))
          try simp only [Act.put, List.setIfInBounds_toArray, List.set_cons_zero, List.set_cons_succ]
          refine take_d (i := 7) (d := 49) (v := .bool false) rfl rfl (by kernel_rfl) (by kernel_rfl) (by kernel_rfl) (fun _ _ _ h => h) (Or.inl ⟨by kernel_rfl, ?z133h⟩) hHeld ?_
          case z133h => (intro w hSw; (try dsimp only at hSw); go_split_ands; go_simp)
          try simp only [Act.put, List.setIfInBounds_toArray, List.set_cons_zero, List.set_cons_succ]
          refine take_d (i := 8) (d := 50) (v := .bool false) rfl rfl (by kernel_rfl) (by kernel_rfl) (by kernel_rfl) (fun _ _ _ h => h) (Or.inl ⟨by kernel_rfl, ?z134h⟩) hHeld ?_
          case z134h => (intro w hSw; (try dsimp only at hSw); go_split_ands; go_simp)
          try simp only [Act.put, List.setIfInBounds_toArray, List.set_cons_zero, List.set_cons_succ]
          refine take_d (i := 9) (d := 51) (v := ?z135) rfl rfl (by kernel_rfl) (by kernel_rfl) (by kernel_rfl) (fun _ _ _ h => h) (Or.inl ⟨by kernel_rfl, ?z135h⟩) hHeld ?z135n
          case z135h => (intro w hSw; (try dsimp only at hSw); go_split_ands; go_simp; (try exact rfl))
          try simp only [Act.put, List.setIfInBounds_toArray, List.set_cons_zero, List.set_cons_succ]
          refine wpAnyH_ready (rs := [10]) (by kernel_rfl) (by simp) ?_
          refine AllReadyH.cons rfl (fun K hK => ?_) AllReadyH.nil
          go_simp
          refine RG.out.mono ?_
          rintro e wz ⟨rfl, hb⟩
          have KB := Lib.hid (LB.out.trans (hb.mono LB.out.size))
          have K0 := Lib.hid (L0.out.below hb L0.out.lt)
          have K2 := Lib.hid (L2.out.below hb L2.out.lt)
          have K1 := Lib.hid (L1.out.below hb L1.out.lt)
          clear hb
          refine hK.out _ _ ⟨(KB.out.cell (p := ⟨b, o, none⟩) BW.out).trans D0.out, K2.out.cell 0⟩ (fun hHeld => ?_)
          clear hK K
          try simp only [Act.put, List.setIfInBounds_toArray, List.set_cons_zero, List.set_cons_succ]
          refine take_d (i := 11) (d := 53) (v := .bool true) rfl rfl (by kernel_rfl) (by kernel_rfl) (by kernel_rfl) (fun _ _ _ h => h) (Or.inl ⟨by kernel_rfl, ?z136h⟩) hHeld ?_
          case z136h => (intro w hSw; (try dsimp only at hSw); go_split_ands; go_simp)
          try simp only [Act.put, List.setIfInBounds_toArray, List.set_cons_zero, List.set_cons_succ]
          refine take_d (i := 12) (d := 54) (v := .bool true) rfl rfl (by kernel_rfl) (by kernel_rfl) (by kernel_rfl) (fun _ _ _ h => h) (Or.inl ⟨by kernel_rfl, ?z137h⟩) hHeld ?_
          case z137h => (intro w hSw; (try dsimp only at hSw); go_split_ands; go_simp)
          try simp only [Act.put, List.setIfInBounds_toArray, List.set_cons_zero, List.set_cons_succ]
          refine wpAnyH_done (by kernel_rfl) ?_ _
          refine NoPanic.normal ?_
          have g0 : wz.cell? ⟨w.heap.size, 0, none⟩ = some (.slice none 0 0) := K0.out.cell 0
          have g1 : wz.frozen? ⟨w.heap.size, 0, none⟩ = false := K0.out.frozen 0
          go_wp2
          exact bodyPost_ret (ret27x rfl _ _ w.heap.size _ _ rfl (K0.out.set_ 0 _) rfl) rfl ⟨none, 0, 0, rfl, Mi.none_ _ _, by omega, KB.out.setCell (p := ⟨w.heap.size, 0, none⟩) (Nat.le_refl _) _⟩
end Go.Proofs.YtfclppopelmdgaaDoor
