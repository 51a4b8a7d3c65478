/-
  The members of bytes: the program's Decode.
-/
import Derived.Test.YtfclppopelmdgaaDoorCA
namespace Go.Proofs.YtfclppopelmdgaaDoor
open Go.RowKit
attribute [local go_sem ↓] field27

/-- What Decode answers: the error, the members. -/
def decE (zs : List Int) : Int := if zs.length = 0 ∨ (zs.length : Int) < 1 + zs.getD 0 0 then 7 else if 1 + zs.getD 0 0 < (zs.length : Int) then 180 else chkE (zs.drop 1)
def decL (zs : List Int) : List Int := if decE zs = 0 then zs.drop 1 else []
theorem decL_len {zs : List Int} (h : decE zs = 0) : (decL zs).length ≤ 5 ∧ grp (zs.drop 1) ≠ 0 := by
  have hc : chkE (zs.drop 1) = 0 := by
    unfold decE at h
    split at h
    · cases h
    · split at h
      · cases h
      · exact h
  have hg : grp (zs.drop 1) ≠ 0 := fun e => by
    unfold chkE at hc
    rw [if_pos e] at hc
    cases hc
  refine ⟨?_, hg⟩
  unfold decL
  rw [if_pos h, of_grp hg]
  exact pop_le _
theorem ints_mi {w : World} {base n c : Nat} {A : Option Addr} {xs : List Int} (h : Ios w base A n c xs) : Mi w base A n c xs := by
  have hl : xs.length = n := by simpa using h.1
  rcases h.2 with ⟨hv, hn⟩ | ⟨g, cap, cur, hv, hb, hh, hnc, _, hcs, ht⟩
  · injection hv with h1 h2 h3
    exact ⟨hl, by omega, .inl ⟨h1, h3⟩⟩
  · injection hv with h1 h2 h3
    subst h3
    refine ⟨hl, hnc, .inr ⟨g, 3, cur, h1, hb, hh, by omega, fun j hj => ?_⟩⟩
    have := congrArg (·[j]?) ht
    simp only [List.getElem?_take, Nat.mul_one, if_pos hj] at this
    rw [← Array.getElem?_toList, this]
    have hj' : j < xs.length := by omega
    simp [List.getD, hj']
theorem By.tail {w : World} {B : Nat} {A : Option Addr} {n : Nat} {zs : List Int} (h : By w B A n zs) {c : Nat} (hn : 1 ≤ n) (hc : n ≤ c) : By w B (if c = 1 then A else A.map (·.add 1)) (n - 1) (zs.drop 1) := by
  have := h.cut (k := 1) (m := n - 1) (c := c) (by omega) hn hc
  rwa [List.take_of_length_le (by rw [List.length_drop, h.1]; omega)] at this
theorem drop_take_succ {zs : List Int} {k : Nat} (h : k < (zs.drop 1).length) : (zs.drop 1).take (k + 1) = (zs.drop 1).take k ++ [(zs.drop 1).getD k 0] := by
  rw [List.take_succ_eq_append_getElem h]
  simp only [List.getD, List.getElem?_eq_getElem h, Option.getD_some]

set_option maxRecDepth 100000 in
set_option maxHeartbeats 8000000 in
theorem decode_any (A : Option Addr) (n c B : Nat) (zs : List Int) (w : World) (h : By w B A n zs) (hn : n ≤ 1000000) (hnc : n ≤ c) (hcm : c ≤ 9223372036854775807) (hB : B ≤ w.heap.size) (hG : Gl w) :
    Calls Tryd.prog 33 #[.slice A n c] w (Cfx w (decL zs) (decE zs)) := by
  have HL := Lib.hid h.1
  have hz0 := (h.2.1 0).1
  have hz1 := (h.2.1 0).2
  obtain ⟨E, hE⟩ : ∃ E, decE zs = E := ⟨_, rfl⟩
  have LL := Lib.hid (fun (h0 : E = 0) => decL_len (hE.trans h0))
  unfold decL at LL ⊢
  rw [hE] at LL ⊢
  unfold decE at hE
  rw [h.1] at hE
  have B0 : Hid (Blk (w.alloc (.cells #[.slice none 0 0] 27)) w.heap.size 27 #[.slice none 0 0]) := Lib.hid (Blk.new _ _ _)
  have HB0 : Hid (Below w.heap.size w (w.alloc (.cells #[.slice none 0 0] 27))) := Lib.hid ((Below.refl _ _).alloc (Nat.le_refl _) _)
  rcases Nat.eq_zero_or_pos n with h0 | hpos
  · subst h0
    rw [if_pos (.inl rfl)] at hE
    subst hE
    rw [if_neg (by decide)]
    clear h hG hz0 hz1
    go_enter Tryd.func33, Tryd.ntmps33
    go_wp2
    exact bodyPost_ret (ret27x rfl _ _ w.heap.size _ _ rfl B0.out rfl) rfl ⟨none, 0, 0, rfl, Mi.none_ _ _, by omega, HB0.out⟩
  obtain ⟨b, o, rfl, hb, hcell⟩ := h.2.2 hpos
  have d0 : (w.alloc (.cells #[.slice none 0 0] 27)).cell? ⟨b, o, none⟩ = some (.int .u8 (zs.getD 0 0)) := by
    rw [World.cell?_alloc_lt w _ _ (by show b < _; omega)]
    exact hcell 0 hpos
  have hn0 : ((n : Int) == 0) = false := by simp; omega
  have hp : (0 : Int) < (n : Int) := by omega
  have hnn : (n : Int) ≤ 1000000 := by omega
  have T := Lib.hid (h.tail (c := c) hpos hnc)
  have TL : Hid ((zs.drop 1).length = n - 1) := Lib.hid (by rw [List.length_drop, HL.out])
  have CK := Lib.hid (fun (A' : Option Addr) (n' c' : Nat) (W : World) (hW : Below w.heap.size w W) (hi : Is W W.heap.size A' n' (zs.drop 1)) (hn' : n' ≤ 1000000) => check_any A' n' c' W.heap.size (zs.drop 1) W hi hn' (Nat.le_refl _) (hG.low hW))
  have TS := Lib.hid (fun k (hk : k < (zs.drop 1).length) => drop_take_succ hk)
  have TE : Hid ((zs.drop 1).take (n - 1) = zs.drop 1) := Lib.hid (List.take_of_length_le (by rw [TL.out]; omega))
  have TZ : Hid ((zs.drop 1).take 0 = []) := Lib.hid rfl
  generalize zs.drop 1 = ts at *
  clear hcell h hG
  generalize zs.getD 0 0 = z at *
  by_cases h1 : (n : Int) < 1 + z
  · rw [if_pos (.inr h1)] at hE
    subst hE
    rw [if_neg (by decide)]
    go_enter Tryd.func33, Tryd.ntmps33
    go_wp2
    exact bodyPost_ret (ret27x rfl _ _ w.heap.size _ _ rfl B0.out rfl) rfl ⟨none, 0, 0, rfl, Mi.none_ _ _, by omega, HB0.out⟩
  rw [if_neg (by omega)] at hE
  by_cases h2 : 1 + z < (n : Int)
  · rw [if_pos h2] at hE
    subst hE
    rw [if_neg (by decide)]
    go_enter Tryd.func33, Tryd.ntmps33
    go_wp2
    exact bodyPost_ret (ret27x rfl _ _ w.heap.size _ _ rfl B0.out rfl) rfl ⟨none, 0, 0, rfl, Mi.none_ _ _, by omega, HB0.out⟩
  rw [if_neg h2] at hE
  have hz : z = (n : Int) - 1 := by omega
  subst hz
  have hn256 : n ≤ 256 := by omega
  have hcc : (1 : Int) ≤ (c : Int) := by omega
  have hcm' : (c : Int) ≤ 9223372036854775807 := by omega
  clear h1 h2
  obtain ⟨R, hR⟩ : ∃ R, (if E = 0 then ts else []) = R := ⟨_, rfl⟩
  rw [hR] at LL ⊢
  have HR := Lib.hid hR
  clear hR
  obtain ⟨W1, hW1⟩ : ∃ W1, (w.alloc (.cells #[.slice none 0 0] 27)).alloc (.cells #[.slice none 0 0] 27) = W1 := ⟨_, rfl⟩
  have B01 : Hid (Blk W1 w.heap.size 27 #[.slice none 0 0]) := Lib.hid (by rw [← hW1]; exact B0.out.alloc _)
  have B11 : Hid (Blk W1 (w.heap.size + 1) 27 #[.slice none 0 0]) := Lib.hid (by rw [← hW1]; exact Blk.fresh (by simp))
  have HB1 : Hid (Below w.heap.size w W1) := Lib.hid (by rw [← hW1]; exact HB0.out.alloc (by simp) _)
  have HZ1 : Hid (W1.heap.size = w.heap.size + 2) := Lib.hid (by rw [← hW1]; simp)
  subst hW1
  go_enter Tryd.func33, Tryd.ntmps33
  go_upto_region 6 with (fail)
  generalize (w.alloc (.cells #[.slice none 0 0] 27)).alloc (.cells #[.slice none 0 0] 27) = W1 at *
  have z27 : W1.cell? ⟨w.heap.size, 0, none⟩ = some (.slice none 0 0) := B01.out.cell 0
  go_cut [32, 33, 34] from 35 (fun v32 v33 v34 wx => v33 = .int .i64 ((n - 1 : Nat) : Int) ∧ v34 = .int .i64 0 ∧ (∃ A' c', v32 = .slice A' (n - 1) c' ∧ By w B A' (n - 1) ts) ∧ wx = W1)
  case first =>
    by_cases hc1 : c = 1
    · obtain rfl : n = 1 := by omega
      subst hc1
      have T1 := T.out
      rw [if_pos rfl] at T1
      have T2 := Lib.hid T1
      clear T1 T
      go_wp2
      go_meet
      case rel => exact ⟨rfl, rfl, ⟨_, _, rfl, T2.out⟩, rfl⟩
    · have T1 := T.out
      rw [if_neg hc1] at T1
      have T2 := Lib.hid T1
      have hc2 : ((c : Int) - 1 == 0) = false := by simp; omega
      have hc3 : (0 : Int) < (c : Int) - 1 := by omega
      have hc4 : c - 1 ≠ 0 := by omega
      clear T1 T
      go_wp2
      go_meet
      case rel => exact ⟨rfl, rfl, ⟨_, _, rfl, T2.out⟩, rfl⟩
  case rest =>
    obtain ⟨rfl, rfl, ⟨A', c', rfl, hT⟩, rfl⟩ := hcut
    rw [hE] at CK
    have HTB := Lib.hid hT
    have HE0 : Hid (E = 0 ∨ E ≠ 0) := Lib.hid (Classical.em _)
    have HBW : Hid (B ≤ w.heap.size) := Lib.hid hB
    have O1 : Hid (Ios wc (w.heap.size + 2) none 0 0 (ts.take 0)) := Lib.hid (by rw [TZ.out]; exact World.ownsRow_nil _ _ _ _)
    clear hT hE d0 z27 T
    go_wp2
    go_loopw [34] (fun i wr => ∃ (k : Nat) (A3 : Option Addr) (c3 : Nat), k ≤ n - 1 ∧ i = .int .i64 (k : Int) ∧ Hid (Blk wr w.heap.size 27 #[.slice none 0 0]) ∧ Hid (Blk wr (w.heap.size + 1) 27 #[.slice A3 k c3]) ∧ Hid (Ios wr (w.heap.size + 2) A3 k c3 (ts.take k)) ∧ Hid (Below w.heap.size w wr)) (fun i _ => (n - 1) - (intOf i).toNat)
    case atStart => exact ⟨0, none, 0, Nat.zero_le _, rfl, B01, B11, O1, HB1⟩
    case round =>
      obtain ⟨k, A3, c3, hk, rfl, I0, I1, IO, IB⟩ := hrel
      have x1 : wr.cell? ⟨w.heap.size + 1, 0, none⟩ = some (.slice A3 k c3) := I1.out.cell 0
      by_cases hlt : k < n - 1
      · obtain ⟨b', o', rfl, hb', hc'⟩ := (HTB.out.below (IB.out.mono HBW.out)).2.2 (by omega)
        have q0 := hc' k hlt
        have y0 := (HTB.out.2.1 k).1
        have y1 := (HTB.out.2.1 k).2
        have TK := Lib.hid (TS.out k (by rw [TL.out]; exact hlt))
        have k0 : (0 : Int) ≤ (k : Int) := by omega
        have k1 : (k : Int) < ((n - 1 : Nat) : Int) := by omega
        have f1 : wr.frozen? ⟨w.heap.size + 1, 0, none⟩ = false := I1.out.frozen 0
        have WS : Hid (w.heap.size + 2 ≤ wr.heap.size) := Lib.hid (by have := I1.out.lt; omega)
        have OA : Hid (Ios (wr.alloc (.cells #[.int .i64 (ts.getD k 0)] 3)) (w.heap.size + 2) A3 k c3 (ts.take k)) := Lib.hid (IO.out.below ((Below.refl _ _).alloc (Nat.le_refl _) _))
        have LT : Hid (Is (wr.alloc (.cells #[.int .i64 (ts.getD k 0)] 3)) (wr.heap.size + 1) (some ⟨wr.heap.size, 0, none⟩) 1 [ts.getD k 0]) := Lib.hid (Is.lit rfl rfl)
        clear hc'
        generalize ts.getD k 0 = zb at *
        have kk : k + 1 ≤ 1000000 := by omega
        go_wp2_with (at_builtin; refine append_is rfl (.tmp 39) (.tmp 42) rfl (w.heap.size + 2) A3 k c3 (ts.take k) rfl OA.out (wr.heap.size + 1) (some ⟨wr.heap.size, 0, none⟩) 1 1 [zb] rfl LT.out (fun e => by cases e) kk (by have := WS.out; simp; omega) ?_; intro A5 c5 w5 ho5 hg5; have O5 := Lib.hid ho5; have G5 := Lib.hid hg5; have B5 : Hid (Blk w5 (w.heap.size + 1) 27 #[.slice A3 k c3]) := Lib.hid ((hg5.block (w.heap.size + 1) (by have := WS.out; simp; omega) (fun e => by have := (OA.out.lt _ e.symm).1; omega)).trans (I1.out.alloc _)); have B6 : Hid (Blk w5 w.heap.size 27 #[.slice none 0 0]) := Lib.hid ((hg5.block w.heap.size (by have := WS.out; simp; omega) (fun e => by have := (OA.out.lt _ e.symm).1; omega)).trans (I0.out.alloc _)); have d5 : w5.cell? ⟨w.heap.size + 1, 0, none⟩ = some (.slice A3 k c3) := B5.out.cell 0; have f5 : w5.frozen? ⟨w.heap.size + 1, 0, none⟩ = false := B5.out.frozen 0; clear ho5 hg5)
        go_roundw
        case rel =>
          refine ⟨k + 1, A5, c5, by omega, by go_num, Lib.hid (B6.out.far (by simp) _), Lib.hid (B5.out.set_ 0 _), Lib.hid ?_, Lib.hid ?_⟩
          · rw [TK.out]
            exact O5.out.setFar (p := ⟨w.heap.size + 1, 0, none⟩) (by simp) _
          · exact ((IB.out.alloc (by have := WS.out; omega) _).grown G5.out (by have := WS.out; simp; omega) (fun j hj => by have := (OA.out.lt _ hj).1; omega)).setCell (p := ⟨w.heap.size + 1, 0, none⟩) (by simp) _
        case measure => simp [intOf]; omega
      · obtain rfl : k = n - 1 := by omega
        have IO2 : Hid (Ios wr (w.heap.size + 2) A3 (n - 1) c3 ts) := Lib.hid (by have := IO.out; rwa [TE.out] at this)
        have CC := Lib.hid (CK.out A3 (n - 1) c3 wr IB.out IO2.out.is_.1 (by omega))
        rcases HE0.out with hE0 | hE0
        · have LN := Lib.hid (LL.out hE0).1
          obtain rfl : ts = R := by rw [← HR.out, if_pos hE0]
          subst hE0
          clear LL CK HR
          go_wp2_with (go_at_call 14; refine CC.out.mono ?_; rintro e w6 ⟨rfl, hb6⟩; have J0 := Lib.hid (I0.out.below hb6 I0.out.lt); have J1 := Lib.hid (I1.out.below hb6 I1.out.lt); have JO := Lib.hid (IO2.out.below hb6); have JB := Lib.hid (IB.out.trans (hb6.mono IB.out.size)); have g0 : w6.cell? ⟨w.heap.size, 0, none⟩ = some (.slice none 0 0) := J0.out.cell 0; have g1 : w6.cell? ⟨w.heap.size + 1, 0, none⟩ = some (.slice A3 (n - 1) c3) := J1.out.cell 0; have g2 : w6.frozen? ⟨w.heap.size, 0, none⟩ = false := J0.out.frozen 0; clear hb6)
          exact bodyPost_ret (ret27x rfl _ _ w.heap.size _ _ rfl (J0.out.set_ 0 _) rfl) rfl ⟨A3, n - 1, c3, rfl, ints_mi ((JO.out.setFar (p := ⟨w.heap.size, 0, none⟩) (by show w.heap.size < w.heap.size + 2; omega) _).down (by omega)), by have := LN.out; rw [TL.out] at this; exact this, JB.out.setCell (p := ⟨w.heap.size, 0, none⟩) (Nat.le_refl _) _⟩
        · have hE1 : (E != 0) = true := by simpa using hE0
          obtain rfl : [] = R := by rw [← HR.out, if_neg hE0]
          clear LL CK hE0 HR
          go_wp2_with (go_at_call 14; refine CC.out.mono ?_; rintro e w6 ⟨rfl, hb6⟩; have J0 := Lib.hid (I0.out.below hb6 I0.out.lt); have JB := Lib.hid (IB.out.trans (hb6.mono IB.out.size)); have g0 : w6.cell? ⟨w.heap.size, 0, none⟩ = some (.slice none 0 0) := J0.out.cell 0; have g2 : w6.frozen? ⟨w.heap.size, 0, none⟩ = false := J0.out.frozen 0; clear hb6)
          exact bodyPost_ret (ret27x rfl _ _ w.heap.size _ _ rfl (J0.out.set_ 0 _) rfl) rfl ⟨none, 0, 0, rfl, Mi.none_ _ _, by omega, JB.out.setCell (p := ⟨w.heap.size, 0, none⟩) (Nat.le_refl _) _⟩
end Go.Proofs.YtfclppopelmdgaaDoor
