/-
  How far more than half are: the document's Agreed.
-/
import Derived.Test.YtfclppopelmdgaaDoorE4
import Derived.Test.YtfclppopelmdgaaDoorCA
namespace Go.Proofs.YtfclppopelmdgaaDoor
open Go.RowKit

/-- Those who are as far as m. -/
def farS (xs : List Int) (l : List (Int × Int)) (m : Int) : List Int := xs.filter fun o => decide (comeF l m ≤ comeF l o)
def rAg (xs : List Int) (l : List (Int × Int)) : Nat → Int
  | 0 => 0
  | k + 1 => if rMaj xs (farS xs l (xs.getD k 0)) = true ∧ rAg xs l k < comeF l (xs.getD k 0) then comeF l (xs.getD k 0) else rAg xs l k
theorem rMaj_far {xs : List Int} (h : grp xs ≠ 0) (l : List (Int × Int)) (m : Int) : rMaj xs (farS xs l m) = mostB (grp xs) (fun o => decide (comeF l m ≤ comeF l o)) := by
  rw [rMaj_right h]
  unfold majB
  refine mostB_congr _ fun o ho => ?_
  obtain ⟨o1, o5⟩ := inG_range (mem_row.1 ho)
  rw [inG_amg, decide_eq_true o1, decide_eq_true o5, Bool.true_and, Bool.true_and]
  rw [← of_grp h] at ho
  rw [Bool.eq_iff_iff, List.contains_iff_mem]
  unfold farS
  rw [List.mem_filter]
  exact ⟨fun h => h.2, fun h => ⟨ho, h⟩⟩
theorem rAg_agK {xs : List Int} (h : grp xs ≠ 0) (l : List (Int × Int)) : ∀ k, rAg xs l k = agK (grp xs) (comeF l) k
  | 0 => rfl
  | k + 1 => by
    unfold rAg agK
    rw [rAg_agK h l k, rMaj_far h, ← of_grp h]
    by_cases h1 : mostB (grp xs) (fun o => decide (comeF l (xs.getD k 0) ≤ comeF l o)) = true
    · rw [if_pos h1]
      by_cases h2 : agK (grp xs) (comeF l) k < comeF l (xs.getD k 0)
      · rw [if_pos ⟨h1, h2⟩]; omega
      · rw [if_neg (fun e => h2 e.2)]; omega
    · rw [if_neg h1, if_neg (fun e => h1 e.1)]
theorem rAg_right {xs : List Int} (h : grp xs ≠ 0) (l : List (Int × Int)) : rAg xs l xs.length = agr xs l := by
  rw [rAg_agK h]
  unfold agr pop
  rw [← of_grp h]
theorem fs_take {xs : List Int} {k : Nat} (p : Int → Bool) (h : k < xs.length) : (xs.take (k + 1)).filter p = (xs.take k).filter p ++ if p (xs.getD k 0) = true then [xs.getD k 0] else [] := by
  rw [List.take_succ_eq_append_getElem h, List.filter_append]
  have e : xs.getD k 0 = xs[k] := by simp [List.getD, h]
  rw [e]
  cases hp : p xs[k] <;> simp [hp]

set_option maxRecDepth 100000 in
set_option maxHeartbeats 8000000 in
theorem refagreed_any (A1 : Option Addr) (n1 c1 B1 : Nat) (l : List (Int × Int)) (A : Option Addr) (n c B : Nat) (xs : List Int) (w : World) (h : Is w B A n xs) (hn : n ≤ 1000) (hB : B ≤ w.heap.size) (h1 : Mt w B1 A1 n1 l) (hn1 : n1 ≤ 1000000) (hB1 : B1 ≤ w.heap.size) :
    Calls Tryd.prog 22 #[.agg #[.slice A n c], .slice A1 n1 c1] w fun e w' => e = .returned (.int .u64 (rAg xs l n)) ∧ Below w.heap.size w w' := by
  have RC := Lib.hid (fun m W (hW : Below w.heap.size w W) => come_any m A1 n1 c1 B1 l W (h1.below (hW.mono hB1)) hn1 (Nat.le_trans hB1 hW.size))
  have RM := Lib.hid (fun A2 n2 c2 B2 set W (hW : Below w.heap.size w W) (h2 : Is W B2 A2 n2 set) (hn2 : n2 ≤ 1000000) (hB2 : B2 ≤ W.heap.size) => refmaj_any A2 n2 c2 B2 set A n c B xs W (h.below (hW.mono hB)) (by omega) (Nat.le_trans hB hW.size) h2 hn2 hB2)
  have H := Lib.hid (fun W (hW : Below w.heap.size w W) => (h.below (hW.mono hB)).2)
  have HL := Lib.hid h.1
  have HB : Hid (Below w.heap.size w (w.alloc (.cells #[.slice A n c] 27))) := Lib.hid ((Below.refl _ _).alloc (Nat.le_refl _) _)
  have B0 : Hid (Blk (w.alloc (.cells #[.slice A n c] 27)) w.heap.size 27 #[.slice A n c]) := Lib.hid (Blk.new _ _ _)
  obtain ⟨AG, hAG⟩ : ∃ AG, rAg xs l = AG := ⟨_, rfl⟩
  have A0 : Hid (AG 0 = 0) := Lib.hid (by rw [← hAG]; rfl)
  have AS : Hid (∀ k, AG (k + 1) = if rMaj xs (farS xs l (xs.getD k 0)) = true ∧ AG k < comeF l (xs.getD k 0) then comeF l (xs.getD k 0) else AG k) := Lib.hid (fun k => by rw [← hAG]; rfl)
  have FE : Hid (∀ m, farS xs l m = xs.filter fun o => decide (comeF l m ≤ comeF l o)) := Lib.hid (fun m => rfl)
  have FT := Lib.hid (fun p k (hk : k < xs.length) => fs_take p hk)
  rw [hAG]
  clear hAG h h1
  generalize comeF l = CF at *
  go_enter Tryd.func22, Tryd.ntmps22
  go_upto_region 2 with (fail)
  generalize w.alloc (.cells #[.slice A n c] 27) = W1 at *
  have x0 : W1.cell? ⟨w.heap.size, 0, none⟩ = some (.slice A n c) := B0.out.cell 0
  go_wp2
  go_loopw [5, 15] (fun v i wr => ∃ k : Nat, k ≤ n ∧ i = .int .i64 k ∧ v = .int .u64 (AG k) ∧ Hid (Blk wr w.heap.size 27 #[.slice A n c]) ∧ Hid (Below w.heap.size w wr)) (fun _ i _ => n - (intOf i).toNat)
  case atStart => exact ⟨0, Nat.zero_le _, rfl, by rw [A0.out], B0, HB⟩
  case round =>
    obtain ⟨k, hk, rfl, rfl, I0, IB⟩ := hrel
    obtain ⟨wo, rfl⟩ : ∃ wo : World, wo = wr := ⟨_, rfl⟩
    clear x0
    by_cases hlt : k < n
    · obtain ⟨b, o, rfl, hb, hc⟩ := H.out _ IB.out (by omega)
      have c1 := hc k hlt
      have k0 : (0 : Int) ≤ (k : Int) := by omega
      have AU := Lib.hid (AS.out k)
      have HK := Lib.hid (RC.out (xs.getD k 0) wo IB.out)
      have FU := FE.out (xs.getD k 0)
      clear hc
      generalize xs.getD k 0 = m at *
      generalize farS xs l m = ST at *
      obtain ⟨f, hf⟩ : ∃ f, CF m = f := ⟨_, rfl⟩
      rw [hf] at FU AU HK
      clear hf
      have EE : Hid (ST = (xs.take n).filter fun o => decide (f ≤ CF o)) := Lib.hid (by rw [FU, List.take_of_length_le (by rw [HL.out]; omega)])
      have FT' := Lib.hid (fun j (hj : j < n) => FT.out (fun o => decide (f ≤ CF o)) j (by rw [HL.out]; exact hj))
      obtain ⟨FS, hFS⟩ : ∃ FS : Nat → List Int, FS = fun j => (xs.take j).filter fun o => decide (f ≤ CF o) := ⟨_, rfl⟩
      have E0 : Hid (FS 0 = []) := Lib.hid (by rw [hFS]; rfl)
      have E1 : Hid (FS n = ST) := Lib.hid (by rw [hFS, EE.out])
      have E2 : Hid (∀ j, j < n → FS (j + 1) = FS j ++ if decide (f ≤ CF (xs.getD j 0)) = true then [xs.getD j 0] else []) := Lib.hid (fun j hj => by rw [hFS]; exact FT'.out j hj)
      clear hFS FU EE FT'
      go_wp2_with (go_at_call 44; refine HK.out.mono ?_; rintro e w2 ⟨rfl, hb⟩; have J0 := Lib.hid (I0.out.below hb I0.out.lt); have JB := Lib.hid (IB.out.trans (hb.mono IB.out.size)); have x2 : w2.cell? ⟨w.heap.size, 0, none⟩ = some (.slice (some ⟨b, o, none⟩) n c) := J0.out.cell 0; clear hb)
      have WZ : Hid (w.heap.size + 1 ≤ w2.heap.size) := Lib.hid J0.out.lt
      go_loopw [9, 25] (fun s i wr => ∃ (j q : Nat) (A3 : Option Addr) (c3 : Nat), j ≤ n ∧ i = .int .i64 j ∧ s = .slice A3 q c3 ∧ q ≤ j ∧ Hid (Blk wr w.heap.size 27 #[.slice (some ⟨b, o, none⟩) n c]) ∧ Hid (Ios wr (w.heap.size + 1) A3 q c3 (FS j)) ∧ Hid (Below w.heap.size w wr)) (fun _ i _ => n - (intOf i).toNat)
      case atStart => exact ⟨0, 0, none, 0, Nat.zero_le _, rfl, rfl, Nat.zero_le _, J0, Lib.hid (by rw [E0.out]; exact World.ownsRow_nil _ _ _ _), JB⟩
      case round =>
        obtain ⟨j, q, A3, c3, hj, rfl, rfl, hq, L0, LO, LB⟩ := hrel
        clear x2
        have x2 : wr.cell? ⟨w.heap.size, 0, none⟩ = some (.slice (some ⟨b, o, none⟩) n c) := L0.out.cell 0
        by_cases hjl : j < n
        · obtain ⟨b', o', hbo, hb', hc'⟩ := H.out _ LB.out (by omega)
          injection hbo with hbo
          injection hbo with hbo hoo
          subst hbo hoo
          have d1 := hc' j hjl
          have j0 : (0 : Int) ≤ (j : Int) := by omega
          have EU := Lib.hid (E2.out j hjl)
          have HJ := Lib.hid (RC.out (xs.getD j 0) wr LB.out)
          clear hc'
          generalize xs.getD j 0 = x at *
          obtain ⟨fx, hfx⟩ : ∃ fx, CF x = fx := ⟨_, rfl⟩
          rw [hfx] at EU HJ
          clear hfx
          by_cases hd : f ≤ fx
          · have SE : Hid (FS (j + 1) = FS j ++ [x]) := Lib.hid (by rw [EU.out, if_pos (decide_eq_true hd)])
            have qq : q + 1 ≤ 1000000 := by omega
            clear EU
            go_wp2_with (first
              | (go_at_call 44; refine HJ.out.mono ?_; rintro e w3 ⟨rfl, hb⟩; have M0 := Lib.hid (L0.out.below hb L0.out.lt); have MB := Lib.hid (LB.out.trans (hb.mono LB.out.size)); have MO := Lib.hid (LO.out.below hb); have WS : Hid (w.heap.size + 1 ≤ w3.heap.size) := Lib.hid M0.out.lt; have OA : Hid (Ios (w3.alloc (.cells #[.int .i64 x] 3)) (w.heap.size + 1) A3 q c3 (FS j)) := Lib.hid (MO.out.below ((Below.refl _ _).alloc (Nat.le_refl _) _)); have LT : Hid (Is (w3.alloc (.cells #[.int .i64 x] 3)) (w3.heap.size + 1) (some ⟨w3.heap.size, 0, none⟩) 1 [x]) := Lib.hid (Is.lit rfl rfl); clear hb)
              | (at_builtin; refine append_is rfl (.tmp 34) (.tmp 36) rfl (w.heap.size + 1) A3 q c3 (FS j) rfl OA.out (w3.heap.size + 1) (some ⟨w3.heap.size, 0, none⟩) 1 1 [x] rfl LT.out (fun e => by cases e) qq (by have := WS.out; simp; omega) ?_; intro A5 c5 w5 ho5 hg5; have O5 := Lib.hid ho5; have G5 := Lib.hid hg5; have B5 : Hid (Blk w5 w.heap.size 27 #[.slice (some ⟨b, o, none⟩) n c]) := Lib.hid ((hg5.block w.heap.size (by have := WS.out; simp; omega) (fun e => by have := (OA.out.lt _ e.symm).1; omega)).trans (M0.out.alloc _)); clear ho5 hg5))
            go_roundw
            case rel =>
              refine ⟨j + 1, q + 1, A5, c5, by omega, by go_num, rfl, by omega, B5, Lib.hid (by rw [SE.out]; exact O5.out), Lib.hid ?_⟩
              exact (MB.out.alloc (by have := WS.out; omega) _).grown G5.out (by have := WS.out; simp; omega) (fun j hj => by have := (OA.out.lt _ hj).1; omega)
            case measure => simp [intOf]; omega
          · have SE : Hid (FS (j + 1) = FS j) := Lib.hid (by rw [EU.out, if_neg (by simpa using hd), List.append_nil])
            have hd' : decide (f ≤ fx) = false := decide_eq_false hd
            clear EU
            go_wp2_with (go_at_call 44; refine HJ.out.mono ?_; rintro e w3 ⟨rfl, hb⟩; have M0 := Lib.hid (L0.out.below hb L0.out.lt); have MB := Lib.hid (LB.out.trans (hb.mono LB.out.size)); have MO := Lib.hid (LO.out.below hb); clear hb)
            go_roundw
            case rel => exact ⟨j + 1, q, A3, c3, by omega, by go_num, rfl, by omega, M0, Lib.hid (by rw [SE.out]; exact MO.out), MB⟩
            case measure => simp [intOf]; omega
        · obtain rfl : j = n := by omega
          have HM := Lib.hid (RM.out A3 q c3 wr.heap.size (FS j) wr LB.out LO.out.is_.1 (by omega) (Nat.le_refl _))
          rw [E1.out] at HM
          have WR : Hid (w.heap.size ≤ wr.heap.size) := Lib.hid LB.out.size
          generalize rMaj xs ST = R at *
          cases R with
          | true =>
            by_cases hbf : AG k < f
            · have SE : Hid (AG (k + 1) = f) := Lib.hid (by rw [AU.out, if_pos ⟨rfl, hbf⟩])
              have hbf' : decide (AG k < f) = true := decide_eq_true hbf
              clear AU
              go_wp2_with (go_at_call 20; refine HM.out.mono ?_; rintro e w4 ⟨rfl, hb⟩; have M0 := Lib.hid (L0.out.below hb L0.out.lt); have MB := Lib.hid (LB.out.trans (hb.mono LB.out.size)); clear hb)
              go_roundw
              case rel => exact ⟨k + 1, by omega, by go_num, by rw [SE.out], M0, MB⟩
              case measure => simp [intOf]; omega
            · have SE : Hid (AG (k + 1) = AG k) := Lib.hid (by rw [AU.out, if_neg (fun e => hbf e.2)])
              have hbf' : decide (AG k < f) = false := decide_eq_false hbf
              clear AU
              go_wp2_with (go_at_call 20; refine HM.out.mono ?_; rintro e w4 ⟨rfl, hb⟩; have M0 := Lib.hid (L0.out.below hb L0.out.lt); have MB := Lib.hid (LB.out.trans (hb.mono LB.out.size)); clear hb)
              go_roundw
              case rel => exact ⟨k + 1, by omega, by go_num, by rw [SE.out], M0, MB⟩
              case measure => simp [intOf]; omega
          | false =>
            have SE : Hid (AG (k + 1) = AG k) := Lib.hid (by rw [AU.out, if_neg (fun e => by cases e.1)])
            clear AU
            go_wp2_with (go_at_call 20; refine HM.out.mono ?_; rintro e w4 ⟨rfl, hb⟩; have M0 := Lib.hid (L0.out.below hb L0.out.lt); have MB := Lib.hid (LB.out.trans (hb.mono LB.out.size)); clear hb)
            go_roundw
            case rel => exact ⟨k + 1, by omega, by go_num, by rw [SE.out], M0, MB⟩
            case measure => simp [intOf]; omega
    · obtain rfl : k = n := by omega
      go_wp2
      go_ret
      exact ⟨rfl, IB.out⟩
end Go.Proofs.YtfclppopelmdgaaDoor
