/-
  The law DiskFails, walked.
-/
import Derived.Test.YthhpaejeplninaaAs
import Derived.Test.YthhpaejeplninaaVw
import Derived.Test.YthhpaejeplninaaWk
import Derived.Test.YthhpaejeplninaaFs
namespace Go.Proofs.Ythhpaejeplninaa
open Go.RowKit
attribute [local go_sem ↓] Try.z53 Try.z39

theorem Bs.nil (w : World) (B : Nat) : Bs w B none [] := fun h => absurd h (by simp)
theorem Asks.more {w : World} {B B' : Nat} {A : Option Addr} {n : Nat} (h : Asks w B A n) (hb : B ≤ B') : Asks w B' A n := fun hn => by
  obtain ⟨b, o, hA, hB, hc⟩ := h hn
  refine ⟨b, o, hA, by omega, fun i hi => ?_⟩
  obtain ⟨kd, at_, nn, Ak, nk, c, hr, h1, ks, h2, h3, h4⟩ := hc i hi
  exact ⟨kd, at_, nn, Ak, nk, c, hr, h1, ks, h2, h3, h4.more hb⟩
theorem Dk.set_low {w : World} {base p gs g : Nat} {S : DSt} (h : Dk w base p gs S) (hg : g < base) (i : Nat) (u : Value) : Dk (w.setCell ⟨g, i, none⟩ u) base p gs S := by
  have hb := h.base
  obtain ⟨cs, vq, _, ho, _⟩ := h.own
  obtain ⟨hgs, _⟩ := ho.gs
  exact h.keep (Below.heap_setCell w _ u p (by show p ≠ g; omega)) (Below.heap_setCell w _ u gs (by show gs ≠ g; omega)) fun k _ hk _ => Below.heap_setCell w _ u k (by show k ≠ g; omega)
theorem Blk.rng {w : World} {g : Nat} {t : TypeId} {cs : List Value} (h : Blk w g t cs.toArray) : w.rangeAt g 0 cs := fun j v hj => by
  rw [h.cell, Nat.zero_add, List.getElem?_toArray]
  exact hj
theorem Kb.nil (w : World) (B : Nat) : Kb w B none [] := fun h => absurd h (by simp)

set_option maxRecDepth 100000 in
set_option maxHeartbeats 8000000 in
theorem fails_walk (Al : Option Addr) (nl cl : Nat) (kd at_ nn : Int) (A : Option Addr) (c : Nat) (ks : List Bool) (n : Int) (w : World) (hAl : Asks w w.heap.size Al nl) (hnl : nl ≤ 9223372036854775807) (hnn : nn ≤ 9223372036854775807) (hk : Bs w w.heap.size A ks) (hl : ks.length ≤ 9223372036854775807) (hn : -9223372036854775808 ≤ n ∧ n ≤ 9223372036854775807) :
    Calls Try.prog 8 #[.slice Al nl cl, .agg (askv kd at_ nn A ks.length c), .int .i64 n] w fun e w' => e = .returned (.bool true) ∧ Below w.heap.size w w' := by
  unfold askv
  have hB0 : Below w.heap.size w (w.alloc (.cells #[.int .i64 kd, .int .i64 at_, .int .i64 nn, .slice A ks.length c] 37)) := (Below.refl _ w).alloc (Nat.le_refl _) _
  have b0 : Blk (w.alloc (.cells #[.int .i64 kd, .int .i64 at_, .int .i64 nn, .slice A ks.length c] 37)) w.heap.size 37 #[.int .i64 kd, .int .i64 at_, .int .i64 nn, .slice A ks.length c] := Blk.new w 37 _
  have HBS := Lib.hid hk
  have HAL := Lib.hid hAl
  have HB0 := Lib.hid hB0
  have B0 := Lib.hid b0
  have HN := Lib.hid hn
  clear hk hB0 b0 hAl hn
  go_enter Try.func8, Try.ntmps8
  go_wp2_with fail
  generalize w.alloc (.cells #[.int .i64 kd, .int .i64 at_, .int .i64 nn, .slice A ks.length c] 37) = W0 at *
  refine (wakes_any W0).mono ?_
  rintro e w1 ⟨rfl, hb1⟩
  have hB1 := HB0.out.trans (hb1.mono HB0.out.size)
  have b1 := B0.out.below hb1 B0.out.lt
  clear HB0 B0 hb1
  have has := asked_any Al nl cl w1 ((HAL.out.below hB1).more hB1.size) hnl
  have HAS := Lib.hid has
  have HB1 := Lib.hid hB1
  have B1 := Lib.hid b1
  clear has hB1 b1
  go_wp2_with fail
  refine HAS.out.mono ?_
  rintro e w2 ⟨p, gs, S, rfl, d2, hq2, hh2, hb2⟩
  have hB2 := HB1.out.trans (hb2.mono HB1.out.size)
  have b2 := B1.out.below hb2 B1.out.lt
  have hbase : w.heap.size < w1.heap.size := B1.out.lt
  clear HAS HB1 B1 hb2
  have hcr := crash_any w2 _ p gs S none 0 [] d2 (by omega) (Kb.nil _ _) (by simp)
  rw [show ([] : List Bool).length = 0 from rfl] at hcr
  have HCR := Lib.hid hcr
  have HB2 := Lib.hid hB2
  have B2 := Lib.hid b2
  have hbs := d2.base
  have hlt2 := d2.lt
  clear hcr hB2 b2 d2
  go_wp2_with fail
  refine HCR.out.mono ?_
  rintro e w3 ⟨rfl, d3, f3⟩
  have hb3 := f3.below (by omega)
  have hB3 := HB2.out.trans (hb3.mono (by omega))
  have b3 := B2.out.below hb3 hbase
  clear HCR HB2 B2 hb3
  have fx3 : Fx w w1.heap.size p gs #[.int .i64 kd, .int .i64 at_, .int .i64 nn, .slice A ks.length c] (crashed S []) w3 := ⟨d3, b3, hB3, hbase, by have := f3.size; omega⟩
  have x0 := b3.cell 0
  have x1 := b3.cell 1
  have y0 := b3.frozen 0
  have y1 := b3.frozen 1
  simp only [List.getElem?_toArray, List.getElem?_cons_zero, List.getElem?_cons_succ] at x0 x1
  have hlen3 : (crashed S []).has.length = 9 := (crashed_len S []).trans hh2
  have hok3 : ∀ b ∈ (crashed S []).has, B64 b := d3.ok.has
  rw [show crashed S [] = fs (crashed S []).has (-1) S.ops from rfl] at fx3
  have FX := Lib.hid fx3
  have HOK := Lib.hid hok3
  clear b3 d3 f3 hB3 fx3 hok3 hbs hlt2 hq2 hh2
  generalize (crashed S []).has = H at *
  generalize S.ops = o at *
  generalize w1.heap.size = base at *
  go_wp2_with fail
  have hk4 := low kd 4 (by omega) (by omega)
  have ha9 := low at_ 9 (by omega) (by omega)
  have hn8 := low n 8 (by omega) (by omega)
  rw [show wrap64 (3 + wrap64 ((IntKind.u64.wrap kd).tmod 4)) = 3 + wrap64 ((IntKind.u64.wrap kd).tmod 4) by (generalize wrap64 ((IntKind.u64.wrap kd).tmod 4) = x at *; unfold wrap64; omega)]
  obtain ⟨m, hm⟩ := Int.eq_ofNat_of_zero_le hn8.1
  obtain ⟨ap, hap⟩ : ∃ ap, ap = wrap64 ((IntKind.u64.wrap at_).tmod 9) := ⟨_, rfl⟩
  obtain ⟨kp, hkp⟩ : ∃ kp, kp = 3 + wrap64 ((IntKind.u64.wrap kd).tmod 4) := ⟨_, rfl⟩
  rw [← hap, ← hkp, hm]
  rw [hm] at hn8
  rw [← hap] at ha9
  have hkp3 : 3 ≤ kp := by omega
  have hm8 : m < 8 := by omega
  have ha0 := ha9.1
  have ha1 := ha9.2
  clear hm hap hkp hk4 ha9 hn8
  have fx4 : Fx w base p gs #[.int .i64 kp, .int .i64 ap, .int .i64 nn, .slice A ks.length c] (fs H (-1) o) ((w3.setCell ⟨w.heap.size, 0, none⟩ (.int .i64 kp)).setCell ⟨w.heap.size, 1, none⟩ (.int .i64 ap)) :=
    ⟨(FX.out.dk.set_low FX.out.lt 0 _).set_low FX.out.lt 1 _, (FX.out.box.set_ 0 _).set_ 1 _, (FX.out.below.setCell (Nat.le_refl _) _).setCell (Nat.le_refl _) _, FX.out.lt, by simp [World.setCell]; exact FX.out.le⟩
  clear FX x0 x1 y0 y1
  generalize (w3.setCell ⟨w.heap.size, 0, none⟩ (.int .i64 kp)).setCell ⟨w.heap.size, 1, none⟩ (.int .i64 ap) = w4 at *
  have hvw := view_any none 0 [] w4 base p gs _ fx4.dk (by simp [fs]) hlen3 (Bs.nil _ _) (by simp)
  rw [show (crashed (fs H (-1) o) []).has = H from rfl, show ([] : List Bool).length = 0 from rfl] at hvw
  refine hvw.mono ?_
  rintro e w5 ⟨rfl, hb5⟩
  have fx5 := fx4.low hb5
  have hsz : H.flatten.length = 576 := by rw [Parts.len (k := 64) (fun b hb => (HOK.out b hb).1), hlen3]
  have i53 := Lib.hid (show (Try.prog.info? 53).map (·.size) = some H.flatten.length by rw [hsz]; exact Try.i53)
  have z53 := Lib.hid (show Z9.toArray.size = H.flatten.length by rw [hsz]; simp [Z9])
  have o53 : Hid (∀ v ∈ H.flatten, v.oneCell' = true) := fun v hv => by
    obtain ⟨b, hb, hv⟩ := List.mem_flatten.1 hv
    exact (HOK.out b hb).one v hv
  have fx6 := Lib.hid (fx5.alloc (.cells H.flatten.toArray 53))
  have was6 := Lib.hid (Blk.new w5 53 H.flatten.toArray)
  have hgp : Hid (w5.heap.size ≠ p ∧ w5.heap.size ≠ gs) := by
    have h1 := fx5.dk.lt
    have h2 := fx5.dk.gs_lt
    exact ⟨by omega, by omega⟩
  have hfl := failD m _ base p gs _ fx6.out.dk (by omega)
  unfold Setd at hfl
  rw [show setErr (fs H (-1) o) = 0 from rfl, fs_fail] at hfl
  have HFL := Lib.hid hfl
  clear hvw hfl fx4 hb5 fx5
  go_wp2_with ((with_reducible refine at_store (t := 53) ?_); refine wpList_store_new w5 rfl 53 _ _ rfl _ _ _ H.flatten rfl rfl rfl z53.out i53.out o53.out ?_)
  refine HFL.out.mono ?_
  rintro e w7 ⟨rfl, d7, f7⟩
  have fx7 := fx6.out.fr d7 f7
  have was7 := was6.out.fr f7 hgp.out.1 hgp.out.2 (by decide)
  generalize w5.heap.size = g8 at *
  have ST : Hid (∃ o', Fx w base p gs #[.int .i64 kp, .int .i64 ap, .int .i64 nn, .slice A ks.length c] (fs H m o') w7 ∧ Blk w7 g8 53 H.flatten.toArray) := ⟨o, fx7, was7⟩
  clear HFL fx6 was6 d7 f7 fx7 was7
  go_wp2_with fail
  go_loopw [64] (fun i wr => ∃ j : Nat, j ≤ m ∧ i = .int .i64 j ∧ ∃ o', Fx w base p gs #[.int .i64 kp, .int .i64 ap, .int .i64 nn, .slice A ks.length c] (fs H (m - j) o') wr ∧ Blk wr g8 53 H.flatten.toArray) (fun i _ => m - (intOf i).toNat)
  case atStart =>
    obtain ⟨o', h1, h2⟩ := ST.out
    exact ⟨0, Nat.zero_le _, rfl, o', by simpa using h1, h2⟩
  case round =>
    clear ST
    obtain ⟨j, hj, rfl, o', fx, was⟩ := hrel
    by_cases hlt : j < m
    · have hlt' : (j : Int) < m := by omega
      have hmod : (j : Int).tmod 9 = j := by rw [Int.tmod_eq_emod_of_nonneg (by omega)]; omega
      have hrd := read_any j wr base p gs _ fx.dk (by simp [fs])
      unfold Readd at hrd
      rw [fs_err hlen3 false j (by omega) (by omega), if_neg (by omega), fs_ask hlen3 false j (by omega) (by omega), if_neg (by omega), show less ((m : Int) - j) = m - (j + 1 : Nat) by unfold less; rw [if_pos (by omega)]; omega] at hrd
      have hrb := readB_ok fx.dk.ok j
      generalize readB (fs H (m - j) o') j = B at *
      have HRB := Lib.hid hrb
      have HRD := Lib.hid hrd
      have FX := Lib.hid fx
      have WAS := Lib.hid was
      clear hrb hrd fx was
      go_wp2_with fail
      refine HRD.out.mono ?_
      rintro e w8 ⟨rfl, d8, f8⟩
      have fx8 := Lib.hid ((FX.out.fr d8 f8).alloc (.cells B.toArray 39))
      have was8 := Lib.hid ((WAS.out.fr f8 hgp.out.1 hgp.out.2 (by decide)).alloc (.cells B.toArray 39))
      have i39 := Lib.hid (show (Try.prog.info? 39).map (·.size) = some B.length by rw [HRB.out.len]; exact Try.i39)
      have z39 := Lib.hid (show Z0.toArray.size = B.length by rw [HRB.out.len]; simp [Z0])
      clear HRD FX WAS d8 f8
      go_wp2_with ((with_reducible refine at_store (t := 39) ?_); refine wpList_store_new w8 rfl 39 _ _ rfl _ _ _ B rfl rfl rfl z39.out i39.out HRB.out.one ?_)
      exact ⟨⟨j + 1, by omega, by go_num, _, fx8.out, was8.out⟩, by simp [intOf]; omega⟩
    · have hjm : j = m := by omega
      subst hjm
      rw [show (j : Int) - j = 0 by omega] at fx
      obtain ⟨W, hW⟩ : ∃ W, W = wr := ⟨_, rfl⟩
      subst hW
      have hHu : U8s 576 H.flatten.toArray := by
        intro i hi
        have hi' : i < H.flatten.length := by omega
        have hmem := List.getElem_mem hi'
        obtain ⟨b, hb, hv⟩ := List.mem_flatten.1 hmem
        obtain ⟨z, hz⟩ := (HOK.out b hb).2 _ hv
        exact ⟨z, by rw [List.getElem?_toArray, List.getElem?_eq_getElem hi', hz]⟩
      have HNE := fun w : World => ne53 w H.flatten.toArray hHu
      have i37 := Lib.hid (show (Try.prog.info? 37).map (·.size) = some #[Value.int .i64 kp, .int .i64 ap, .int .i64 nn, .slice A ks.length c].size from Try.i37)
      have hof := of_any kp ap nn A c ks W base p gs _ fx.dk (by simp [fs]) hnn ((HBS.out.below fx.below).more fx.below.size) hl
      unfold askv Ofd at hof
      rw [fs_of_err hlen3 kp ap hkp3 ha0 ha1, if_pos rfl, fs_of hlen3 kp ap nn ks hkp3 ha0 ha1] at hof
      have hrb : B64 (ofB (fs H 0 o') kp ap) := by
        unfold ofB; split
        · exact readB_ok fx.dk.ok ap
        · exact Z0.ok
      generalize ofB (fs H 0 o') kp ap = B at *
      have HRB := Lib.hid hrb
      have HOF := Lib.hid hof
      have HOP := Lib.hid (ops_any fx.dk)
      have FX := Lib.hid fx
      have WAS := Lib.hid was
      have BOX := Lib.hid fx.box
      clear hrb hof fx was hHu
      go_wp2_with fail
      refine HOP.out.mono ?_
      rintro e w' ⟨rfl, rfl⟩
      rw [show (fs H 0 o').ops = o' from rfl]
      go_wp2_with ((with_reducible refine at_load (t := 37) ?_); refine wpList_load_row rfl 37 _ rfl w.heap.size rfl 37 _ (0, 0) _ BOX.out Try.underlying37 rfl i37.out ?_)
      refine HOF.out.mono ?_
      rintro e w8 ⟨rfl, d8, f8⟩
      have fx8 := (FX.out.fr d8 f8).alloc (.cells B.toArray 39)
      have was8 := (WAS.out.fr f8 hgp.out.1 hgp.out.2 (by decide)).alloc (.cells B.toArray 39)
      have i39 := Lib.hid (show (Try.prog.info? 39).map (·.size) = some B.length by rw [HRB.out.len]; exact Try.i39)
      have z39 := Lib.hid (show Z0.toArray.size = B.length by rw [HRB.out.len]; simp [Z0])
      have hvw := view_any none 0 [] _ base p gs _ fx8.dk (by simp [fs]) hlen3 (Bs.nil _ _) (by simp)
      rw [show (crashed (fs H (-1) o') []).has = H from rfl, show ([] : List Bool).length = 0 from rfl] at hvw
      have HVW := Lib.hid hvw
      have FX8 := Lib.hid fx8
      have WAS8 := Lib.hid was8
      clear HOF HOP FX WAS BOX d8 f8 hvw fx8 was8
      go_wp2_with ((with_reducible refine at_store (t := 39) ?_); refine wpList_store_new w8 rfl 39 _ _ rfl _ _ _ B rfl rfl rfl z39.out i39.out HRB.out.one ?_)
      refine HVW.out.mono ?_
      rintro e w9 ⟨rfl, hb9⟩
      have fx9 := (FX8.out.low hb9).alloc (.cells H.flatten.toArray 53)
      have was9 := (WAS8.out.below hb9 WAS8.out.lt).alloc (.cells H.flatten.toArray 53)
      have now9 := Lib.hid (Blk.new w9 53 H.flatten.toArray)
      have HOP := Lib.hid (ops_any fx9.dk)
      have hpe := pending_any fx9.dk (by simp [fs])
      rw [show (fs H (-1) o').q = [] from rfl] at hpe
      have HPE := Lib.hid hpe
      have FX9 := Lib.hid fx9
      have WAS9 := Lib.hid was9
      clear HVW FX8 WAS8 hb9 fx9 was9 hpe
      go_wp2_with (first
        | ((with_reducible refine at_store (t := 53) ?_); refine wpList_store_new w9 rfl 53 _ _ rfl _ _ _ H.flatten rfl rfl rfl z53.out i53.out o53.out ?_)
        | fail)
      refine wp_load_mid 53 _ rfl w9.heap.size 0 rfl H.flatten _ now9.out.rng Try.underlying53' rfl i53.out ?_
      go_wp2_with fail
      refine wp_load_mid 53 _ rfl g8 0 rfl H.flatten _ WAS9.out.rng Try.underlying53' rfl i53.out ?_
      go_wp2_with fail
      refine HOP.out.mono ?_
      rintro e w' ⟨rfl, rfl⟩
      rw [show (fs H (-1) o').ops = o' from rfl]
      clear HOP
      go_wp2_with fail
      refine HPE.out.mono ?_
      rintro e w10 ⟨rfl, -, hb10⟩
      have fx10 := FX9.out.low hb10
      have hof := of_any kp ap nn A c ks w10 base p gs _ fx10.dk (by simp [fs]) hnn ((HBS.out.below fx10.below).more fx10.below.size) hl
      unfold askv Ofd at hof
      rw [fs_of_err hlen3 kp ap hkp3 ha0 ha1, if_neg (by omega)] at hof
      have hrb2 : B64 (ofB (fs H (-1) o') kp ap) := by
        unfold ofB; split
        · exact readB_ok fx10.dk.ok ap
        · exact Z0.ok
      have hfp := fs_next (o := o') hlen3 kp ap nn ks hkp3 ha0 ha1
      generalize ofB (fs H (-1) o') kp ap = B2 at *
      generalize ofS (fs H (-1) o') kp ap nn ks = S5 at *
      have HRB2 := Lib.hid hrb2
      have HOF := Lib.hid hof
      have HFP := Lib.hid hfp
      have FX := Lib.hid fx10
      have BOX := Lib.hid fx10.box
      clear hrb2 hof hfp fx10 HPE FX9 WAS9 hb10 now9 i53 z53 o53 hgp HNE HRB i39 z39 HOK HN HAL
      go_wp2_with ((with_reducible refine at_load (t := 37) ?_); refine wpList_load_row rfl 37 _ rfl w.heap.size rfl 37 _ (0, 0) _ BOX.out Try.underlying37 rfl i37.out ?_)
      refine HOF.out.mono ?_
      rintro e w11 ⟨rfl, d11, f11⟩
      have fx11 := (FX.out.fr d11 f11).alloc (.cells B2.toArray 39)
      have i39 := Lib.hid (show (Try.prog.info? 39).map (·.size) = some B2.length by rw [HRB2.out.len]; exact Try.i39)
      have z39 := Lib.hid (show Z0.toArray.size = B2.length by rw [HRB2.out.len]; simp [Z0])
      have harm := armD j _ base p gs _ fx11.dk (by omega)
      unfold Setd at harm
      rw [HFP.out.set] at harm
      have hfp6 := HFP.out.arm j (by omega)
      generalize armSt S5 j = S6 at *
      have HARM := Lib.hid harm
      have FX11 := Lib.hid fx11
      have HFP6 := Lib.hid hfp6
      clear HOF FX BOX HFP d11 f11 fx11 harm hfp6
      go_wp2_with ((with_reducible refine at_store (t := 39) ?_); refine wpList_store_new w11 rfl 39 _ _ rfl _ _ _ B2 rfl rfl rfl z39.out i39.out HRB2.out.one ?_)
      refine HARM.out.mono ?_
      rintro e w12 ⟨rfl, d12, f12⟩
      have ST : Hid (∃ S', Fx w base p gs #[.int .i64 kp, .int .i64 ap, .int .i64 nn, .slice A ks.length c] S' w12 ∧ Fp S' j 1) := ⟨_, FX11.out.fr d12 f12, HFP6.out⟩
      clear HARM FX11 HFP6 HRB2 i39 z39 d12 f12
      go_wp2_with fail
      go_loopw [128] (fun i wr => ∃ k : Nat, k ≤ j ∧ i = .int .i64 k ∧ ∃ S', Fx w base p gs #[.int .i64 kp, .int .i64 ap, .int .i64 nn, .slice A ks.length c] S' wr ∧ Fp S' (j - k) (1 + k)) (fun i _ => j - (intOf i).toNat)
      case atStart =>
        obtain ⟨S', h1, h2⟩ := ST.out
        exact ⟨0, Nat.zero_le _, rfl, S', h1, by simpa using h2⟩
      case round =>
        clear ST
        obtain ⟨k, hk, rfl, S', fx, fp⟩ := hrel
        have hq := fp.q
        by_cases hlt : k < j
        · have hlt' : (k : Int) < j := by omega
          have hmod : (k : Int).tmod 9 = k := by rw [Int.tmod_eq_emod_of_nonneg (by omega)]; omega
          have hrd := read_any k wr base p gs _ fx.dk (by omega)
          unfold Readd at hrd
          rw [fp.err false k (by omega) (by omega), if_neg (by simp)] at hrd
          have hrb := readB_ok fx.dk.ok k
          have fp2 := fp.read k (by omega) (by omega)
          generalize readB S' k = B at *
          generalize askSt S' false k = S2 at *
          have HRB := Lib.hid hrb
          have HRD := Lib.hid hrd
          have FX := Lib.hid fx
          have FP2 := Lib.hid fp2
          clear hrb hrd fx fp fp2
          go_wp2_with fail
          refine HRD.out.mono ?_
          rintro e w13 ⟨rfl, d13, f13⟩
          have fx13 := (FX.out.fr d13 f13).alloc (.cells B.toArray 39)
          have i39 := Lib.hid (show (Try.prog.info? 39).map (·.size) = some B.length by rw [HRB.out.len]; exact Try.i39)
          have z39 := Lib.hid (show Z0.toArray.size = B.length by rw [HRB.out.len]; simp [Z0])
          have hbl := block_any kp ap nn A ks.length c (w13.alloc (.cells B.toArray 39))
          unfold askv at hbl
          have HBL := Lib.hid hbl
          have FX13 := Lib.hid fx13
          have x0 := fx13.box.cell 0
          have x1 := fx13.box.cell 1
          have x2 := fx13.box.cell 2
          have x3 := fx13.box.cell 3
          simp only [List.getElem?_toArray, List.getElem?_cons_zero, List.getElem?_cons_succ] at x0 x1 x2 x3
          clear HRD FX d13 f13 fx13 hbl
          go_wp2_with (first
            | ((with_reducible refine at_store (t := 39) ?_); refine wpList_store_new w13 rfl 39 _ _ rfl _ _ _ B rfl rfl rfl z39.out i39.out HRB.out.one ?_)
            | fail)
          refine HBL.out.mono ?_
          rintro e w14 ⟨rfl, hb14⟩
          have fx14 := FX13.out.low hb14
          have hwr := write_any k (bk nn) (bk_ok nn) w14 base p gs _ fx14.dk (by have := FP2.out.q; omega)
          rw [FP2.out.err true k (by omega) (by omega), if_neg (by omega)] at hwr
          have fp3 := FP2.out.write k (bk nn) (by omega) (by omega) (by omega)
          rw [show less ((j : Int) - k) = j - (k + 1 : Nat) by unfold less; rw [if_pos (by omega)]; omega, show 1 + k + 1 = 1 + (k + 1) by omega] at fp3
          generalize writeSt S2 k (bk nn) = S3 at *
          generalize bk nn = Bn at *
          have HWR := Lib.hid hwr
          have FX14 := Lib.hid fx14
          have FP3 := Lib.hid fp3
          clear HBL FX13 x0 x1 x2 x3 hb14 fx14 hwr fp3 FP2
          go_wp2_with fail
          refine HWR.out.mono ?_
          rintro e w15 ⟨rfl, d15, f15⟩
          have FX15 := Lib.hid (FX14.out.fr d15 f15)
          clear HWR FX14 d15 f15
          go_wp2_with fail
          exact ⟨⟨k + 1, by omega, by go_num, _, FX15.out, FP3.out⟩, by simp [intOf]; omega⟩
        · have hkj : k = j := by omega
          subst hkj
          rw [show (k : Int) - k = 0 by omega] at fp
          have HBZ := buildZ
          have hwr := write_any 0 Z0 Z0.ok wr base p gs _ fx.dk (by omega)
          rw [fp.err true 0 (by omega) (by omega), if_pos ⟨rfl, rfl⟩, fp.out Z0] at hwr
          obtain ⟨S7, h7⟩ : ∃ S7 : DSt, S7 = { S' with dead := true } := ⟨_, rfl⟩
          have hd7 : S7.dead = true := by rw [h7]
          have hq7 : S7.q.length ≤ 1000000 := by rw [h7]; show S'.q.length ≤ _; omega
          rw [← h7] at hwr
          have HWR := Lib.hid hwr
          have FX := Lib.hid fx
          have HD7 := Lib.hid hd7
          clear hwr fx fp h7 hd7 hq
          go_wp2_with fail
          refine HWR.out.mono ?_
          rintro e v1 ⟨rfl, e1, g1⟩
          have fy1 := FX.out.fr e1 g1
          have hde := dead_any fy1.dk
          rw [HD7.out] at hde
          have hsy := sync_any v1 base p gs S7 fy1.dk hq7
          rw [dead_sync HD7.out, dead_err HD7.out] at hsy
          have HDE := Lib.hid hde
          have HSY := Lib.hid hsy
          have FY1 := Lib.hid fy1
          clear HWR FX e1 g1 hsy fy1 hde
          go_wp2_with fail
          refine HDE.out.mono ?_
          rintro e w' ⟨rfl, rfl⟩
          clear HDE
          go_wp2_with fail
          refine HSY.out.mono ?_
          rintro e v2 ⟨rfl, e2, g2⟩
          have fy2 := FY1.out.fr e2 g2
          have har := armD 1 v2 base p gs S7 fy2.dk (by omega)
          unfold Setd at har
          rw [dead_arm HD7.out, dead_set HD7.out] at har
          have HAR := Lib.hid har
          have FY2 := Lib.hid fy2
          clear HSY FY1 e2 g2 fy2 har
          go_wp2_with fail
          refine HAR.out.mono ?_
          rintro e v3 ⟨rfl, e3, g3⟩
          have fy3 := FY2.out.fr e3 g3
          have hfa := failD 1 v3 base p gs S7 fy3.dk (by omega)
          unfold Setd at hfa
          rw [dead_fail HD7.out, dead_set HD7.out] at hfa
          have HFA := Lib.hid hfa
          have FY3 := Lib.hid fy3
          clear HAR FY2 e3 g3 fy3 hfa
          go_wp2_with fail
          refine HFA.out.mono ?_
          rintro e v4 ⟨rfl, e4, g4⟩
          have fy4 := FY3.out.fr e4 g4
          have hrd := read_any 0 v4 base p gs S7 fy4.dk hq7
          unfold Readd at hrd
          rw [dead_err HD7.out, dead_ask HD7.out] at hrd
          generalize readB S7 0 = B7 at *
          have HRD := Lib.hid hrd
          have FY4 := Lib.hid fy4
          clear HFA FY3 e4 g4 fy4 hrd
          go_wp2_with fail
          refine HRD.out.mono ?_
          rintro e v5 ⟨rfl, e5, g5⟩
          have fy5 := FY4.out.fr e5 g5
          have hcr := crash_any v5 base p gs S7 none 0 [] fy5.dk hq7 (Kb.nil _ _) (by simp)
          rw [show ([] : List Bool).length = 0 from rfl] at hcr
          have HCR := Lib.hid hcr
          have FY5 := Lib.hid fy5
          clear HRD FY4 e5 g5 fy5 hcr
          go_wp2_with fail
          refine HCR.out.mono ?_
          rintro e v6 ⟨rfl, e6, g6⟩
          have fy6 := FY5.out.fr e6 g6
          have hde := dead_any fy6.dk
          rw [show (crashed S7 []).dead = false from rfl] at hde
          have HDE := Lib.hid hde
          have FY6 := Lib.hid fy6.below
          clear HCR FY5 e6 g6 fy6 hde
          go_wp2_with fail
          refine HDE.out.mono ?_
          rintro e w' ⟨rfl, rfl⟩
          clear HDE
          go_wp2_with fail
          go_ret
          exact ⟨rfl, FY6.out⟩

end Go.Proofs.Ythhpaejeplninaa
