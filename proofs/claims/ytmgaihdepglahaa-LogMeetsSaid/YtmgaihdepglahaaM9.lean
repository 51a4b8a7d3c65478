/-
  The document's Meet.
-/
import Derived.Test.YtmgaihdepglahaaM6
import Derived.Test.YtmgaihdepglahaaN5
import Derived.Test.YtmgaihdepglahaaOW
namespace Go.Proofs.Ytmgaihdepglahaa
open Go.RowKit
attribute [local go_sem ↓] eqA neA eqGA

theorem So.down {w : World} {base base' m c : Nat} {A : Option Addr} {bi bt : Int} {es : List En} (h : So w base A m c bi bt es) (hb : base' ≤ base) : So w base' A m c bi bt es := World.ownsRow.down h hb

set_option linter.unusedSimpArgs false in
set_option maxRecDepth 100000 in
set_option maxHeartbeats 8000000 in
theorem refmeet_any (l o : Lg) (A A' : Option Addr) (n c m c' B : Nat) (w : World) (h : Lr w B A n c l) (h' : Lr w B A' m c' o) (hB : B ≤ w.heap.size) :
    Calls Try.prog 15 #[.agg #[.int .u64 l.bi, .int .u64 l.bt, .slice A n c], .agg #[.int .u64 o.bi, .int .u64 o.bt], .slice A' m c'] w fun e w' => e = .returned (.tuple #[.int .i64 (rMeetN l o.bi o.bt o.es : Int), .int .i64 (rMeetE l o.bi o.bt o.es)]) ∧ Below w.heap.size w w' := by
  obtain ⟨pi, pt, es⟩ := o
  have hp0 : 0 ≤ pi := h'.bi0
  have hp1 : pi < 18446744073709551616 := h'.bi1
  have ht0 : 0 ≤ pt := h'.bt0
  have hmn : m ≤ 1000 := h'.n
  have hlen : es.length = m := h'.len
  have hnc' := h'.nc
  simp only
  have hes := fun W (hW : Below w.heap.size w W) => h'.es.below (hW.mono hB)
  have BE := Lib.hid (fun W (hW : Below w.heap.size w W) => refbehind_any es pt A' m c' B W ht0 (by omega) hnc' (hes W hW) (Nat.le_trans hB hW.size))
  have RO := Lib.hid (fun W => room_any pi m hp0 hp1 (by omega) W)
  have HA := Lib.hid (fun W (hW : Below w.heap.size w W) i t h0 h1 => refhas_any l A n c B W (h.below (hW.mono hB)) (Nat.le_trans hB hW.size) i t h0 h1)
  have SP := Lib.hid (fun W (hW : Below w.heap.size w W) => refspots_any pi pt A' m c' B es W (hes W hW) (by omega) (Nat.le_trans hB hW.size) hp0 hp1)
  have hE : rMeetE l pi pt es = if (behind pt es && room pi m) = false then 2 else if l.bi ≤ pi ∧ rHas l pi pt = false then 4 else 0 := by unfold rMeetE; rw [hlen]
  have hN : rMeetN l pi pt es = if rMeetE l pi pt es = 0 then metN l pi es else 0 := rfl
  have B31 : Hid (Blk ((w.alloc (.cells #[.int .u64 l.bi, .int .u64 l.bt, .slice A n c] 27)).alloc (.cells #[.int .u64 pi, .int .u64 pt] 24)) w.heap.size 27 #[.int .u64 l.bi, .int .u64 l.bt, .slice A n c]) := Lib.hid ((Blk.new w 27 _).alloc _)
  have B41 : Hid (Blk ((w.alloc (.cells #[.int .u64 l.bi, .int .u64 l.bt, .slice A n c] 27)).alloc (.cells #[.int .u64 pi, .int .u64 pt] 24)) (w.heap.size + 1) 24 #[.int .u64 pi, .int .u64 pt]) := Lib.hid (Blk.fresh (by simp))
  have HB1 : Hid (Below w.heap.size w ((w.alloc (.cells #[.int .u64 l.bi, .int .u64 l.bt, .slice A n c] 27)).alloc (.cells #[.int .u64 pi, .int .u64 pt] 24))) := Lib.hid (((Below.refl _ _).alloc (Nat.le_refl _) _).alloc (by simp) _)
  have HL := Lib.hid hlen
  have HP := Lib.hid (And.intro hp0 hp1)
  have HM := Lib.hid hmn
  have HB0 := Lib.hid hB
  clear h h' hes hlen hmn hB hnc' ht0
  rw [hN]
  generalize rMeetE l pi pt es = RE at *
  cases hbe : behind pt es with
  | false =>
    rw [hbe] at hE BE
    have hE2 : RE = 2 := by rw [hE]; rfl
    clear hE
    subst hE2
    clear hN hbe
    go_enter Try.func15, Try.ntmps15
    go_wp2_with fail
    refine (BE.out _ HB1.out).mono ?_
    rintro e w2 ⟨rfl, hb⟩
    have B32 := Lib.hid (B31.out.below hb B31.out.lt)
    have B42 := Lib.hid (B41.out.below hb B41.out.lt)
    have HB2 := Lib.hid (HB1.out.trans (hb.mono HB1.out.size))
    clear hb
    go_wp2
    exact bodyPost_ret (resultsTT (p := 6) (q := 7) rfl _ _ _ _ rfl rfl) rfl ⟨rfl, HB2.out⟩
  | true =>
    rw [hbe] at hE BE
    cases hro : room pi m with
    | false =>
      rw [hro] at hE RO
      have hE2 : RE = 2 := by rw [hE]; rfl
      clear hE
      subst hE2
      clear hN hbe hro
      go_enter Try.func15, Try.ntmps15
      go_wp2_with fail
      refine (BE.out _ HB1.out).mono ?_
      rintro e w2 ⟨rfl, hb⟩
      have B32 := Lib.hid (B31.out.below hb B31.out.lt)
      have B42 := Lib.hid (B41.out.below hb B41.out.lt)
      have HB2 := Lib.hid (HB1.out.trans (hb.mono HB1.out.size))
      clear hb
      have y0 := B42.out.cell 0
      have y1 := B42.out.cell 1
      go_wp2_with (go_at_call 46; refine (RO.out _).mono ?_; rintro e w4 ⟨rfl, rfl⟩)
      exact bodyPost_ret (resultsTT (p := 6) (q := 7) rfl _ _ _ _ rfl rfl) rfl ⟨rfl, HB2.out⟩
    | true =>
      rw [hro] at hE RO
      have hrm : pi + (m : Int) ≤ 18446744073709551614 := of_decide_eq_true hro
      replace hE : RE = if l.bi ≤ pi ∧ rHas l pi pt = false then 4 else 0 := by rw [hE]; rfl
      have HR := Lib.hid hrm
      clear hbe hro hrm
      by_cases hge : l.bi ≤ pi
      rotate_left
      · have hE2 : RE = 0 := by rw [hE, if_neg (fun h => hge h.1)]
        clear hE
        subst hE2
        have hg1 : ¬ (l.bi ≤ pi) := hge
        have hg2 : decide (l.bi ≤ pi) = false := decide_eq_false hge
        clear hge
        rw [if_pos rfl]
        go_enter Try.func15, Try.ntmps15
        go_wp2_with fail
        refine (BE.out _ HB1.out).mono ?_
        rintro e w2 ⟨rfl, hb⟩
        have B32 := Lib.hid (B31.out.below hb B31.out.lt)
        have B42 := Lib.hid (B41.out.below hb B41.out.lt)
        have HB2 := Lib.hid (HB1.out.trans (hb.mono HB1.out.size))
        clear hb
        have y0 := B42.out.cell 0
        have y1 := B42.out.cell 1
        have x0 := B32.out.cell 0
        have x1 := B32.out.cell 1
        have x2 := B32.out.cell 2
        go_wp2_with (go_at_call 46; refine (RO.out _).mono ?_; rintro e w4 ⟨rfl, rfl⟩)
        clear hg1 hg2 x0 x1 x2 y0 y1
        have q0 := B42.out.cell 0
        have q1 := B42.out.cell 1
        go_wp2_with fail
        clear q0 q1
        refine (SP.out w2 HB2.out).mono ?_
        rintro e w9 ⟨A9, c9, rfl, ho, hb⟩
        have SO9 := Lib.hid (So.down ho HB2.out.size)
        clear ho
        have B39 := Lib.hid (B32.out.below hb B32.out.lt)
        have B49 := Lib.hid (B42.out.below hb B42.out.lt)
        have HB9 := Lib.hid (HB2.out.trans (hb.mono HB2.out.size))
        clear hb
        go_wp2_with fail
        go_loopw [39] (fun ix W => ∃ k : Nat, k ≤ m + 1 ∧ ix = .int .i64 k ∧ (∀ j, 1 ≤ j → j < k → met1 l (spI pi j) (spT pt es j) = true) ∧ Blk W w.heap.size 27 #[.int .u64 l.bi, .int .u64 l.bt, .slice A n c] ∧ So W w.heap.size A9 (m + 1) c9 pi pt es ∧ Below w.heap.size w W) (fun ix _ => m + 1 - (intOf ix).toNat)
        case atStart => exact ⟨0, Nat.zero_le _, rfl, fun j h1 h2 => absurd h2 (by omega), B39.out, SO9.out, HB9.out⟩
        case round =>
          obtain ⟨k, hk, rfl, hmet, b3', so', h0'⟩ := hrel
          have B30 := Lib.hid b3'
          have SO0 := Lib.hid so'
          have HB0' := Lib.hid h0'
          have HMT := Lib.hid hmet
          clear b3' so' h0' hmet
          by_cases hlt : k < m + 1
          · obtain ⟨g9, rfl, hg9, hgl, s0, s1⟩ := SO0.out.at_ hlt
            have l0 : ((k : Int) < (m : Int) + 1) := by omega
            have k0 : (0 : Int) ≤ (k : Int) := by omega
            have hb : Below wr.heap.size wr (wr.alloc (.cells #[.int .u64 (spI pi k), .int .u64 (spT pt es k)] 24)) := (Below.refl _ _).alloc (Nat.le_refl _) _
            have B31' := Lib.hid (B30.out.below hb B30.out.lt)
            have SO1 := Lib.hid (So.below SO0.out hb)
            have HB1' := Lib.hid (HB0'.out.trans (hb.mono HB0'.out.size))
            have pl := B30.out.lt
            have x0 := B30.out.cell 0
            have x1 := B30.out.cell 1
            have x2 := B30.out.cell 2
            have hs := spI_lt pi k
            have HA1 := Lib.hid (fun W hW => HA.out W hW (spI pi k) (spT pt es k) hs.1 hs.2)
            have HK := Lib.hid hk
            have HLT := Lib.hid hlt
            generalize hSI : spI pi k = SI at *
            generalize hST : spT pt es k = ST at *
            clear hb hk hg9 hgl hs
            have j64 : wrap64 ((k : Int) + 1) = (k : Int) + 1 := by clear l0 k0; rw [wrap64_e]; have := HM.out; have := HLT.out; omega
            have J64 := Lib.hid j64
            clear j64
            by_cases hk1 : k = 0
            · subst hk1
              go_wp2
              go_roundw
              case rel => exact ⟨1, by have := HLT.out; omega, by rfl, fun j h1 h2 => absurd h2 (by omega), B31'.out, SO1.out, HB1'.out⟩
              case measure => simp [intOf]
            · have hkp : ((0 : Int) < (k : Int)) := by omega
              by_cases hle : SI ≤ l.bi
              · have hnl : ¬ (l.bi < SI) := by omega
                have hdl : decide (l.bi < SI) = false := decide_eq_false hnl
                have hm1 : met1 l SI ST = true := by unfold met1; simp [hle]
                go_wp2
                go_roundw
                case rel => exact ⟨k + 1, by have := HLT.out; omega, (by first | (rw [J64.out]; rfl) | go_num), fun j h1 h2 => (by
                  rcases Nat.lt_or_ge j k with h3 | h3
                  · exact HMT.out j h1 h3
                  · obtain rfl : j = k := by omega
                    rw [hSI, hST]; exact hm1), B31'.out, SO1.out, HB1'.out⟩
                case measure => (try rw [J64.out]); simp [intOf]; omega
              · have hnl : l.bi < SI := by omega
                have hdl : decide (l.bi < SI) = true := decide_eq_true hnl
                cases hha : rHas l SI ST with
                | true =>
                  rw [hha] at HA1
                  have hm1 : met1 l SI ST = true := by unfold met1; rw [hha]; simp
                  clear hha
                  go_wp2_with fail
                  clear x0 x1 x2 s0 s1 pl
                  refine (HA1.out _ HB1'.out).mono ?_
                  rintro e v2 ⟨rfl, hb⟩
                  have B32' := Lib.hid (B31'.out.below hb B31'.out.lt)
                  have SO2 := Lib.hid (So.below SO1.out hb)
                  have HB2' := Lib.hid (HB1'.out.trans (hb.mono HB1'.out.size))
                  clear hb
                  go_wp2
                  go_roundw
                  case rel => exact ⟨k + 1, by have := HLT.out; omega, (by first | (rw [J64.out]; rfl) | go_num), fun j h1 h2 => (by
                    rcases Nat.lt_or_ge j k with h3 | h3
                    · exact HMT.out j h1 h3
                    · obtain rfl : j = k := by omega
                      rw [hSI, hST]; exact hm1), B32'.out, SO2.out, HB2'.out⟩
                  case measure => (try rw [J64.out]); simp [intOf]; omega
                | false =>
                  rw [hha] at HA1
                  have hm1 : met1 l SI ST = false := by unfold met1; rw [hha]; simp; omega
                  clear hha
                  have hres : metN l pi es = k - 1 := metN_eq l es pi pt (k - 1) (by rw [HL.out]; have := HLT.out; omega) (fun j h1 h2 => HMT.out j h1 (by omega)) (Or.inr (by rw [show k - 1 + 1 = k by omega, hSI, hST]; exact hm1))
                  have hcast : (((k - 1 : Nat) : Int)) = (k : Int) - 1 := by omega
                  have s64 : wrap64 ((k : Int) - 1) = (k : Int) - 1 := by clear l0 k0 hcast; rw [wrap64_e]; have := HM.out; have := HLT.out; omega
                  have S64 := Lib.hid s64
                  have HRES := Lib.hid hres
                  have HCAST := Lib.hid hcast
                  clear s64 hres hcast
                  go_wp2_with fail
                  clear x0 x1 x2 s0 s1 pl
                  refine (HA1.out _ HB1'.out).mono ?_
                  rintro e v2 ⟨rfl, hb⟩
                  have HB2' := Lib.hid (HB1'.out.trans (hb.mono HB1'.out.size))
                  clear hb
                  go_wp2
                  exact bodyPost_ret (resultsTT (p := 6) (q := 7) rfl _ _ (.int .i64 ((metN l pi es : Nat) : Int)) (.int .i64 0) (show (.int .i64 (wrap64 ((k : Int) - 1)) : Value) = .int .i64 ((metN l pi es : Nat) : Int) by rw [S64.out, HRES.out, HCAST.out]) rfl) rfl ⟨rfl, HB2'.out⟩
          · have l0 : ¬ ((k : Int) < (m : Int) + 1) := by omega
            have hkm : k = m + 1 := by omega
            have hres : metN l pi es = m := metN_eq l es pi pt m (by rw [HL.out]; exact Nat.le_refl _) (fun j h1 h2 => HMT.out j h1 (by omega)) (Or.inl HL.out.symm)
            have HRES := Lib.hid hres
            clear hres
            go_wp2
            exact bodyPost_ret (resultsTT (p := 6) (q := 7) rfl _ _ (.int .i64 ((metN l pi es : Nat) : Int)) (.int .i64 0) (show (.int .i64 (m : Int) : Value) = .int .i64 ((metN l pi es : Nat) : Int) by rw [HRES.out]) rfl) rfl ⟨rfl, HB0'.out⟩
      · have hg2 : decide (l.bi ≤ pi) = true := decide_eq_true hge
        have HA0 := Lib.hid (fun W hW => HA.out W hW pi pt HP.out.1 HP.out.2)
        cases hha : rHas l pi pt with
        | false =>
          rw [hha] at HA0
          have hE2 : RE = 4 := by rw [hE, hha, if_pos ⟨hge, rfl⟩]
          clear hE
          subst hE2
          clear hha hN
          go_enter Try.func15, Try.ntmps15
          go_wp2_with fail
          refine (BE.out _ HB1.out).mono ?_
          rintro e w2 ⟨rfl, hb⟩
          have B32 := Lib.hid (B31.out.below hb B31.out.lt)
          have B42 := Lib.hid (B41.out.below hb B41.out.lt)
          have HB2 := Lib.hid (HB1.out.trans (hb.mono HB1.out.size))
          clear hb
          have y0 := B42.out.cell 0
          have y1 := B42.out.cell 1
          have x0 := B32.out.cell 0
          have x1 := B32.out.cell 1
          have x2 := B32.out.cell 2
          go_wp2_with (first | (go_at_call 46; refine (RO.out _).mono ?_; rintro e w4 ⟨rfl, rfl⟩) | (go_at_call 36; refine unheld ?_))
          unfold Held
          clear x0 x1 x2 y0 y1
          refine (HA0.out _ HB2.out).mono ?_
          rintro e w3 ⟨rfl, hb⟩
          have B33 := Lib.hid (B32.out.below hb B32.out.lt)
          have B43 := Lib.hid (B42.out.below hb B42.out.lt)
          have HB3 := Lib.hid (HB2.out.trans (hb.mono HB2.out.size))
          clear hb
          go_wp2
          exact bodyPost_ret (resultsTT (p := 6) (q := 7) rfl _ _ _ _ rfl rfl) rfl ⟨rfl, HB3.out⟩
        | true =>
          rw [hha] at HA0
          have hE2 : RE = 0 := by rw [hE, hha, if_neg (by simp)]
          clear hE
          subst hE2
          clear hha
          rw [if_pos rfl]
          go_enter Try.func15, Try.ntmps15
          go_wp2_with fail
          refine (BE.out _ HB1.out).mono ?_
          rintro e w2 ⟨rfl, hb⟩
          have B32 := Lib.hid (B31.out.below hb B31.out.lt)
          have B42 := Lib.hid (B41.out.below hb B41.out.lt)
          have HB2 := Lib.hid (HB1.out.trans (hb.mono HB1.out.size))
          clear hb
          have y0 := B42.out.cell 0
          have y1 := B42.out.cell 1
          have x0 := B32.out.cell 0
          have x1 := B32.out.cell 1
          have x2 := B32.out.cell 2
          go_wp2_with (first | (go_at_call 46; refine (RO.out _).mono ?_; rintro e w4 ⟨rfl, rfl⟩) | (go_at_call 36; refine unheld ?_))
          unfold Held
          clear x0 x1 x2 y0 y1
          refine (HA0.out _ HB2.out).mono ?_
          rintro e w3 ⟨rfl, hb⟩
          have B33 := Lib.hid (B32.out.below hb B32.out.lt)
          have B43 := Lib.hid (B42.out.below hb B42.out.lt)
          have HB3 := Lib.hid (HB2.out.trans (hb.mono HB2.out.size))
          clear hb
          have q0 := B43.out.cell 0
          have q1 := B43.out.cell 1
          go_wp2_with fail
          clear q0 q1 hg2 hge HA0
          refine (SP.out w3 HB3.out).mono ?_
          rintro e w9 ⟨A9, c9, rfl, ho, hb⟩
          have SO9 := Lib.hid (So.down ho HB3.out.size)
          clear ho
          have B39 := Lib.hid (B33.out.below hb B33.out.lt)
          have B49 := Lib.hid (B43.out.below hb B43.out.lt)
          have HB9 := Lib.hid (HB3.out.trans (hb.mono HB3.out.size))
          clear hb
          go_wp2_with fail
          go_loopw [39] (fun ix W => ∃ k : Nat, k ≤ m + 1 ∧ ix = .int .i64 k ∧ (∀ j, 1 ≤ j → j < k → met1 l (spI pi j) (spT pt es j) = true) ∧ Blk W w.heap.size 27 #[.int .u64 l.bi, .int .u64 l.bt, .slice A n c] ∧ So W w.heap.size A9 (m + 1) c9 pi pt es ∧ Below w.heap.size w W) (fun ix _ => m + 1 - (intOf ix).toNat)
          case atStart => exact ⟨0, Nat.zero_le _, rfl, fun j h1 h2 => absurd h2 (by omega), B39.out, SO9.out, HB9.out⟩
          case round =>
            obtain ⟨k, hk, rfl, hmet, b3', so', h0'⟩ := hrel
            have B30 := Lib.hid b3'
            have SO0 := Lib.hid so'
            have HB0' := Lib.hid h0'
            have HMT := Lib.hid hmet
            clear b3' so' h0' hmet
            by_cases hlt : k < m + 1
            · obtain ⟨g9, rfl, hg9, hgl, s0, s1⟩ := SO0.out.at_ hlt
              have l0 : ((k : Int) < (m : Int) + 1) := by omega
              have k0 : (0 : Int) ≤ (k : Int) := by omega
              have hb : Below wr.heap.size wr (wr.alloc (.cells #[.int .u64 (spI pi k), .int .u64 (spT pt es k)] 24)) := (Below.refl _ _).alloc (Nat.le_refl _) _
              have B31' := Lib.hid (B30.out.below hb B30.out.lt)
              have SO1 := Lib.hid (So.below SO0.out hb)
              have HB1' := Lib.hid (HB0'.out.trans (hb.mono HB0'.out.size))
              have pl := B30.out.lt
              have x0 := B30.out.cell 0
              have x1 := B30.out.cell 1
              have x2 := B30.out.cell 2
              have hs := spI_lt pi k
              have HA1 := Lib.hid (fun W hW => HA.out W hW (spI pi k) (spT pt es k) hs.1 hs.2)
              have HK := Lib.hid hk
              have HLT := Lib.hid hlt
              generalize hSI : spI pi k = SI at *
              generalize hST : spT pt es k = ST at *
              clear hb hk hg9 hgl hs
              have j64 : wrap64 ((k : Int) + 1) = (k : Int) + 1 := by clear l0 k0; rw [wrap64_e]; have := HM.out; have := HLT.out; omega
              have J64 := Lib.hid j64
              clear j64
              by_cases hk1 : k = 0
              · subst hk1
                go_wp2
                go_roundw
                case rel => exact ⟨1, by have := HLT.out; omega, by rfl, fun j h1 h2 => absurd h2 (by omega), B31'.out, SO1.out, HB1'.out⟩
                case measure => simp [intOf]
              · have hkp : ((0 : Int) < (k : Int)) := by omega
                by_cases hle : SI ≤ l.bi
                · have hnl : ¬ (l.bi < SI) := by omega
                  have hdl : decide (l.bi < SI) = false := decide_eq_false hnl
                  have hm1 : met1 l SI ST = true := by unfold met1; simp [hle]
                  go_wp2
                  go_roundw
                  case rel => exact ⟨k + 1, by have := HLT.out; omega, (by first | (rw [J64.out]; rfl) | go_num), fun j h1 h2 => (by
                    rcases Nat.lt_or_ge j k with h3 | h3
                    · exact HMT.out j h1 h3
                    · obtain rfl : j = k := by omega
                      rw [hSI, hST]; exact hm1), B31'.out, SO1.out, HB1'.out⟩
                  case measure => (try rw [J64.out]); simp [intOf]; omega
                · have hnl : l.bi < SI := by omega
                  have hdl : decide (l.bi < SI) = true := decide_eq_true hnl
                  cases hha : rHas l SI ST with
                  | true =>
                    rw [hha] at HA1
                    have hm1 : met1 l SI ST = true := by unfold met1; rw [hha]; simp
                    clear hha
                    go_wp2_with fail
                    clear x0 x1 x2 s0 s1 pl
                    refine (HA1.out _ HB1'.out).mono ?_
                    rintro e v2 ⟨rfl, hb⟩
                    have B32' := Lib.hid (B31'.out.below hb B31'.out.lt)
                    have SO2 := Lib.hid (So.below SO1.out hb)
                    have HB2' := Lib.hid (HB1'.out.trans (hb.mono HB1'.out.size))
                    clear hb
                    go_wp2
                    go_roundw
                    case rel => exact ⟨k + 1, by have := HLT.out; omega, (by first | (rw [J64.out]; rfl) | go_num), fun j h1 h2 => (by
                      rcases Nat.lt_or_ge j k with h3 | h3
                      · exact HMT.out j h1 h3
                      · obtain rfl : j = k := by omega
                        rw [hSI, hST]; exact hm1), B32'.out, SO2.out, HB2'.out⟩
                    case measure => (try rw [J64.out]); simp [intOf]; omega
                  | false =>
                    rw [hha] at HA1
                    have hm1 : met1 l SI ST = false := by unfold met1; rw [hha]; simp; omega
                    clear hha
                    have hres : metN l pi es = k - 1 := metN_eq l es pi pt (k - 1) (by rw [HL.out]; have := HLT.out; omega) (fun j h1 h2 => HMT.out j h1 (by omega)) (Or.inr (by rw [show k - 1 + 1 = k by omega, hSI, hST]; exact hm1))
                    have hcast : (((k - 1 : Nat) : Int)) = (k : Int) - 1 := by omega
                    have s64 : wrap64 ((k : Int) - 1) = (k : Int) - 1 := by clear l0 k0 hcast; rw [wrap64_e]; have := HM.out; have := HLT.out; omega
                    have S64 := Lib.hid s64
                    have HRES := Lib.hid hres
                    have HCAST := Lib.hid hcast
                    clear s64 hres hcast
                    go_wp2_with fail
                    clear x0 x1 x2 s0 s1 pl
                    refine (HA1.out _ HB1'.out).mono ?_
                    rintro e v2 ⟨rfl, hb⟩
                    have HB2' := Lib.hid (HB1'.out.trans (hb.mono HB1'.out.size))
                    clear hb
                    go_wp2
                    exact bodyPost_ret (resultsTT (p := 6) (q := 7) rfl _ _ (.int .i64 ((metN l pi es : Nat) : Int)) (.int .i64 0) (show (.int .i64 (wrap64 ((k : Int) - 1)) : Value) = .int .i64 ((metN l pi es : Nat) : Int) by rw [S64.out, HRES.out, HCAST.out]) rfl) rfl ⟨rfl, HB2'.out⟩
            · have l0 : ¬ ((k : Int) < (m : Int) + 1) := by omega
              have hkm : k = m + 1 := by omega
              have hres : metN l pi es = m := metN_eq l es pi pt m (by rw [HL.out]; exact Nat.le_refl _) (fun j h1 h2 => HMT.out j h1 (by omega)) (Or.inl HL.out.symm)
              have HRES := Lib.hid hres
              clear hres
              go_wp2
              exact bodyPost_ret (resultsTT (p := 6) (q := 7) rfl _ _ (.int .i64 ((metN l pi es : Nat) : Int)) (.int .i64 0) (show (.int .i64 (m : Int) : Value) = .int .i64 ((metN l pi es : Nat) : Int) by rw [HRES.out]) rfl) rfl ⟨rfl, HB0'.out⟩

end Go.Proofs.Ytmgaihdepglahaa
