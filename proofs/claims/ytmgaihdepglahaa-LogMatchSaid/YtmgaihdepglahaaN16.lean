/-
  Two logs with one Base that agree: the law's own matches.
-/
import Derived.Test.YtmgaihdepglahaaQG
import Derived.Test.YtmgaihdepglahaaN9
import Derived.Test.YtmgaihdepglahaaBys
namespace Go.Proofs.Ytmgaihdepglahaa
open Go.RowKit

theorem from_one {b : Lg} (hr : right b = true) (h0 : 0 ≤ b.bi) {j : Nat} (hj : b.bi + j < 18446744073709551615) :
    (j < b.es.length → fromE b (b.bi + j + 1) 1 = 0 ∧ fromL b (b.bi + j + 1) 1 = [b.es.getD j e0]) ∧ (b.es.length ≤ j → fromE b (b.bi + j + 1) 1 = 0 → fromL b (b.bi + j + 1) 1 = []) := by
  have hs : subw (b.bi + j + 1) = b.bi + j := by unfold subw; omega
  have hsp := spot_at hr h0 (i := b.bi + j) (by omega) (by omega)
  have hE : fromE b (b.bi + j + 1) 1 = spotE b (b.bi + j) := by
    unfold fromE
    rw [hs]
    by_cases e : spotE b (b.bi + j) ≠ 0
    · rw [if_pos e]
    · rw [if_neg e, if_neg (by decide)]
      exact (Decidable.not_not.mp e).symm
  refine ⟨fun hlt => ?_, fun hge h => ?_⟩
  · have e0' := hsp.1.2 ⟨by omega, by omega⟩
    obtain ⟨s1, s2, s3⟩ := hsp.2 e0'
    have hN : spotN b (b.bi + j) = j := by omega
    refine ⟨by rw [hE]; exact e0', ?_⟩
    obtain ⟨_, _, c⟩ := from_ok (l := b) (i := b.bi + j + 1) (n := 1) (by rw [hE]; exact e0')
    rw [c, hs, hN, drop_en _ _ hlt]
    rfl
  · obtain ⟨_, _, c⟩ := from_ok (l := b) (i := b.bi + j + 1) (n := 1) h
    rw [hE] at h
    obtain ⟨s1, s2, s3⟩ := hsp.2 h
    have hN : spotN b (b.bi + j) = j := by omega
    rw [c, hs, hN, List.drop_of_length_le hge]
    rfl

set_option linter.unusedSimpArgs false in
set_option maxRecDepth 100000 in
set_option maxHeartbeats 8000000 in
theorem matches_any (a b : Lg) (A A' : Option Addr) (n c m c' : Nat) (w : World) (h : Lr w w.heap.size A n c a) (h' : Lr w w.heap.size A' m c' b) (ha : right a = true) (hb : right b = true) (hbi : b.bi = a.bi) (hag : Agree a.es b.es) :
    Calls Try.prog 44 #[.agg #[.int .u64 a.bi, .int .u64 a.bt, .slice A n c], .agg #[.int .u64 b.bi, .int .u64 b.bt, .slice A' m c']] w fun e w' => e = .returned (.bool true) ∧ Below w.heap.size w w' := by
  obtain ⟨p, hp⟩ : ∃ p, w.heap.size = p := ⟨_, rfl⟩
  have FR := Lib.hid (fun W (hW : Below w.heap.size w W) => From_any b A' m c' w.heap.size W (h'.below hW) hW.size)
  have hpr := (right_parts ha).2.2.2
  have hn16 := (right_parts ha).2.1
  have HLa := Lib.hid h.len
  have HLb := Lib.hid h'.len
  rw [HLa.out] at hpr hn16
  have ONE := Lib.hid (fun (j : Nat) (hj : j < n) => from_one (j := j) hb h'.bi0 (by rw [hbi]; omega))
  have HA := Lib.hid (fun W (hW : Below w.heap.size w W) => (h.below hW).es)
  have h0 := h.bi0
  have hag' := Lib.hid hag
  rw [hbi] at ONE
  rw [HLb.out] at ONE
  obtain ⟨bi, bt, es⟩ := a
  obtain ⟨bi', bt', es'⟩ := b
  simp only at hbi FR hpr h0 HLa HLb ONE HA hag' ⊢
  subst hbi
  rw [hp] at FR HA
  rw [hp]
  have B2 := Lib.hid (show Blk ((w.alloc (.cells #[.int .u64 bi', .int .u64 bt, .slice A n c] 27)).alloc (.cells #[.int .u64 bi', .int .u64 bt', .slice A' m c'] 27)) p 27 #[.int .u64 bi', .int .u64 bt, .slice A n c] from hp ▸ (Blk.new w 27 _).alloc _)
  have B3 := Lib.hid (show Blk ((w.alloc (.cells #[.int .u64 bi', .int .u64 bt, .slice A n c] 27)).alloc (.cells #[.int .u64 bi', .int .u64 bt', .slice A' m c'] 27)) (p + 1) 27 #[.int .u64 bi', .int .u64 bt', .slice A' m c'] from Blk.fresh (by simp [hp]))
  have HB := Lib.hid (show Below p w ((w.alloc (.cells #[.int .u64 bi', .int .u64 bt, .slice A n c] 27)).alloc (.cells #[.int .u64 bi', .int .u64 bt', .slice A' m c'] 27)) from ((Below.refl _ _).alloc (Nat.le_of_eq hp.symm) _).alloc (by simp; omega) _)
  have HP := Lib.hid hp
  have HPR := Lib.hid hpr
  have H0 := Lib.hid h0
  have HN16 := Lib.hid hn16
  clear h h' ha hb hpr hag h0 hn16
  go_enter Try.func44, Try.ntmps44
  go_wp2
  go_loopw [5, 6] (fun sv kv wr => ∃ (k : Nat) (s : Bool), k ≤ n ∧ kv = .int .i64 k ∧ sv = .bool s ∧ (s = true → ∃ j, k ≤ j ∧ j < n ∧ j < m ∧ (es.getD j e0).t = (es'.getD j e0).t) ∧ Blk wr p 27 #[.int .u64 bi', .int .u64 bt, .slice A n c] ∧ Blk wr (p + 1) 27 #[.int .u64 bi', .int .u64 bt', .slice A' m c'] ∧ Below p w wr) (fun _ kv _ => (intOf kv).toNat)
  case atStart => exact ⟨n, false, Nat.le_refl _, rfl, rfl, (fun h => by cases h), B2.out, B3.out, HB.out⟩
  case round =>
    obtain ⟨k, s, hk, rfl, rfl, hs, b2, b3, hb⟩ := hrel
    clear B2 B3 HB
    cases k with
    | zero =>
      have HB := Lib.hid hb
      go_wp2
      go_ret
      exact ⟨rfl, HB.out⟩
    | succ j =>
      obtain ⟨K, hK⟩ : ∃ K : Int, ((j + 1 : Nat) : Int) = K := ⟨_, rfl⟩
      obtain ⟨ab, ao, x, rfl, hab, hx, hxo, hxc⟩ := (HA.out wr hb).at_ (show j < n by omega)
      obtain ⟨c0, c1, c2⟩ := rng3 hxc
      have hone := ONE.out j (by omega)
      obtain ⟨y0, y1, y2⟩ := (show wr.cell? ⟨p, 0, none⟩ = some (.int .u64 bi') ∧ wr.cell? ⟨p, 1, none⟩ = some (.int .u64 bt) ∧ wr.cell? ⟨p, 2, none⟩ = some (.slice (some ⟨ab, ao, none⟩) n c) from ⟨b2.cell 0, b2.cell 1, b2.cell 2⟩)
      obtain ⟨u0, u1, u2⟩ := (show wr.cell? ⟨p + 1, 0, none⟩ = some (.int .u64 bi') ∧ wr.cell? ⟨p + 1, 1, none⟩ = some (.int .u64 bt') ∧ wr.cell? ⟨p + 1, 2, none⟩ = some (.slice A' m c') from ⟨b3.cell 0, b3.cell 1, b3.cell 2⟩)
      have hz := b3.lt
      have K0 : decide (0 < K) = true := decide_eq_true (by omega)
      have K1 : wrap64 (K - 1) = (j : Int) := by rw [show K - 1 = (j : Int) by omega, w64 (by omega) (by have := HN16.out; omega)]
      have K2 : IntKind.i64.wrap (K - 1) = (j : Int) := by rw [IntKind.wrap_i64]; have := HN16.out; omega
      have K3 : (0 : Int) ≤ (j : Int) := by omega
      have K4 : (j : Int) < (n : Int) := by omega
      have K5 : IntKind.u64.wrap K = K := by rw [IntKind.wrap_u64]; have := HN16.out; omega
      have K6 : K % 18446744073709551616 = K := by have := HN16.out; omega
      have K7 : (bi' + K) % 18446744073709551616 = bi' + j + 1 := by have := HPR.out; have := H0.out; omega
      have K8 : IntKind.u64.wrap (bi' + K) = bi' + j + 1 := by rw [IntKind.wrap_u64]; exact K7
      have HK := Lib.hid (show j < n by omega)
      have HS := Lib.hid hs
      have HX := Lib.hid hxo
      have Hx := Lib.hid hx
      have HKK := Lib.hid hK
      have Hab := Lib.hid hab
      have hsz : p ≤ wr.heap.size := by have := hb.size; have := HP.out; omega
      have hb1 : Below wr.heap.size wr (wr.alloc (.cells x.cs.toArray 54)) := (Below.refl _ _).alloc (Nat.le_refl _) _
      have E2 := Lib.hid (b2.below hb1 b2.lt)
      have E3 := Lib.hid (b3.below hb1 b3.lt)
      have EB := Lib.hid (hb.trans (hb1.mono hsz))
      have E8 : Hid (Blk (wr.alloc (.cells x.cs.toArray 54)) wr.heap.size 54 x.cs.toArray) := Lib.hid (Blk.new _ _ _)
      have EX := Lib.hid ((hxo.below (hb1.mono hsz)))
      rw [hK]
      have hq1 := FR.out _ EB.out (bi' + j + 1) 1
      obtain ⟨xt, xk, xA, xn, xc, xd⟩ := x
      simp only [Ec.cs] at c0 c1 c2 E2 E3 EB E8 EX hq1 Hx
      have HF := Lib.hid hq1
      clear hs hxo hx hxc hb1 b2 b3 hb hab hK hq1 hsz HX
      go_wp2_with fail
      clear c0 c1 c2 y0 y1 y2 u0 u1 u2 hz K0 K1 K2 K5 K6 K7 K8
      generalize (wr.alloc (.cells #[.int .u64 xt, .int .i64 xk, .slice xA xn xc] 54)) = w1 at *
      generalize wr.heap.size = p8 at *
      refine HF.out.mono ?_
      rintro e w2 ⟨Af, nf, cf, rfl, ho, hb2⟩
      have F2 := Lib.hid (E2.out.below hb2 E2.out.lt)
      have F3 := Lib.hid (E3.out.below hb2 E3.out.lt)
      have F8 := Lib.hid (E8.out.below hb2 E8.out.lt)
      have FB := Lib.hid (EB.out.trans (hb2.mono (by have := EB.out.size; have := HP.out; omega)))
      have FX := Lib.hid (EX.out.below (hb2.mono (by have := EB.out.size; have := HP.out; omega)))
      have HO := Lib.hid ho
      clear HF hb2 ho E2 E3 E8 EB EX
      obtain ⟨c0, c1, c2⟩ := (show w2.cell? ⟨p8, 0, none⟩ = some (.int .u64 xt) ∧ w2.cell? ⟨p8, 1, none⟩ = some (.int .i64 xk) ∧ w2.cell? ⟨p8, 2, none⟩ = some (.slice xA xn xc) from ⟨F8.out.cell 0, F8.out.cell 1, F8.out.cell 2⟩)
      have u0 : w2.cell? ⟨p + 1, 0, none⟩ = some (.int .u64 bi') := F3.out.cell 0
      have z3 := F3.out.lt
      have z8 := F8.out.lt
      have G2 := Lib.hid (fun o => F2.out.alloc o)
      have G3 := Lib.hid (fun o => F3.out.alloc o)
      have GB := Lib.hid (fun o => FB.out.alloc (by have := FB.out.size; have := HP.out; omega) o)
      have KD : wrap64 (K - 1) = (j : Int) := by rw [show K - 1 = (j : Int) by have := HKK.out; omega, w64 (by omega) (by have := HN16.out; omega)]
      by_cases hlt : j < m
      · obtain ⟨o1, o2⟩ := hone.1 hlt
        rw [o2] at HO
        rw [o1]
        clear hone
        obtain rfl : nf = 1 := HO.out.len.symm
        obtain ⟨yb, yo, y, rfl, hyb, hy, hyo, hyc⟩ := HO.out.read.at_ (show 0 < 1 by omega)
        obtain ⟨d0, d1, d2⟩ := rng3 hyc
        rw [Nat.zero_mul, Nat.add_zero] at d0 d1 d2
        obtain ⟨yt, yk, yA, yn, yc, yd⟩ := y
        simp only at d0 d1 d2
        have HYB := hyo.by_
        simp only at HYB
        have hy : (⟨yt, yk, yd⟩ : En) = es'.getD j e0 := hy
        have HYE := Lib.hid hy
        have q1 := ((FX.out.by_.alloc (by have := FB.out.size; have := HP.out; omega) (.cells #[.int .u64 (fromI ⟨bi', bt', es'⟩ (bi' + j + 1) 1), .int .u64 (fromT ⟨bi', bt', es'⟩ (bi' + j + 1) 1)] 24)).alloc (by simp; have := FB.out.size; have := HP.out; omega) (.cells #[.int .u64 yt, .int .i64 yk, .slice yA yn yc] 54)).bytesIn.convert (P := Try.prog) FX.out.by_.1 xc 52 5 9 Try.underlying52 Try.underlying5 Try.underlying9
        have q2 := ((HYB.alloc (Nat.le_refl _) (.cells #[.int .u64 (fromI ⟨bi', bt', es'⟩ (bi' + j + 1) 1), .int .u64 (fromT ⟨bi', bt', es'⟩ (bi' + j + 1) 1)] 24)).alloc (by simp) (.cells #[.int .u64 yt, .int .i64 yk, .slice yA yn yc] 54)).bytesIn.convert (P := Try.prog) HYB.1 yc 52 5 9 Try.underlying52 Try.underlying5 Try.underlying9
        have AGR : Hid (∀ i, j ≤ i → i < n → i < m → (es.getD i e0).t = (es'.getD i e0).t → xt = yt ∧ xk = yk ∧ xd = yd) := Lib.hid (fun i h1 h2 h3 h4 => by
          have e := hag'.out i (by rw [HLa.out]; exact h2) (by rw [HLb.out]; exact h3) h4 j h1
          rw [← Hx.out, ← hy] at e
          injection e with e1 e2 e3
          exact ⟨e1, e2, e3⟩)
        simp only at q1 q2
        clear hy hyc hyo HYB o1 o2
        generalize fromI ⟨bi', bt', es'⟩ (bi' + j + 1) 1 = FI at *
        generalize fromT ⟨bi', bt', es'⟩ (bi' + j + 1) 1 = FT at *
        by_cases hsame : s = true ∨ xt = yt
        · obtain ⟨a1, a2, a3⟩ : xt = yt ∧ xk = yk ∧ xd = yd := by
            rcases hsame with e | e
            · obtain ⟨i, i1, i2, i3, i4⟩ := HS.out e
              exact AGR.out i (by omega) i2 i3 i4
            · refine AGR.out j (Nat.le_refl _) HK.out hlt ?_
              rw [← Hx.out, ← HYE.out]
              exact e
          have NS : Hid (∃ i, j ≤ i ∧ i < n ∧ i < m ∧ (es.getD i e0).t = (es'.getD i e0).t) := Lib.hid ⟨j, Nat.le_refl _, HK.out, hlt, by rw [← Hx.out, ← HYE.out]; exact a1⟩
          subst a1 a2 a3
          clear hsame AGR
          cases s with
          | true =>
            go_wp2
            go_roundw
            case rel => exact ⟨j, true, by have := HK.out; omega, (by first | (rw [KD]; rfl) | (rw [KD]) | go_num), rfl, fun _ => NS.out, (G2.out _).alloc _, (G3.out _).alloc _, (GB.out _).alloc (by simp; have := FB.out.size; have := HP.out; omega) _⟩
            case measure => (try rw [KD]); clear KD; have := HKK.out; simp [intOf]; omega
          | false =>
            go_wp2
            go_roundw
            case rel => exact ⟨j, true, by have := HK.out; omega, (by first | (rw [KD]; rfl) | (rw [KD]) | go_num), rfl, fun _ => NS.out, (G2.out _).alloc _, (G3.out _).alloc _, (GB.out _).alloc (by simp; have := FB.out.size; have := HP.out; omega) _⟩
            case measure => (try rw [KD]); clear KD; have := HKK.out; simp [intOf]; omega
        · have hs0 : s = false := by cases s <;> simp_all
          subst hs0
          have hne : (xt == yt) = false := by simp; exact fun e => hsame (.inr e)
          clear hsame AGR q1 q2
          go_wp2
          go_roundw
          case rel => exact ⟨j, false, by have := HK.out; omega, (by first | (rw [KD]; rfl) | (rw [KD]) | go_num), rfl, (fun h => by cases h), (G2.out _).alloc _, (G3.out _).alloc _, (GB.out _).alloc (by simp; have := FB.out.size; have := HP.out; omega) _⟩
          case measure => (try rw [KD]); clear KD; have := HKK.out; simp [intOf]; omega
      · have hs0 : s = false := by
          cases s with
          | false => rfl
          | true =>
            obtain ⟨i, i1, i2, i3, i4⟩ := HS.out rfl
            omega
        subst hs0
        generalize hFE : fromE ⟨bi', bt', es'⟩ (bi' + j + 1) 1 = FE at *
        by_cases hE : FE = 0
        · subst hE
          rw [hone.2 (by omega) rfl] at HO
          obtain rfl : nf = 0 := HO.out.len.symm
          clear hone hFE
          go_wp2
          go_roundw
          case rel => exact ⟨j, false, by have := HK.out; omega, (by first | (rw [KD]; rfl) | (rw [KD]) | go_num), rfl, (fun h => by cases h), G2.out _, G3.out _, GB.out _⟩
          case measure => (try rw [KD]); clear KD; have := HKK.out; simp [intOf]; omega
        · have hE' : (FE != 0) = true := by simp [hE]
          have hE2 : (FE == 0) = false := by simp [hE]
          clear hone hFE hE
          go_wp2
          go_roundw
          case rel => exact ⟨j, false, by have := HK.out; omega, (by first | (rw [KD]; rfl) | (rw [KD]) | go_num), rfl, (fun h => by cases h), G2.out _, G3.out _, GB.out _⟩
          case measure => (try rw [KD]); clear KD; have := HKK.out; simp [intOf]; omega

end Go.Proofs.Ytmgaihdepglahaa
