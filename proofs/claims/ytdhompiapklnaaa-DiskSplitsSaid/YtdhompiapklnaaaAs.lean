/-
  A disk of which all of a row was asked.
-/
import Derived.Test.YtdhompiapklnaaaO3
import Derived.Test.YtdhompiapklnaaaOpen
namespace Go.Proofs.Ytdhompiapklnaaa
open Go.RowKit

theorem Try.i37 : (Try.prog.info? 37).map (·.size) = some 4 := by kernel_rfl
theorem Try.z37 : ∀ w, (zeroValue 37).run Try.prog w = .ok (.agg #[.int .i64 0, .int .i64 0, .int .i64 0, .slice none 0 0]) w := (zero_of_info (n := 4) (by kernel_rfl)).1

/-- What asked leaves. -/
def Askd (w : World) (e : Ending) (w' : World) : Prop := ∃ p gs S, e = .returned (.pointer (some ⟨p, 0, none⟩)) ∧ Dk w' w.heap.size p gs S ∧ S.q.length ≤ 70 ∧ S.has.length = 9 ∧ Below w.heap.size w w'

set_option maxRecDepth 100000 in
set_option maxHeartbeats 4000000 in
theorem asked_any (A : Option Addr) (n c : Nat) (w : World) (h : Asks w w.heap.size A n) (hn : n ≤ 9223372036854775807) : Calls Try.prog 22 #[.slice A n c] w (Askd w) := by
  have hnew := new_any 9 w (by omega) (by omega)
  rw [show ((9 : Nat) : Int) = 9 from rfl] at hnew
  have HN := Lib.hid hnew
  have HA := Lib.hid h
  clear hnew h
  go_enter Try.func22, Try.ntmps22
  go_wp2_with fail
  refine HN.out.mono ?_
  rintro e w1 ⟨p, gs, rfl, d1, hB1⟩
  clear HN
  have st : ∃ S : DSt, Dk w1 w.heap.size p gs S ∧ S.q.length ≤ 0 ∧ S.has.length = 9 ∧ Below w.heap.size w w1 := ⟨made 9, d1, by simp [made], by simp [made], hB1⟩
  have ST := Lib.hid st
  clear st d1 hB1
  go_wp2_with fail
  go_loopw [15] (fun i wr => ∃ j : Nat, j ≤ n ∧ i = .int .i64 j ∧ ∃ S : DSt, Dk wr w.heap.size p gs S ∧ S.q.length ≤ min j 70 ∧ S.has.length = 9 ∧ Below w.heap.size w wr) (fun i _ => n - (intOf i).toNat)
  case atStart =>
    obtain ⟨S, h1, h2, h3, h4⟩ := ST.out
    exact ⟨0, Nat.zero_le _, rfl, S, h1, by omega, h3, h4⟩
  case round =>
    clear ST
    obtain ⟨j, hj, rfl, S, d1, hq1, hh1, hB1⟩ := hrel
    by_cases hlt : j < n
    · obtain ⟨b, o, rfl, hb, hc⟩ := (HA.out.below hB1) (by omega)
      obtain ⟨kd, at_, nn, Ak, nk, ck, hr, hnn, ks, rfl, hkl, hks⟩ := hc j hlt
      have hR := Lib.hid hr
      have i37 := Lib.hid (show (Try.prog.info? 37).map (·.size) = some [Value.int .i64 kd, .int .i64 at_, .int .i64 nn, .slice Ak ks.length ck].length from Try.i37)
      have o37 : Hid (∀ v ∈ [Value.int .i64 kd, .int .i64 at_, .int .i64 nn, .slice Ak ks.length ck], v.oneCell' = true) := show ∀ v ∈ _, _ by simp [Value.oneCell']
      have d2 := d1.alloc (.cells #[.int .i64 kd, .int .i64 at_, .int .i64 nn, .slice Ak ks.length ck] 37)
      have hB2 := hB1.alloc hB1.size (.cells #[.int .i64 kd, .int .i64 at_, .int .i64 nn, .slice Ak ks.length ck] 37)
      have D2 := Lib.hid d2
      have HB2 := Lib.hid hB2
      have HKS := Lib.hid hks
      have hB1s := hB1.size
      clear hr hc d1 d2 hB2
      have hlt' : decide (j < n) = true := by simpa using hlt
      by_cases h70 : j < 70
      · have hof := of_any kd at_ nn Ak ck ks _ w.heap.size p gs S D2.out (by omega) hnn ((HKS.out.below ((Below.refl _ wr).alloc hB1s (.cells #[.int .i64 kd, .int .i64 at_, .int .i64 nn, .slice Ak ks.length ck] 37))).more (by simp; omega)) hkl
        unfold askv at hof
        have HOF := Lib.hid hof
        have hl := ofS_len S kd at_ nn ks
        have hqq := ofS_q S kd at_ nn ks
        have HL := Lib.hid hl
        clear hof hl
        unfold Ofd at HOF
        generalize ofS S kd at_ nn ks = S2 at *
        generalize ofE S kd at_ = er at *
        generalize ofB S kd at_ = B at *
        have h70' : (j : Int) < 70 := by omega
        go_wp2_with (first
          | ((with_reducible refine at_load (t := 37) ?_); refine wpList_load_mid rfl 37 _ rfl b (o + j * 4) rfl _ _ hR.out Try.underlying37 rfl i37.out ?_)
          | ((with_reducible refine at_store (t := 37) ?_); refine wpList_store_new wr rfl 37 _ _ rfl _ _ _ [.int .i64 kd, .int .i64 at_, .int .i64 nn, .slice Ak ks.length ck] rfl rfl rfl rfl i37.out o37.out ?_))
        refine HOF.out.mono ?_
        rintro e w2 ⟨rfl, d3, f3⟩
        have hB3 := HB2.out.trans (f3.below HB2.out.size)
        go_wp2
        exact ⟨⟨j + 1, by omega, by go_num, S2, d3, by omega, HL.out.trans hh1, hB3⟩, by simp [intOf]; omega⟩
      · have h70' : ¬ (j : Int) < 70 := by omega
        go_wp2_with (first
          | ((with_reducible refine at_load (t := 37) ?_); refine wpList_load_mid rfl 37 _ rfl b (o + j * 4) rfl _ _ hR.out Try.underlying37 rfl i37.out ?_)
          | ((with_reducible refine at_store (t := 37) ?_); refine wpList_store_new wr rfl 37 _ _ rfl _ _ _ [.int .i64 kd, .int .i64 at_, .int .i64 nn, .slice Ak ks.length ck] rfl rfl rfl rfl i37.out o37.out ?_))
        exact ⟨⟨j + 1, by omega, by go_num, S, D2.out, by omega, hh1, HB2.out⟩, by simp [intOf]; omega⟩
    · have hjn : j = n := by omega
      go_wp2_with fail
      go_ret
      exact ⟨p, gs, S, rfl, d1, by omega, hh1, hB1⟩

end Go.Proofs.Ytdhompiapklnaaa
