/-
  The law DiskSynced, walked.
-/
import Derived.Test.YthhpaejeplninaaFa
import Derived.Test.YthhpaejeplninaaRp
namespace Go.Proofs.Ythhpaejeplninaa
open Go.RowKit
attribute [local go_sem ↓] Try.z53 Try.z39

/-- What lies in memory on the way. -/
structure Fy (w0 : World) (base p gs : Nat) (S : DSt) (wr : World) : Prop where
  dk : Dk wr base p gs S
  below : Below w0.heap.size w0 wr
  lt : w0.heap.size ≤ base
  le : base ≤ wr.heap.size
section
variable {w0 wr wr' : World} {base p gs : Nat} {S S' : DSt}
theorem Fy.fr (h : Fy w0 base p gs S wr) (hd : Dk wr' base p gs S') (hf : Fr base p gs wr wr') : Fy w0 base p gs S' wr' := by
  have hb := hf.below h.le
  exact ⟨hd, h.below.trans (hb.mono h.lt), h.lt, Nat.le_trans h.le hb.size⟩
theorem Fy.low (h : Fy w0 base p gs S wr) (hb : Below wr.heap.size wr wr') : Fy w0 base p gs S wr' :=
  ⟨h.dk.below hb, h.below.trans (hb.mono h.below.size), h.lt, Nat.le_trans h.le hb.size⟩
theorem Fy.alloc (h : Fy w0 base p gs S wr) (o : Obj) : Fy w0 base p gs S (wr.alloc o) := h.low ((Below.refl _ wr).alloc (Nat.le_refl _) o)
end

/-- A disk with power that fails nothing. -/
def calm (S : DSt) : DSt := { S with armed := -1, doomed := -1 }
theorem calm_of {S : DSt} (h : S.dead = false) : failSt (armSt S (-1)) (-1) = calm S := by
  unfold failSt armSt
  rw [h]
  simp [atl, calm, h]
theorem all_done {n k : Nat} (hk : k < n) : dn n (List.replicate n true) k = true := by
  have : kept (List.replicate n true) k = true := by simp [kept, List.getD, hk]
  unfold dn
  rw [this]
  rfl
theorem calm_err {S : DSt} (h : S.dead = false) (hh : S.has.length = 9) : askErr (calm S) true 0 = 0 := by simp [askErr, calm, h, hh]
theorem calm_sync {S : DSt} (h : S.dead = false) (hh : S.has.length = 9) : (syncSt (calm S)).q = [] ∧ (syncSt (calm S)).has = (crashed (calm S) (List.replicate S.q.length true)).has := by
  unfold syncSt
  rw [if_pos (calm_err h hh)]
  refine ⟨rfl, ?_⟩
  show doN (fun _ => true) (askSt (calm S) true 0).q (askSt (calm S) true 0).has (askSt (calm S) true 0).q.length = doN (dn S.q.length (List.replicate S.q.length true)) S.q S.has S.q.length
  rw [askSt_q, askSt_has]
  exact (doN_congr _ _ _ fun k hk => all_done hk).symm
theorem crashed_none {S : DSt} (h : S.q = []) (ks : List Bool) : (crashed S ks).has = S.has := by
  unfold crashed
  simp only [h]
  rfl

theorem Bs.take {w : World} {B : Nat} {A : Option Addr} {ks : List Bool} (h : Bs w B A ks) (m : Nat) : Bs w B A (ks.take m) := fun hn => by
  have hl := List.length_take_le' m ks
  obtain ⟨b, o, hA, hb, hc⟩ := h (by omega)
  refine ⟨b, o, hA, hb, fun j hj => ?_⟩
  rw [hc j (by omega)]
  have hj' : j < m := by rw [List.length_take] at hj; omega
  simp [List.getD, hj']

set_option maxRecDepth 100000 in
set_option maxHeartbeats 8000000 in
theorem synced_walk (Al : Option Addr) (nl cl : Nat) (A : Option Addr) (c : Nat) (ks : List Bool) (w : World) (hAl : Asks w w.heap.size Al nl) (hnl : nl ≤ 9223372036854775807) (hk : Bs w w.heap.size A ks) (hkc : ks.length ≤ c) (hc : c ≤ 9223372036854775807) :
    Calls Try.prog 7 #[.slice Al nl cl, .slice A ks.length c] w fun e w' => e = .returned (.bool true) ∧ Below w.heap.size w w' := by
  have HBS := Lib.hid hk
  have HAL := Lib.hid hAl
  clear hk hAl
  go_enter Try.func7, Try.ntmps7
  go_wp2_with fail
  refine (wakes_any w).mono ?_
  rintro e w1 ⟨rfl, hB1⟩
  have has := asked_any Al nl cl w1 ((HAL.out.below hB1).more hB1.size) hnl
  have HAS := Lib.hid has
  have HB1 := Lib.hid hB1
  clear has hB1
  go_wp2_with fail
  refine HAS.out.mono ?_
  rintro e w2 ⟨p, gs, S, rfl, d2, hq2, hh2, hb2⟩
  have fy2 : Fy w w1.heap.size p gs S w2 := ⟨d2, HB1.out.trans (hb2.mono HB1.out.size), HB1.out.size, by have := hb2.size; omega⟩
  have HDE := Lib.hid (dead_any d2)
  have FY2 := Lib.hid fy2
  clear HAS HB1 hb2 d2 fy2
  generalize w1.heap.size = base at *
  go_wp2_with fail
  refine HDE.out.mono ?_
  rintro e w' ⟨rfl, rfl⟩
  clear HDE
  by_cases hdead : S.dead = true
  · rw [hdead]
    have HB := Lib.hid FY2.out.below
    clear FY2
    go_wp2_with fail
    go_ret
    exact ⟨rfl, HB.out⟩
  · have hde : S.dead = false := by simpa using hdead
    clear hdead
    rw [hde]
    have har := armD (-1) w2 base p gs S FY2.out.dk (by omega)
    unfold Setd at har
    rw [show setErr S = 0 by unfold setErr; rw [hde]; simp] at har
    have HAR := Lib.hid har
    clear har
    go_wp2_with fail
    refine HAR.out.mono ?_
    rintro e w3 ⟨rfl, d3, f3⟩
    have fy3 := FY2.out.fr d3 f3
    have hfa := failD (-1) w3 base p gs _ fy3.dk (by omega)
    unfold Setd at hfa
    rw [show setErr (armSt S (-1)) = 0 by unfold setErr armSt; rw [hde]; simp, calm_of hde] at hfa
    have HFA := Lib.hid hfa
    have FY3 := Lib.hid fy3
    clear hfa HAR FY2 d3 f3 fy3
    go_wp2_with fail
    refine HFA.out.mono ?_
    rintro e w4 ⟨rfl, d4, f4⟩
    have fy4 := FY3.out.fr d4 f4
    have hq4 : (calm S).q.length ≤ 70 := hq2
    have hh4 : (calm S).has.length = 9 := hh2
    have hsy4 := calm_sync hde hh2
    have her4 := calm_err hde hh2
    rw [show S.q.length = (calm S).q.length from rfl] at hsy4
    have HSY4 := Lib.hid hsy4
    have HER4 := Lib.hid her4
    clear HFA FY3 d4 f4 hq2 hh2 hsy4 her4
    generalize calm S = S4 at *
    have HPE := Lib.hid (pending_any fy4.dk (by omega))
    have FY4 := Lib.hid fy4
    clear fy4
    go_wp2_with fail
    refine HPE.out.mono ?_
    rintro e w5 ⟨rfl, -, hb5⟩
    have fy5 := FY4.out.low hb5
    have HYE := Lib.hid (yes_any S4.q.length hq4 w5)
    have FY5 := Lib.hid fy5
    clear HPE FY4 hb5 fy5
    obtain ⟨nq, hnq⟩ : ∃ nq, nq = S4.q.length := ⟨_, rfl⟩
    rw [← hnq] at HYE HSY4 hq4 ⊢
    have HNQ := Lib.hid hnq
    clear hnq
    go_wp2_with fail
    refine HYE.out.mono ?_
    rintro e w6 ⟨g6, rfl, hbs6, hb6⟩
    have fy6 := FY5.out.low hb6
    have hvw := view_any (some ⟨g6, 0, none⟩) nq (List.replicate nq true) w6 base p gs S4 fy6.dk (by rw [← HNQ.out]; omega) hh4 hbs6 (by simp; omega)
    rw [List.length_replicate] at hvw
    have hC : ∀ b ∈ (crashed S4 (List.replicate nq true)).has, B64 b := (crashed_ok fy6.dk.ok _).has
    have hCl : (crashed S4 (List.replicate nq true)).has.length = 9 := by rw [crashed_len, hh4]
    have hsy := HSY4.out
    obtain ⟨C, hCe⟩ : ∃ C, C = (crashed S4 (List.replicate nq true)).has := ⟨_, rfl⟩
    rw [← hCe] at hvw hC hCl hsy
    have HOK := Lib.hid hC
    have HVW := Lib.hid hvw
    have FY6 := Lib.hid fy6
    have HSQ := Lib.hid hsy.1
    have HSH := Lib.hid hsy.2
    clear hCe hC hvw fy6 hsy HSY4 HYE hbs6 hb6 FY5
    go_wp2_with fail
    refine HVW.out.mono ?_
    rintro e w7 ⟨rfl, hb7⟩
    have fy7 := (FY6.out.low hb7).alloc (.cells C.flatten.toArray 53)
    have hsz : C.flatten.length = 576 := by rw [Parts.len (k := 64) (fun b hb => (HOK.out b hb).1), hCl]
    have i53 := Lib.hid (show (Try.prog.info? 53).map (·.size) = some C.flatten.length by rw [hsz]; exact Try.i53)
    have z53 := Lib.hid (show Z9.toArray.size = C.flatten.length by rw [hsz]; simp [Z9])
    have o53 : Hid (∀ v ∈ C.flatten, v.oneCell' = true) := fun v hv => by
      obtain ⟨b, hb, hv⟩ := List.mem_flatten.1 hv
      exact (HOK.out b hb).one v hv
    have was7 := Lib.hid (Blk.new w7 53 C.flatten.toArray)
    have hgp : Hid (w7.heap.size ≠ p ∧ w7.heap.size ≠ gs) := by
      have h1 := (FY6.out.low hb7).dk.lt
      have h2 := (FY6.out.low hb7).dk.gs_lt
      exact ⟨by omega, by omega⟩
    have hHu : U8s 576 C.flatten.toArray := by
      intro i hi
      have hi' : i < C.flatten.length := by omega
      have hmem := List.getElem_mem hi'
      obtain ⟨b, hb, hv⟩ := List.mem_flatten.1 hmem
      obtain ⟨z, hz⟩ := (HOK.out b hb).2 _ hv
      exact ⟨z, by rw [List.getElem?_toArray, List.getElem?_eq_getElem hi', hz]⟩
    have HEQ := fun w : World => eq53 w C.flatten.toArray hHu
    have hsy := sync_any _ base p gs S4 fy7.dk (by rw [← HNQ.out]; omega)
    rw [HER4.out] at hsy
    have HSY := Lib.hid hsy
    have FY7 := Lib.hid fy7
    clear HVW FY6 hb7 fy7 hsy hHu HER4
    go_wp2_with ((with_reducible refine at_store (t := 53) ?_); refine wpList_store_new w7 rfl 53 _ _ rfl _ _ _ C.flatten rfl rfl rfl z53.out i53.out o53.out ?_)
    refine HSY.out.mono ?_
    rintro e w8 ⟨rfl, d8, f8⟩
    have fy8 := FY7.out.fr d8 f8
    have was8 := was7.out.fr f8 hgp.out.1 hgp.out.2 (by decide)
    have hhl : (syncSt S4).has.length = 9 := by rw [HSH.out, hCl]
    have hpe := pending_any fy8.dk (by rw [HSQ.out]; simp)
    rw [HSQ.out] at hpe
    have HPE := Lib.hid hpe
    have FY8 := Lib.hid fy8
    have WAS8 := Lib.hid was8
    clear HSY FY7 was7 d8 f8 fy8 was8 hpe hgp
    generalize syncSt S4 = S8 at *
    generalize w7.heap.size = g6' at *
    go_wp2_with fail
    refine HPE.out.mono ?_
    rintro e w9 ⟨rfl, -, hb9⟩
    have fy9 := FY8.out.low hb9
    have was9 := WAS8.out.below hb9 WAS8.out.lt
    have FY9 := Lib.hid fy9
    have WAS9 := Lib.hid was9
    clear HPE FY8 WAS8 hb9 fy9 was9
    by_cases h50 : 50 < ks.length
    · have hvw := view_any A c (ks.take 50) w9 base p gs S8 FY9.out.dk (by rw [HSQ.out]; simp) hhl (((HBS.out.below FY9.out.below).more FY9.out.below.size).take 50) (by rw [List.length_take]; omega)
      rw [crashed_none HSQ.out, HSH.out, show (ks.take 50).length = 50 by rw [List.length_take]; omega] at hvw
      have HVW := Lib.hid hvw
      have h50' : (50 : Int) < ks.length := by omega
      clear hvw
      go_wp2_with fail
      refine HVW.out.mono ?_
      rintro e wa ⟨rfl, hba⟩
      have fya := Lib.hid (((FY9.out.low hba).alloc (.cells C.flatten.toArray 53)).below)
      have wasa := Lib.hid ((WAS9.out.below hba WAS9.out.lt).alloc (.cells C.flatten.toArray 53))
      have now := Lib.hid (Blk.new wa 53 C.flatten.toArray)
      clear HVW FY9 WAS9 hba
      go_wp2_with ((with_reducible refine at_store (t := 53) ?_); refine wpList_store_new wa rfl 53 _ _ rfl _ _ _ C.flatten rfl rfl rfl z53.out i53.out o53.out ?_)
      refine wp_load_mid 53 _ rfl wa.heap.size 0 rfl C.flatten _ now.out.rng Try.underlying53' rfl i53.out ?_
      go_wp2_with fail
      refine wp_load_mid 53 _ rfl g6' 0 rfl C.flatten _ wasa.out.rng Try.underlying53' rfl i53.out ?_
      go_wp2_with fail
      go_ret
      exact ⟨rfl, fya.out⟩
    · have hvw := view_any A c (ks) w9 base p gs S8 FY9.out.dk (by rw [HSQ.out]; simp) hhl ((HBS.out.below FY9.out.below).more FY9.out.below.size) (by omega)
      rw [crashed_none HSQ.out, HSH.out] at hvw
      have HVW := Lib.hid hvw
      have h50' : ¬ (50 : Int) < ks.length := by omega
      clear hvw
      go_wp2_with fail
      refine HVW.out.mono ?_
      rintro e wa ⟨rfl, hba⟩
      have fya := Lib.hid (((FY9.out.low hba).alloc (.cells C.flatten.toArray 53)).below)
      have wasa := Lib.hid ((WAS9.out.below hba WAS9.out.lt).alloc (.cells C.flatten.toArray 53))
      have now := Lib.hid (Blk.new wa 53 C.flatten.toArray)
      clear HVW FY9 WAS9 hba
      go_wp2_with ((with_reducible refine at_store (t := 53) ?_); refine wpList_store_new wa rfl 53 _ _ rfl _ _ _ C.flatten rfl rfl rfl z53.out i53.out o53.out ?_)
      refine wp_load_mid 53 _ rfl wa.heap.size 0 rfl C.flatten _ now.out.rng Try.underlying53' rfl i53.out ?_
      go_wp2_with fail
      refine wp_load_mid 53 _ rfl g6' 0 rfl C.flatten _ wasa.out.rng Try.underlying53' rfl i53.out ?_
      go_wp2_with fail
      go_ret
      exact ⟨rfl, fya.out⟩

end Go.Proofs.Ythhpaejeplninaa
