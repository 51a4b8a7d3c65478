/-
  The law's said, whatever the Ask.
-/
import Derived.Test.YtdhompiapklnaaaEH
namespace Go.Proofs.Ytdhompiapklnaaa
open Go.RowKit

theorem said_any (kd at_ n : Int) (hnn : n ≤ 9223372036854775807) (A : Option Addr) (c : Nat) (ks : List Bool) (hl : ks.length ≤ 9223372036854775807)
    (Ah : Option Addr) (ch : Nat) (Aq : Option Addr) (cq : Nat) (S : DSt) (ok : S.ok) (hq : S.q.length < 1000000) (hn : S.has.length ≤ 1000000) (hn0 : 0 < S.has.length) (dm : Int) (w : World) (hd : S.dead = false → dm = S.doomed) (hk : Bs w w.heap.size A ks)
    (oh : Own w 0 39 64 (.slice Ah S.has.length ch) S.has) (oq : Own w 0 75 65 (.slice Aq S.q.length cq) (S.q.map put1)) (F : Nat → Prop) (hF : ∀ g, w.heap.size ≤ g → F g) (hA : ∀ g, Ah = some ⟨g, 0, none⟩ → F g) :
    Calls Try.prog 15 #[.agg (askv kd at_ n A ks.length c), .agg (rrow Ah S.has.length ch Aq S.q.length cq S.armed dm S.dead S.ops).toArray] w (RSaid F w (ofS S kd at_ n ks) (ofB S kd at_) (ofE S kd at_)) := by
  have HF := Lib.hid hF
  have HA := Lib.hid hA
  clear hF hA
  by_cases k0 : kd = 0
  · subst k0
    simp only [ofS, ofB, ofE, if_true, show ¬ ((0 : Int) = 4 ∨ (0 : Int) = 5) by omega, if_false]
    cases hdd : S.dead with
    | true =>
      have h := said0_dead at_ n A ks.length c Ah ch Aq cq S dm w hnn hdd hd oh oq F HF.out HA.out
      rw [hdd] at h
      exact h
    | false =>
      by_cases h0 : -1 ≤ n
      · have h := said0_ge at_ n A ks.length c Ah ch Aq cq S dm w hnn hdd h0 hd oh oq F HF.out HA.out
        rw [hdd] at h
        exact h
      · have h := said0_lt at_ n A ks.length c Ah ch Aq cq S dm w hnn hdd (by omega) hd oh oq F HF.out HA.out
        rw [hdd] at h
        exact h
  by_cases k1 : kd = 1
  · subst k1
    simp only [ofS, ofB, ofE, if_true, show ¬ ((1 : Int) = 4 ∨ (1 : Int) = 5) by omega, show ¬ ((1 : Int) = 0) by omega, if_false]
    cases hdd : S.dead with
    | true =>
      have h := said1_dead at_ n A ks.length c Ah ch Aq cq S dm w hnn hdd hd oh oq F HF.out HA.out
      rw [hdd] at h
      exact h
    | false =>
      by_cases h0 : -1 ≤ n
      · have h := said1_ge at_ n A ks.length c Ah ch Aq cq S dm w hnn hdd h0 hd oh oq F HF.out HA.out
        rw [hdd] at h
        exact h
      · have h := said1_lt at_ n A ks.length c Ah ch Aq cq S dm w hnn hdd (by omega) hd oh oq F HF.out HA.out
        rw [hdd] at h
        exact h
  by_cases k2 : kd = 2
  · subst k2
    have h := said2 at_ n A c ks hl Ah ch Aq cq S ok (by omega) hn hn0 dm w hk oh oq F HF.out HA.out
    simpa only [ofS, ofB, ofE, if_true, show ¬ ((2 : Int) = 4 ∨ (2 : Int) = 5) by omega, show ¬ ((2 : Int) = 0) by omega, show ¬ ((2 : Int) = 1) by omega, if_false] using h
  by_cases k3 : kd = 3
  · subst k3
    have h := said3 at_ n A ks.length c Ah ch Aq cq S ok (by omega) hn dm w hd oh oq F HF.out HA.out
    simpa only [ofS, ofB, ofE, if_true, show ¬ ((3 : Int) = 4 ∨ (3 : Int) = 5) by omega, show ¬ ((3 : Int) = 0) by omega, show ¬ ((3 : Int) = 1) by omega, show ¬ ((3 : Int) = 2) by omega, if_false] using h
  by_cases k4 : kd = 4
  · subst k4
    have h := said4 at_ n A ks.length c Ah ch Aq cq S ok (by omega) hn dm w hd oh oq F HF.out HA.out
    simpa only [ofS, ofB, ofE, if_true, true_or, show ¬ ((4 : Int) = 0) by omega, show ¬ ((4 : Int) = 1) by omega, show ¬ ((4 : Int) = 2) by omega, show ¬ ((4 : Int) = 3) by omega, if_false] using h
  by_cases k5 : kd = 5
  · subst k5
    have h := said5 at_ n A ks.length c Ah ch Aq cq S ok (by omega) hn dm w hd oh oq F HF.out HA.out
    simpa only [ofS, ofB, ofE, if_true, or_true, show ¬ ((5 : Int) = 0) by omega, show ¬ ((5 : Int) = 1) by omega, show ¬ ((5 : Int) = 2) by omega, show ¬ ((5 : Int) = 3) by omega, if_false] using h
  have h := said6 kd at_ n A ks.length c (beq_eq_false_iff_ne.2 k0) (beq_eq_false_iff_ne.2 k1) (beq_eq_false_iff_ne.2 k2) (beq_eq_false_iff_ne.2 k3) (beq_eq_false_iff_ne.2 k4) (beq_eq_false_iff_ne.2 k5) Ah ch Aq cq S ok hq hn dm w hd oh oq F HF.out HA.out
  simpa only [ofS, ofB, ofE, if_neg k0, if_neg k1, if_neg k2, if_neg k3, if_neg (show ¬ (kd = 4 ∨ kd = 5) from fun h => h.elim k4 k5)] using h

end Go.Proofs.Ytdhompiapklnaaa
