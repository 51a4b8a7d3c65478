/-
  Three logs that take from one another: plain facts. Two that have one spot have the same entries ahead of it.
-/
import Derived.Test.YtmgaihdepglahaaQN
import Derived.Test.YtmgaihdepglahaaQ2
namespace Go.Proofs.Ytmgaihdepglahaa

def Agree (x y : List En) : Prop := ∀ j, j < x.length → j < y.length → (x.getD j e0).t = (y.getD j e0).t → ∀ i, i ≤ j → x.getD i e0 = y.getD i e0
theorem Agree.refl (x : List En) : Agree x x := fun _ _ _ _ _ _ => rfl
theorem Agree.symm {x y : List En} (h : Agree x y) : Agree y x := fun j h1 h2 ht i hi => (h j h2 h1 ht.symm i hi).symm
theorem getD_take {x : List En} {r i : Nat} (h : i < r) : (x.take r).getD i e0 = x.getD i e0 := by simp [List.getD, h]
theorem getD_drop (x : List En) (c i : Nat) : (x.drop c).getD i e0 = x.getD (c + i) e0 := by simp [List.getD]
theorem Agree.take {y z : List En} (h : Agree y z) (r : Nat) : Agree (y.take r) z := fun j h1 h2 ht i hi => by
  have hj : j < r ∧ j < y.length := by rw [List.length_take] at h1; omega
  rw [getD_take hj.1] at ht
  rw [getD_take (by omega)]
  exact h j hj.2 h2 ht i hi
theorem Agree.drop {y z : List En} (h : Agree y z) (c : Nat) : Agree (y.drop c) (z.drop c) := fun j h1 h2 ht i hi => by
  rw [List.length_drop] at h1 h2
  rw [getD_drop, getD_drop] at ht ⊢
  exact h (c + j) (by omega) (by omega) ht (c + i) (by omega)
theorem Agree.app {x y : List En} {e : En} {m : Int} (h : Agree x y) (hy : ∀ u ∈ y, u.t ≤ m) (he : m < e.t) : Agree (x ++ [e]) y := fun j h1 h2 ht i hi => by
  have hl : ∀ i, i < x.length → (x ++ [e]).getD i e0 = x.getD i e0 := fun i hi => by simp [List.getD, List.getElem?_append_left hi]
  rw [List.length_append, List.length_singleton] at h1
  by_cases hj : j < x.length
  · rw [hl j hj] at ht
    rw [hl i (by omega)]
    exact h j hj h2 ht i hi
  · have hj : j = x.length := by omega
    subst hj
    have e1 : (x ++ [e]).getD x.length e0 = e := by simp [List.getD]
    rw [e1] at ht
    have e2 : y.getD x.length e0 = y[x.length] := by simp [List.getD, h2]
    have := hy y[x.length] (List.getElem_mem h2)
    rw [e2] at ht
    omega

def upd {α : Type} (f : Nat → α) (k : Nat) (x : α) : Nat → α := fun j => if j = k then x else f j
theorem upd_same {α : Type} (f : Nat → α) (k : Nat) (x : α) : upd f k x k = x := if_pos rfl
theorem upd_ne {α : Type} (f : Nat → α) {k j : Nat} (x : α) (h : j ≠ k) : upd f k x j = f j := if_neg h

/-- Three logs as they may come to be, by Terms up to m. -/
structure MI (m : Int) (L : Nat → Lg) : Prop where
  r : ∀ k, k < 3 → right (L k) = true
  bi0 : ∀ k, k < 3 → 0 ≤ (L k).bi
  bi1 : ∀ k, k < 3 → (L k).bi < 18446744073709551616
  bt0 : ∀ k, k < 3 → 0 ≤ (L k).bt
  bt1 : ∀ k, k < 3 → (L k).bt < 18446744073709551616
  base : ∀ k, k < 3 → (L k).bi = (L 0).bi ∧ (L k).bt = (L 0).bt
  agr : ∀ j k, j < 3 → k < 3 → Agree (L j).es (L k).es
  top : ∀ k, k < 3 → ∀ e ∈ (L k).es, 0 ≤ e.t ∧ e.t ≤ m
theorem MI.ok {m : Int} {L : Nat → Lg} (h : MI m L) {k : Nat} (hk : k < 3) : Lok (L k) := ⟨by have := (right_parts (h.r k hk)).2.1; omega, h.bi0 k hk, h.bi1 k hk, h.bt0 k hk, h.bt1 k hk⟩
theorem MI.mono {m m' : Int} {L : Nat → Lg} (h : MI m L) (hm : m ≤ m') : MI m' L := ⟨h.r, h.bi0, h.bi1, h.bt0, h.bt1, h.base, h.agr, fun k hk e he => ⟨(h.top k hk e he).1, Int.le_trans (h.top k hk e he).2 hm⟩⟩
theorem MI.congr {m : Int} {L L' : Nat → Lg} (h : MI m L) (e : ∀ k, k < 3 → L' k = L k) : MI m L' :=
  ⟨fun k hk => by rw [e k hk]; exact h.r k hk, fun k hk => by rw [e k hk]; exact h.bi0 k hk, fun k hk => by rw [e k hk]; exact h.bi1 k hk, fun k hk => by rw [e k hk]; exact h.bt0 k hk, fun k hk => by rw [e k hk]; exact h.bt1 k hk,
   fun k hk => by rw [e k hk, e 0 (by omega)]; exact h.base k hk, fun j k hj hk => by rw [e j hj, e k hk]; exact h.agr j k hj hk, fun k hk => by rw [e k hk]; exact h.top k hk⟩
theorem MI.start (m : Int) : MI m (fun _ => lg0) := ⟨fun _ _ => by decide, fun _ _ => by decide, fun _ _ => by decide, fun _ _ => by decide, fun _ _ => by decide, fun _ _ => ⟨rfl, rfl⟩, fun _ _ _ _ => Agree.refl _, fun _ _ e he => by cases he⟩
/-- One of them is another one. -/
theorem MI.put {m : Int} {L : Nat → Lg} (h : MI m L) {who : Nat} (hw : who < 3) {X : Lg} (hr : right X = true) (hbi : X.bi = (L who).bi) (hbt : X.bt = (L who).bt) (ha : ∀ k, k < 3 → k ≠ who → Agree X.es (L k).es) (ht : ∀ e ∈ X.es, 0 ≤ e.t ∧ e.t ≤ m) : MI m (upd L who X) := by
  have hbi' : ∀ k, k < 3 → (upd L who X k).bi = (L k).bi ∧ (upd L who X k).bt = (L k).bt := fun k hk => by
    by_cases e : k = who
    · subst e; rw [upd_same]; exact ⟨hbi, hbt⟩
    · rw [upd_ne _ _ e]; exact ⟨rfl, rfl⟩
  refine ⟨fun k hk => ?_, fun k hk => ?_, fun k hk => ?_, fun k hk => ?_, fun k hk => ?_, fun k hk => ?_, fun j k hj hk => ?_, fun k hk => ?_⟩
  · by_cases e : k = who
    · subst e; rw [upd_same]; exact hr
    · rw [upd_ne _ _ e]; exact h.r k hk
  · rw [(hbi' k hk).1]; exact h.bi0 k hk
  · rw [(hbi' k hk).1]; exact h.bi1 k hk
  · rw [(hbi' k hk).2]; exact h.bt0 k hk
  · rw [(hbi' k hk).2]; exact h.bt1 k hk
  · rw [(hbi' k hk).1, (hbi' k hk).2, (hbi' 0 (by omega)).1, (hbi' 0 (by omega)).2]; exact h.base k hk
  · by_cases e : j = who
    · subst e
      rw [upd_same]
      by_cases e2 : k = j
      · subst e2; rw [upd_same]; exact Agree.refl _
      · rw [upd_ne _ _ e2]; exact ha k hk e2
    · rw [upd_ne _ _ e]
      by_cases e2 : k = who
      · subst e2; rw [upd_same]; exact (ha j hj e).symm
      · rw [upd_ne _ _ e2]; exact h.agr j k hj hk
  · by_cases e : k = who
    · subst e; rw [upd_same]; exact ht
    · rw [upd_ne _ _ e]; exact h.top k hk
/-- One appends an entry of a new Term. -/
theorem MI.app {m : Int} {L : Nat → Lg} (h : MI m L) {who : Nat} (hw : who < 3) {e : En} (hm0 : 0 ≤ m) (he : e.t = m + 1) (hE : pExtE (L who) [e] = 0) : MI (m + 1) (upd L who (pExtL (L who) [e])) := by
  have hr := h.r who hw
  have hE' : rExtE (L who) [e] = 0 := by unfold pExtE at hE; rw [if_pos hr] at hE; exact hE
  obtain ⟨e1, e2, _⟩ := ext_right hr (h.bi0 who hw) hE'
  have eL : pExtL (L who) [e] = ⟨(L who).bi, (L who).bt, (L who).es ++ [e]⟩ := by unfold pExtL; rw [if_pos hE, e1]
  rw [eL]
  refine (h.mono (by omega)).put hw e2 rfl rfl (fun k hk _ => (h.agr who k hw hk).app (fun u hu => (h.top k hk u hu).2) (by omega)) (fun u hu => ?_)
  rcases List.mem_append.1 hu with hu | hu
  · have := h.top who hw u hu
    omega
  · rw [List.mem_singleton.1 hu]
    omega
theorem take_eq {x y : List En} {s : Nat} (hx : s ≤ x.length) (hy : s ≤ y.length) (h : ∀ i, i < s → x.getD i e0 = y.getD i e0) : x.take s = y.take s := by
  refine List.ext_getElem (by rw [List.length_take, List.length_take]; omega) (fun i h1 h2 => ?_)
  rw [List.length_take] at h1
  have := h i (by omega)
  simp [List.getD, show i < x.length by omega, show i < y.length by omega] at this
  simp [this]
/-- What a log is that takes from another one with the same Base. -/
theorem take_es {x y : Lg} (hx : right x = true) (hy : right y = true) (h0 : 0 ≤ x.bi) (hbi : y.bi = x.bi) (_hbt : y.bt = x.bt) (ha : Agree x.es y.es) {k q : Nat} (hk : k ≤ y.es.length) (hE : pTakeE x (y.bi + k) (y.T k) ((y.es.drop k).take q) = 0) :
    right (pTakeL x (y.bi + k) (y.T k) ((y.es.drop k).take q)) = true ∧ (pTakeL x (y.bi + k) (y.T k) ((y.es.drop k).take q) = x ∨ ∃ r, pTakeL x (y.bi + k) (y.T k) ((y.es.drop k).take q) = ⟨x.bi, x.bt, y.es.take r⟩) := by
  have hp : 0 ≤ y.bi + (k : Int) := by omega
  obtain ⟨hM, _, hT⟩ := taken h0 hp hE
  refine ⟨hT.rx, ?_⟩
  have hO := Off.of hp hM
  have hL : pTakeL x (y.bi + k) (y.T k) ((y.es.drop k).take q) = if meetN x (y.bi + k) (y.T k) ((y.es.drop k).take q) < ((y.es.drop k).take q).length then rExtL (tkL x (y.bi + k) (y.T k) ((y.es.drop k).take q)) (((y.es.drop k).take q).drop (meetN x (y.bi + k) (y.T k) ((y.es.drop k).take q))) else x := by
    unfold pTakeL
    rw [if_neg (by rw [hE]; decide)]
  have hE' : meetN x (y.bi + k) (y.T k) ((y.es.drop k).take q) < ((y.es.drop k).take q).length → rExtE (tkL x (y.bi + k) (y.T k) ((y.es.drop k).take q)) (((y.es.drop k).take q).drop (meetN x (y.bi + k) (y.T k) ((y.es.drop k).take q))) = 0 := fun h => by
    unfold pTakeE at hE
    rw [if_neg (by rw [hM]; decide), if_pos h] at hE
    exact hE
  have htk : tkL x (y.bi + k) (y.T k) ((y.es.drop k).take q) = ⟨x.bi, x.bt, x.es.take (spotN x (spI (y.bi + k) (meetN x (y.bi + k) (y.T k) ((y.es.drop k).take q))))⟩ := rfl
  rw [hL]
  obtain ⟨n, hn⟩ : ∃ n, meetN x (y.bi + k) (y.T k) ((y.es.drop k).take q) = n := ⟨_, rfl⟩
  rw [htk] at hE' ⊢
  rw [hn] at hO hE' ⊢
  by_cases hlt : n < ((y.es.drop k).take q).length
  rotate_left
  · rw [if_neg hlt]; exact .inl rfl
  · rw [if_pos hlt]
    refine .inr ?_
    have hE' := hE' hlt
    obtain ⟨s, hs, hsn, hss⟩ := hO.spot hp h0 hlt
    rw [hss] at hE' ⊢
    obtain ⟨e1, _, _⟩ := ext_right (cut_right hO.r hs) h0 hE'
    rw [e1]
    have hlen : ((y.es.drop k).take q).length ≤ q ∧ ((y.es.drop k).take q).length ≤ y.es.length - k := by rw [List.length_take, List.length_drop]; omega
    have hsk : s = k + n := by omega
    have hpr := (right_parts hy).2.2.2
    have htake : x.es.take s = y.es.take s := by
      by_cases h00 : s = 0
      · subst h00; rfl
      · have hTT : x.T s = y.T s := by
          by_cases hn0 : n = 0
          · subst hn0
            have := hO.p (by omega)
            obtain ⟨c, c1, c2, c3⟩ := (rHas_iff hx h0 hp (by omega)).1 this
            rw [show s = c by omega, c3, show k = c by omega]
          · have hm := hO.met n (by omega) (Nat.le_refl _)
            unfold met1 at hm
            simp only [Bool.or_eq_true, decide_eq_true_eq] at hm
            have hm := hm.resolve_left (by omega)
            obtain ⟨c, c1, c2, c3⟩ := (rHas_iff hx h0 (by omega) (by omega)).1 hm
            rw [show s = c by omega, c3]
            have e3 : spT (y.T k) ((y.es.drop k).take q) n = spT y.bt y.es (k + n) := by
              rw [spT_take _ _ (by omega)]
              exact spT_drop y.bt y.es k n
            rw [e3, show k + n = c by omega]
            rfl
        obtain ⟨j, rfl⟩ : ∃ j, s = j + 1 := ⟨s - 1, by omega⟩
        have hTT : (x.es.getD j e0).t = (y.es.getD j e0).t := hTT
        exact take_eq hs (by omega) (fun i hi => ha j (by omega) (by omega) hTT i (by omega))
    refine ⟨k + n + (q - n), ?_⟩
    show (⟨x.bi, x.bt, x.es.take s ++ ((y.es.drop k).take q).drop n⟩ : Lg) = _
    rw [htake, hsk, List.drop_take, List.drop_drop, ← List.take_add]
/-- One takes from another one. -/
theorem MI.take {m : Int} {L : Nat → Lg} (h : MI m L) {who whom : Nat} (hw : who < 3) (hm : whom < 3) {i q : Int} (hF : fromE (L whom) i q = 0)
    (hE : pTakeE (L who) (fromI (L whom) i q) (fromT (L whom) i q) (fromL (L whom) i q) = 0) : MI m (upd L who (pTakeL (L who) (fromI (L whom) i q) (fromT (L whom) i q) (fromL (L whom) i q))) := by
  obtain ⟨a, b, c⟩ := from_ok hF
  have hS : spotE (L whom) (subw i) = 0 := by
    unfold fromE at hF
    by_cases e : spotE (L whom) (subw i) ≠ 0
    · rw [if_pos e] at hF; exact hF
    · exact Decidable.not_not.mp e
  obtain ⟨s1, s2, s3⟩ := (spot_at (h.r whom hm) (h.bi0 whom hm) (subw_lt i).1 (subw_lt i).2).2 hS
  rw [a, b, c, s3] at hE ⊢
  generalize spotN (L whom) (subw i) = k at *
  rw [s1] at hE ⊢
  have hbi := (h.base whom hm).1.trans (h.base who hw).1.symm
  have hbt := (h.base whom hm).2.trans (h.base who hw).2.symm
  obtain ⟨r1, r2⟩ := take_es (h.r who hw) (h.r whom hm) (h.bi0 who hw) hbi hbt (h.agr who whom hw hm) s2 hE
  generalize pTakeL (L who) ((L whom).bi + k) ((L whom).T k) (((L whom).es.drop k).take q.toNat) = X at *
  rcases r2 with rfl | ⟨r, rfl⟩
  · exact h.put hw r1 rfl rfl (fun k hk _ => h.agr who k hw hk) (h.top who hw)
  · exact h.put hw r1 rfl rfl (fun k hk _ => (h.agr whom k hm hk).take r) (fun e he => h.top whom hm e (List.mem_of_mem_take he))
/-- All give up what is ahead of a spot that all have. -/
theorem MI.com {m : Int} {L : Nat → Lg} (h : MI m L) (hm : m < 18446744073709551616) {i t : Int} (hi : 0 ≤ i) (hi' : i < 18446744073709551616) (hc : ∀ k, k < 3 → hasB (L k) i t = true) :
    (∀ k, k < 3 → spotE (L k) i = 0) ∧ MI m (fun k => pComL (L k) i) := by
  have h1 : ∀ k, k < 3 → ∃ c : Nat, c ≤ (L k).es.length ∧ i = (L 0).bi + c ∧ (L k).T c = t ∧ spotE (L k) i = 0 ∧ pComL (L k) i = ⟨(L k).bi + c, (L k).T c, (L k).es.drop c⟩ := fun k hk => by
    have hh := hc k hk
    rw [← has_doc (h.r k hk)] at hh
    obtain ⟨c, c1, c2, c3⟩ := (rHas_iff (h.r k hk) (h.bi0 k hk) hi hi').1 hh
    obtain ⟨hE, hT⟩ := term_in (h.r k hk) (h.bi0 k hk) c1
    rw [← c2] at hE hT
    obtain ⟨s1, s2, s3⟩ := (spot_at (h.r k hk) (h.bi0 k hk) hi hi').2 hE
    have hsc : spotN (L k) i = c := by omega
    refine ⟨c, c1, by rw [← (h.base k hk).1]; exact c2, c3, hE, ?_⟩
    unfold pComL
    rw [if_pos hE, hT, hsc]
    rw [← c2]
  obtain ⟨c, _, hic, _, _, _⟩ := h1 0 (by omega)
  have h2 : ∀ k, k < 3 → c ≤ (L k).es.length ∧ (L k).T c = t ∧ spotE (L k) i = 0 ∧ pComL (L k) i = ⟨(L k).bi + c, (L k).T c, (L k).es.drop c⟩ := fun k hk => by
    obtain ⟨c', a1, a2, a3, a4, a5⟩ := h1 k hk
    obtain rfl : c' = c := by omega
    exact ⟨a1, a3, a4, a5⟩
  refine ⟨fun k hk => (h2 k hk).2.2.1, ?_⟩
  have hb : ∀ k, k < 3 → (pComL (L k) i).bi = i ∧ (pComL (L k) i).bt = t ∧ (pComL (L k) i).es = (L k).es.drop c := fun k hk => by
    obtain ⟨a1, a2, a3, a4⟩ := h2 k hk
    rw [a4]
    exact ⟨by show (L k).bi + c = i; rw [(h.base k hk).1]; omega, a2, rfl⟩
  have ht : 0 ≤ t ∧ t < 18446744073709551616 := by
    obtain ⟨a1, a2, _, _⟩ := h2 0 (by omega)
    rw [← a2]
    cases c with
    | zero => exact ⟨h.bt0 0 (by omega), h.bt1 0 (by omega)⟩
    | succ j =>
      have e : (L 0).T (j + 1) = ((L 0).es[j]'(by omega)).t := by
        show ((L 0).es.getD j e0).t = _
        simp [List.getD, show j < (L 0).es.length by omega]
      have := h.top 0 (by omega) _ (List.getElem_mem (show j < (L 0).es.length by omega))
      rw [e]
      omega
  refine ⟨fun k hk => ?_, fun k hk => ?_, fun k hk => ?_, fun k hk => ?_, fun k hk => ?_, fun k hk => ?_, fun j k hj hk => ?_, fun k hk e he => ?_⟩
  · show right (pComL (L k) i) = true
    rw [(h2 k hk).2.2.2]
    exact com_right (h.r k hk) (h.bi0 k hk) (h2 k hk).1
  · show 0 ≤ (pComL (L k) i).bi
    rw [(hb k hk).1]; exact hi
  · show (pComL (L k) i).bi < _
    rw [(hb k hk).1]; exact hi'
  · show 0 ≤ (pComL (L k) i).bt
    rw [(hb k hk).2.1]; exact ht.1
  · show (pComL (L k) i).bt < _
    rw [(hb k hk).2.1]; exact ht.2
  · show (pComL (L k) i).bi = (pComL (L 0) i).bi ∧ (pComL (L k) i).bt = (pComL (L 0) i).bt
    rw [(hb k hk).1, (hb k hk).2.1, (hb 0 (by omega)).1, (hb 0 (by omega)).2.1]
    exact ⟨rfl, rfl⟩
  · show Agree (pComL (L j) i).es (pComL (L k) i).es
    rw [(hb j hj).2.2, (hb k hk).2.2]
    exact (h.agr j k hj hk).drop c
  · have he : e ∈ (pComL (L k) i).es := he
    rw [(hb k hk).2.2] at he
    exact h.top k hk e (List.mem_of_mem_drop he)

end Go.Proofs.Ytmgaihdepglahaa
