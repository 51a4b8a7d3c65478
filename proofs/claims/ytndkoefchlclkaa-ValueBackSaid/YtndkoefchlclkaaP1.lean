/-
  Plain facts: the bytes of values stand in their order.
-/
import Derived.Test.YtndkoefchlclkaaP0
import Derived.Test.YtndkoefchlclkaaV3
namespace Go.Proofs.Ytndkoefchlclkaa
open Go.RowKit

/-- Behind what is the same the first is smaller. -/
def Apt (x y : List Int) : Prop := ∃ p a u b v, x = p ++ a :: u ∧ y = p ++ b :: v ∧ a < b
/-- Does a row begin with another one? -/
def preB (x y : List Int) : Bool := decide (y.length ≤ x.length) && (x.take y.length == y)

theorem Apt.cons {x y : List Int} (h : Apt x y) (z : Int) : Apt (z :: x) (z :: y) := by
  obtain ⟨p, a, u, b, v, h1, h2, h3⟩ := h
  exact ⟨z :: p, a, u, b, v, by rw [h1]; rfl, by rw [h2]; rfl, h3⟩
theorem Apt.app {x y : List Int} (h : Apt x y) (p : List Int) : Apt (p ++ x) (p ++ y) := by
  induction p with
  | nil => exact h
  | cons z p ih => exact ih.cons z
theorem Apt.head (a b : Int) (u v : List Int) (h : a < b) : Apt (a :: u) (b :: v) := ⟨[], a, u, b, v, rfl, rfl, h⟩
theorem Apt.cmp : ∀ {x y : List Int}, Apt x y → Bs x → Bs y → Lib.compareBytes (Lib.bytesOf x) (Lib.bytesOf y) = -1 ∧ Lib.compareBytes (Lib.bytesOf y) (Lib.bytesOf x) = 1 := by
  intro x y ⟨p, a, u, b, v, h1, h2, h3⟩ hx hy
  induction p generalizing x y with
  | nil =>
    rw [List.nil_append] at h1 h2
    subst h1 h2
    have ha : 0 ≤ a ∧ a ≤ 255 := hx 0
    have hb : 0 ≤ b ∧ b ≤ 255 := hy 0
    have hl : UInt8.ofNat a.toNat < UInt8.ofNat b.toNat := by
      rw [UInt8.lt_iff_toNat_lt, UInt8.toNat_ofNat', UInt8.toNat_ofNat']
      omega
    have hn : ¬ UInt8.ofNat b.toNat < UInt8.ofNat a.toNat := by
      rw [UInt8.lt_iff_toNat_lt] at hl ⊢
      omega
    constructor
    · show (if UInt8.ofNat a.toNat < UInt8.ofNat b.toNat then (-1 : Int) else _) = -1
      rw [if_pos hl]
    · show (if UInt8.ofNat b.toNat < UInt8.ofNat a.toNat then (-1 : Int) else if UInt8.ofNat a.toNat < UInt8.ofNat b.toNat then 1 else _) = 1
      rw [if_neg hn, if_pos hl]
  | cons z p ih =>
    subst h1 h2
    have := ih rfl rfl (fun j => hx (j + 1)) (fun j => hy (j + 1))
    have hn : ¬ UInt8.ofNat z.toNat < UInt8.ofNat z.toNat := by rw [UInt8.lt_iff_toNat_lt]; omega
    constructor
    · show (if UInt8.ofNat z.toNat < UInt8.ofNat z.toNat then (-1 : Int) else if UInt8.ofNat z.toNat < UInt8.ofNat z.toNat then 1 else Lib.compareBytes (Lib.bytesOf (p ++ a :: u)) (Lib.bytesOf (p ++ b :: v))) = -1
      rw [if_neg hn, if_neg hn]
      exact this.1
    · show (if UInt8.ofNat z.toNat < UInt8.ofNat z.toNat then (-1 : Int) else if UInt8.ofNat z.toNat < UInt8.ofNat z.toNat then 1 else Lib.compareBytes (Lib.bytesOf (p ++ b :: v)) (Lib.bytesOf (p ++ a :: u))) = 1
      rw [if_neg hn, if_neg hn]
      exact this.2
theorem pre_no (p : List Int) (a b : Int) (u v : List Int) (h : a ≠ b) : preB (p ++ a :: u) (p ++ b :: v) = false := by
  unfold preB
  rw [Bool.and_eq_false_iff]
  by_cases hl : (p ++ b :: v).length ≤ (p ++ a :: u).length
  · refine .inr ?_
    rw [Bool.eq_false_iff]
    intro he
    have he := eq_of_beq he
    have h1 := congrArg (fun l => l[p.length]?) he
    simp at h1
    exact h h1
  · exact .inl (decide_eq_false hl)
theorem Apt.pre {x y : List Int} (h : Apt x y) : preB x y = false ∧ preB y x = false := by
  obtain ⟨p, a, u, b, v, rfl, rfl, h3⟩ := h
  exact ⟨pre_no p a b u v (by omega), pre_no p b a v u (by omega)⟩

theorem apt_be : ∀ (s X Y : Nat), X < Y → Y < 256 ^ s → Apt (be s (X : Int)) (be s (Y : Int))
  | 0, X, Y, h, h' => by simp at h'; omega
  | s + 1, X, Y, h, h' => by
    rw [be_succ, be_succ]
    have hM : 0 < 256 ^ s := Nat.pow_pos (by omega)
    rw [Nat.pow_succ] at h'
    have hX := Nat.div_add_mod X (256 ^ s)
    have hY := Nat.div_add_mod Y (256 ^ s)
    have rX := Nat.mod_lt X hM
    have rY := Nat.mod_lt Y hM
    have qY : Y / 256 ^ s < 256 := Nat.div_lt_of_lt_mul (by omega)
    have qX : X / 256 ^ s < 256 := Nat.div_lt_of_lt_mul (by omega)
    by_cases he : X / 256 ^ s = Y / 256 ^ s
    · have hr : X % 256 ^ s < Y % 256 ^ s := by rw [he] at hX; omega
      rw [he, ← be_rest s X, ← be_rest s Y]
      exact (apt_be s _ _ hr rY).cons _
    · have hle : X / 256 ^ s ≤ Y / 256 ^ s := Nat.div_le_div_right (Nat.le_of_lt h)
      generalize X / 256 ^ s = q1 at *
      generalize Y / 256 ^ s = q2 at *
      exact Apt.head _ _ _ _ (by omega)

theorem apt_txt : ∀ (x y : List Int), Bs x → Bs y → Lib.compareBytes (Lib.bytesOf x) (Lib.bytesOf y) = -1 → Apt (txt x ++ [0, 0]) (txt y ++ [0, 0])
  | [], [], _, _, h => absurd h (by decide)
  | z :: x, [], _, _, h => absurd (show (1 : Int) = -1 from h) (by decide)
  | [], z :: y, _, hy, _ => by
    have hz : 0 ≤ z ∧ z ≤ 255 := hy 0
    rw [txt, txt]
    by_cases h0 : z = 0
    · subst h0
      rw [if_pos rfl]
      exact (Apt.head 0 255 [] _ (by omega)).cons 0
    · rw [if_neg h0]
      exact Apt.head 0 z [0] _ (by omega)
  | a :: x, b :: y, hx, hy, h => by
    have ha : 0 ≤ a ∧ a ≤ 255 := hx 0
    have hb : 0 ≤ b ∧ b ≤ 255 := hy 0
    have h' : (if UInt8.ofNat a.toNat < UInt8.ofNat b.toNat then (-1 : Int) else if UInt8.ofNat b.toNat < UInt8.ofNat a.toNat then 1 else Lib.compareBytes (Lib.bytesOf x) (Lib.bytesOf y)) = -1 := h
    have hl : ∀ u v : Int, 0 ≤ u ∧ u ≤ 255 → 0 ≤ v ∧ v ≤ 255 → (UInt8.ofNat u.toNat < UInt8.ofNat v.toNat ↔ u < v) := fun u v hu hv => by
      rw [UInt8.lt_iff_toNat_lt, UInt8.toNat_ofNat', UInt8.toNat_ofNat']
      omega
    simp only [hl a b ha hb, hl b a hb ha] at h'
    rw [txt, txt]
    by_cases h1 : a < b
    · rw [if_neg (show ¬ b = 0 by omega)]
      by_cases h0 : a = 0
      · subst h0
        rw [if_pos rfl]
        exact Apt.head 0 b _ _ h1
      · rw [if_neg h0]
        exact Apt.head a b _ _ h1
    · rw [if_neg h1] at h'
      by_cases h2 : b < a
      · rw [if_pos h2] at h'
        exact absurd h' (by decide)
      · rw [if_neg h2] at h'
        obtain rfl : a = b := by omega
        have ih := apt_txt x y (fun j => hx (j + 1)) (fun j => hy (j + 1)) h'
        by_cases h0 : a = 0
        · subst h0
          rw [if_pos rfl, if_pos rfl]
          exact (ih.cons 255).cons 0
        · rw [if_neg h0, if_neg h0]
          exact ih.cons a

theorem toList_sb (s : ByteArray) : s.toList = Lib.bytesOf (sb s) := by rw [← Lib.strOfNums_toList, str_sb]

theorem encF_bs (k n : Int) (s : ByteArray) (h : Rt k n s = true) : Bs (encF k n s) := by
  have h' := of_decide_eq_true h
  have h1 : ∀ z : Int, 0 ≤ z ∧ z ≤ 255 → Bs [z] := fun z hz j => match j with
    | 0 => hz
    | j + 1 => by simp
  rcases h' with ⟨rfl, rfl, rfl⟩ | ⟨rfl, hb, rfl⟩ | ⟨rfl, rfl⟩ | ⟨rfl, rfl, hs⟩
  · exact h1 1 (by omega)
  · exact Bs.append (h1 2 (by omega)) (h1 n (by rcases hb with rfl | rfl <;> omega))
  · exact Bs.append (h1 3 (by omega)) (be_bs _ _)
  · exact Bs.append (Bs.append (h1 4 (by omega)) (txt_bs _ (sb_bs s))) (Bs.append (h1 0 (by omega)) (h1 0 (by omega)))

theorem apt_enc (k n : Int) (s : ByteArray) (k' n' : Int) (s' : ByteArray) (h : Rt k n s = true) (h' : Rt k' n' s' = true) (hn : -9223372036854775808 ≤ n ∧ n ≤ 9223372036854775807) (hn' : -9223372036854775808 ≤ n' ∧ n' ≤ 9223372036854775807) (hc : cmpV k n s k' n' s' = -1) : Apt (encF k n s) (encF k' n' s') := by
  have g := of_decide_eq_true h
  have g' := of_decide_eq_true h'
  have first : ∀ (k n : Int) (s : ByteArray), (k = 1 ∨ k = 2 ∨ k = 3 ∨ k = 4) → ∃ r, encF k n s = k :: r := fun k n s hk => by
    rcases hk with rfl | rfl | rfl | rfl
    · exact ⟨_, rfl⟩
    · exact ⟨_, rfl⟩
    · exact ⟨_, rfl⟩
    · exact ⟨_, rfl⟩
  unfold cmpV at hc
  rcases cmp3_three k k' with ⟨hk, e⟩ | ⟨hk, e⟩ | ⟨hk, e⟩
  · subst hk
    rw [e, if_neg (by decide)] at hc
    rcases cmp3_three n n' with ⟨hm, e⟩ | ⟨hm, e⟩ | ⟨hm, e⟩
    · subst hm
      rw [e, if_neg (by decide)] at hc
      have hne : s ≠ s' := fun e => by
        subst e
        rcases cmpS_three s s with ⟨_, h1, _⟩ | ⟨h1, _⟩ | ⟨h1, _⟩
        · rw [h1] at hc; exact absurd hc (by decide)
        · exact h1 rfl
        · exact h1 rfl
      rcases g with ⟨rfl, rfl, rfl⟩ | ⟨rfl, _, rfl⟩ | ⟨rfl, rfl⟩ | ⟨rfl, rfl, hs⟩
      · rcases g' with ⟨_, _, rfl⟩ | ⟨h1, _⟩ | ⟨h1, _⟩ | ⟨h1, _⟩
        · exact absurd rfl hne
        all_goals exact absurd h1 (by decide)
      · rcases g' with ⟨h1, _⟩ | ⟨_, _, rfl⟩ | ⟨h1, _⟩ | ⟨h1, _⟩
        rotate_left
        · exact absurd rfl hne
        all_goals exact absurd h1 (by decide)
      · rcases g' with ⟨h1, _⟩ | ⟨h1, _⟩ | ⟨_, rfl⟩ | ⟨h1, _⟩
        rotate_left 2
        · exact absurd rfl hne
        all_goals exact absurd h1 (by decide)
      · have hc' : Lib.compareBytes (Lib.bytesOf (sb s)) (Lib.bytesOf (sb s')) = -1 := by rw [← toList_sb, ← toList_sb]; exact hc
        show Apt ([4] ++ txt (sb s) ++ [0, 0]) ([4] ++ txt (sb s') ++ [0, 0])
        rw [List.append_assoc, List.append_assoc]
        exact (apt_txt _ _ (sb_bs s) (sb_bs s') hc').app [4]
    · rcases g with ⟨rfl, rfl, rfl⟩ | ⟨rfl, _, rfl⟩ | ⟨rfl, rfl⟩ | ⟨rfl, rfl, hs⟩
      · rcases g' with ⟨_, rfl, _⟩ | ⟨h1, _⟩ | ⟨h1, _⟩ | ⟨h1, _⟩
        · omega
        all_goals exact absurd h1 (by decide)
      · exact (Apt.head n n' [] [] hm).cons 2
      · show Apt ([3] ++ be 8 (top64 n)) ([3] ++ be 8 (top64 n'))
        have t1 := top_range n
        have t2 := top_range n'
        have hlt : top64 n < top64 n' := by unfold top64; omega
        obtain ⟨X, hX⟩ := Int.eq_ofNat_of_zero_le t1.1
        obtain ⟨Y, hY⟩ := Int.eq_ofNat_of_zero_le t2.1
        rw [hX] at hlt t1
        rw [hY] at hlt t2
        rw [hX, hY]
        exact (apt_be 8 X Y (by omega) (by omega)).app [3]
      · rcases g' with ⟨h1, _⟩ | ⟨h1, _⟩ | ⟨h1, _⟩ | ⟨_, rfl, _⟩
        · exact absurd h1 (by decide)
        · exact absurd h1 (by decide)
        · exact absurd h1 (by decide)
        · omega
    · rw [e, if_pos (by decide)] at hc
      exact absurd hc (by decide)
  · obtain ⟨r, e1⟩ := first k n s (by omega)
    obtain ⟨r', e2⟩ := first k' n' s' (by omega)
    rw [e1, e2]
    exact Apt.head _ _ _ _ hk
  · rw [e, if_pos (by decide)] at hc
    exact absurd hc (by decide)

theorem cmpV_swap (k n : Int) (s : ByteArray) (k' n' : Int) (s' : ByteArray) (h : cmpV k n s k' n' s' = 1) : cmpV k' n' s' k n s = -1 := by
  unfold cmpV at *
  rcases cmp3_three k k' with ⟨hk, e⟩ | ⟨hk, e⟩ | ⟨hk, e⟩
  · subst hk
    rw [e, if_neg (by decide)] at h
    rw [e, if_neg (by decide)]
    rcases cmp3_three n n' with ⟨hm, e⟩ | ⟨hm, e⟩ | ⟨hm, e⟩
    · subst hm
      rw [e, if_neg (by decide)] at h
      rw [e, if_neg (by decide)]
      unfold cmpS at *
      rcases cmpB_three s.toList s'.toList with ⟨_, h1, h2⟩ | ⟨_, h1, h2⟩ | ⟨_, h1, h2⟩
      · rw [h1] at h; exact absurd h (by decide)
      · rw [h1] at h; exact absurd h (by decide)
      · exact h2
    · rw [e, if_pos (by decide)] at h; exact absurd h (by decide)
    · have e' : cmp3 n' n = -1 := if_pos hm
      rw [e', if_pos (by decide)]
  · rw [e, if_pos (by decide)] at h; exact absurd h (by decide)
  · have e' : cmp3 k' k = -1 := if_pos hk
    rw [e', if_pos (by decide)]
theorem cmpV_same (k n : Int) (s : ByteArray) (k' n' : Int) (s' : ByteArray) (h : cmpV k n s k' n' s' = 0) : k = k' ∧ n = n' ∧ s = s' := by
  unfold cmpV at h
  rcases cmp3_three k k' with ⟨hk, e⟩ | ⟨hk, e⟩ | ⟨hk, e⟩
  · rw [e, if_neg (by decide)] at h
    rcases cmp3_three n n' with ⟨hm, e⟩ | ⟨hm, e⟩ | ⟨hm, e⟩
    · rw [e, if_neg (by decide)] at h
      rcases cmpS_three s s' with ⟨h0, _⟩ | ⟨_, h1, _⟩ | ⟨_, h1, _⟩
      · exact ⟨hk, hm, h0⟩
      · rw [h1] at h; exact absurd h (by decide)
      · rw [h1] at h; exact absurd h (by decide)
    · rw [e, if_pos (by decide)] at h; exact absurd h (by decide)
    · rw [e, if_pos (by decide)] at h; exact absurd h (by decide)
  · rw [e, if_pos (by decide)] at h; exact absurd h (by decide)
  · rw [e, if_pos (by decide)] at h; exact absurd h (by decide)
theorem cmp_self : ∀ x : List UInt8, Lib.compareBytes x x = 0 := fun x => by
  rcases cmpB_three x x with ⟨_, h, _⟩ | ⟨h, _⟩ | ⟨h, _⟩
  · exact h
  · exact absurd rfl h
  · exact absurd rfl h

/-- How the bytes of two values stand: as the values do; and where they are unlike no one's begin with the other's. -/
theorem sorts (k n : Int) (s : ByteArray) (k' n' : Int) (s' : ByteArray) (h : Rt k n s = true) (h' : Rt k' n' s' = true) (hn : -9223372036854775808 ≤ n ∧ n ≤ 9223372036854775807) (hn' : -9223372036854775808 ≤ n' ∧ n' ≤ 9223372036854775807) :
    Lib.compareBytes (Lib.bytesOf (encF k n s)) (Lib.bytesOf (encF k' n' s')) = cmpV k n s k' n' s' ∧
    ((k = k' ∧ n = n' ∧ s = s') ∨ (¬ (k = k' ∧ n = n' ∧ s = s') ∧ preB (encF k n s) (encF k' n' s') = false ∧ preB (encF k' n' s') (encF k n s) = false)) := by
  have b1 := encF_bs k n s h
  have b2 := encF_bs k' n' s' h'
  have hself : ∀ (k n : Int) (s : ByteArray), cmpV k n s k n s = 0 := fun k n s => by
    unfold cmpV
    rcases cmp3_three k k with ⟨_, e⟩ | ⟨e, _⟩ | ⟨e, _⟩
    · rcases cmp3_three n n with ⟨_, e'⟩ | ⟨e', _⟩ | ⟨e', _⟩
      · rw [e, e', if_neg (by decide), if_neg (by decide)]
        exact cmp_self _
      · omega
      · omega
    · omega
    · omega
  have hv : cmpV k n s k' n' s' = -1 ∨ cmpV k n s k' n' s' = 0 ∨ cmpV k n s k' n' s' = 1 := by
    unfold cmpV
    rcases cmp3_three k k' with ⟨_, e⟩ | ⟨_, e⟩ | ⟨_, e⟩ <;> rcases cmp3_three n n' with ⟨_, e'⟩ | ⟨_, e'⟩ | ⟨_, e'⟩ <;> rcases cmpS_three s s' with ⟨_, e'', _⟩ | ⟨_, e'', _⟩ | ⟨_, e'', _⟩ <;> rw [e, e', e''] <;> decide
  rcases hv with hc | hc | hc
  · have ha := apt_enc k n s k' n' s' h h' hn hn' hc
    refine ⟨by rw [hc]; exact (ha.cmp b1 b2).1, .inr ⟨fun ⟨e1, e2, e3⟩ => ?_, ha.pre⟩⟩
    subst e1 e2 e3
    rw [hself] at hc
    exact absurd hc (by decide)
  · obtain ⟨rfl, rfl, rfl⟩ := cmpV_same _ _ _ _ _ _ hc
    exact ⟨by rw [hc]; exact cmp_self _, .inl ⟨rfl, rfl, rfl⟩⟩
  · have ha := apt_enc k' n' s' k n s h' h hn' hn (cmpV_swap _ _ _ _ _ _ hc)
    refine ⟨by rw [hc]; exact (ha.cmp b2 b1).2, .inr ⟨fun ⟨e1, e2, e3⟩ => ?_, ha.pre.2, ha.pre.1⟩⟩
    subst e1 e2 e3
    rw [hself] at hc
    exact absurd hc (by decide)

end Go.Proofs.Ytndkoefchlclkaa
