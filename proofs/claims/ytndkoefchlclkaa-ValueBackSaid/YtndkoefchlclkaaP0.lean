/-
  Plain facts: a value's bytes lead back.
-/
import Derived.Test.YtndkoefchlclkaaW5
import Derived.Test.YtndkoefchlclkaaOrder
namespace Go.Proofs.Ytndkoefchlclkaa
open Go.RowKit

theorem mod_step (a b c : Int) : ((a % 18446744073709551616) * b + c) % 18446744073709551616 = (a * b + c) % 18446744073709551616 := by
  rw [Int.add_emod, Int.mul_emod, Int.emod_emod, ← Int.mul_emod, ← Int.add_emod]

theorem num_be_go : ∀ (s x : Nat) (acc : Int), 0 ≤ acc → acc < 18446744073709551616 → List.foldl (fun x z => (x * 256 + z) % 18446744073709551616) acc (be s (x : Int)) = (acc * ((256 ^ s : Nat) : Int) + ((x % 256 ^ s : Nat) : Int)) % 18446744073709551616
  | 0, x, acc, h0, h1 => by
    simp [be]
    omega
  | s + 1, x, acc, h0, h1 => by
    rw [be_succ, List.foldl_cons, num_be_go s x _ (by omega) (by omega), mod_step]
    congr 1
    rw [Nat.pow_succ, Nat.mod_mul]
    generalize x / 256 ^ s % 256 = a
    generalize x % 256 ^ s = r
    generalize 256 ^ s = M
    rw [Int.add_mul, Int.natCast_mul, Int.natCast_add, Int.natCast_mul]
    rw [Int.mul_assoc, Int.mul_comm 256 (M : Int), Int.mul_comm (a : Int) (M : Int), Int.add_assoc, Int.add_comm ((M : Int) * a) (r : Int)]
    rfl

theorem num_be (s : Nat) (x : Int) (hs : s ≤ 8) (hx : 0 ≤ x ∧ x < ((256 ^ s : Nat) : Int)) : num (be s x) = x := by
  obtain ⟨x, rfl⟩ := Int.eq_ofNat_of_zero_le hx.1
  have h := num_be_go s x 0 (by omega) (by omega)
  have h8 : (256 : Nat) ^ s ≤ 256 ^ 8 := Nat.pow_le_pow_right (by omega) hs
  rw [show (256 : Nat) ^ 8 = 18446744073709551616 from rfl] at h8
  unfold num
  rw [h, Nat.mod_eq_of_lt (by omega)]
  omega

theorem be_rest (s x : Nat) : be s ((x % 256 ^ s : Nat) : Int) = be s (x : Int) := by
  apply List.ext_getElem?
  intro i
  rcases Nat.lt_or_ge i s with hi | hi
  · have h1 := be_at s (x % 256 ^ s) i hi
    have h2 := be_at s x i hi
    have l1 : i < (be s ((x % 256 ^ s : Nat) : Int)).length := by rw [be_len]; exact hi
    have l2 : i < (be s (x : Int)).length := by rw [be_len]; exact hi
    simp only [List.getD, List.getElem?_eq_getElem l1, List.getElem?_eq_getElem l2, Option.getD_some] at h1 h2
    rw [List.getElem?_eq_getElem l1, List.getElem?_eq_getElem l2, h1, h2]
    congr 2
    have e : s = (s - 1 - i) + (i + 1) := by omega
    generalize s - 1 - i = a at *
    rw [e, Nat.pow_add, Nat.mod_mul_right_div_self, Nat.pow_succ, Nat.mod_mul_left_mod]
  · rw [List.getElem?_eq_none (by rw [be_len]; exact hi), List.getElem?_eq_none (by rw [be_len]; exact hi)]

/-- The number that bytes stand for. -/
def natv : List Int → Nat
  | [] => 0
  | z :: r => z.toNat * 256 ^ r.length + natv r
theorem natv_lt : ∀ zs : List Int, Bs zs → natv zs < 256 ^ zs.length
  | [], _ => by simp [natv]
  | z :: r, h => by
    have ih := natv_lt r (fun j => h (j + 1))
    have hz : 0 ≤ z ∧ z ≤ 255 := h 0
    rw [natv, List.length_cons, Nat.pow_succ]
    generalize 256 ^ r.length = M at *
    have : z.toNat * M ≤ 255 * M := Nat.mul_le_mul_right M (by omega)
    omega
theorem be_natv : ∀ zs : List Int, Bs zs → be zs.length (natv zs : Int) = zs
  | [], _ => by simp [be]
  | z :: r, h => by
    have ih := be_natv r (fun j => h (j + 1))
    have hz : 0 ≤ z ∧ z ≤ 255 := h 0
    have hl := natv_lt r (fun j => h (j + 1))
    have hM : 0 < 256 ^ r.length := Nat.pow_pos (by omega)
    have h1 : natv (z :: r) / 256 ^ r.length % 256 = z.toNat := by
      rw [natv, Nat.add_comm, Nat.add_mul_div_right _ _ hM, Nat.div_eq_of_lt hl, Nat.zero_add]
      omega
    have h2 : natv (z :: r) % 256 ^ r.length = natv r := by rw [natv, Nat.add_comm, Nat.add_mul_mod_self_right, Nat.mod_eq_of_lt hl]
    rw [List.length_cons, be_succ, ← be_rest r.length (natv (z :: r)), h2, ih, h1]
    congr 1
    omega
theorem num_natv_go : ∀ (zs : List Int) (acc : Int), Bs zs → 0 ≤ acc → acc < 18446744073709551616 → List.foldl (fun x z => (x * 256 + z) % 18446744073709551616) acc zs = (acc * ((256 ^ zs.length : Nat) : Int) + (natv zs : Int)) % 18446744073709551616
  | [], acc, _, h0, h1 => by
    simp [natv]
    omega
  | z :: r, acc, h, h0, h1 => by
    have hz : 0 ≤ z ∧ z ≤ 255 := h 0
    rw [List.foldl_cons, num_natv_go r _ (fun j => h (j + 1)) (by omega) (by omega), mod_step]
    congr 1
    rw [natv, List.length_cons, Nat.pow_succ]
    generalize 256 ^ r.length = M
    rw [Int.natCast_mul, Int.natCast_add, Int.natCast_mul, Int.toNat_of_nonneg hz.1, Int.add_mul, Int.mul_assoc, Int.mul_comm 256 (M : Int), Int.add_assoc]
    rfl
theorem be_num (zs : List Int) (h : Bs zs) (hl : zs.length = 8) : be 8 (num zs) = zs := by
  have hv := natv_lt zs h
  rw [hl, show (256 : Nat) ^ 8 = 18446744073709551616 from rfl] at hv
  have e : num zs = (natv zs : Int) := by
    unfold num
    rw [num_natv_go zs 0 h (by omega) (by omega)]
    omega
  rw [e]
  have := be_natv zs h
  rwa [hl] at this

theorem str_sb (s : ByteArray) : strOfNums (sb s) = s := by
  have e : (sb s).map (fun n => UInt8.ofNat n.toNat) = s.data.toList := by
    unfold sb
    rw [List.map_map]
    conv => rhs; rw [← List.map_id s.data.toList]
    apply List.map_congr_left
    intro b _
    simp
  unfold strOfNums
  rw [e]
theorem sb_str (x : List Int) (h : Bs x) : sb (strOfNums x) = x := by
  unfold sb
  rw [strOfNums_data, List.map_map]
  conv => rhs; rw [← List.map_id x]
  apply List.map_congr_left
  intro n hn
  obtain ⟨i, hi, rfl⟩ := List.mem_iff_getElem.1 hn
  have := h i
  simp only [List.getD, List.getElem?_eq_getElem hi, Option.getD_some] at this
  simp only [Function.comp, UInt8.toNat_ofNat', id]
  omega

theorem txt_bs_inv : ∀ x : List Int, Bs (txt x) → Bs x
  | [], h => h
  | z :: x, h => by
    rw [txt] at h
    split at h
    · rename_i hz
      subst hz
      have ih := txt_bs_inv x (fun j => h (j + 2))
      exact fun j => match j with
        | 0 => by simp
        | j + 1 => ih j
    · have ih := txt_bs_inv x (fun j => h (j + 1))
      exact fun j => match j with
        | 0 => h 0
        | j + 1 => ih j
theorem dtx_txt : ∀ (x acc : List Int) (p : Nat) (r : List Int), acc.length + x.length ≤ 64 → dtx acc p (txt x ++ 0 :: 0 :: r) = (acc ++ x, p + (txt x).length + 2, 0)
  | [], acc, p, r, _ => by rw [txt, List.nil_append, dtx_end, List.append_nil]; rfl
  | z :: x, acc, p, r, h => by
    rw [List.length_cons] at h
    rw [txt]
    by_cases hz : z = 0
    · subst hz
      rw [if_pos rfl, List.cons_append, List.cons_append, dtx_next0 _ _ _ (by omega), dtx_txt x (acc ++ [0]) (p + 2) r (by simp; omega)]
      simp
      omega
    · rw [if_neg hz, List.cons_append, dtx_next _ _ _ _ hz (by omega), dtx_txt x (acc ++ [z]) (p + 1) r (by simp; omega)]
      simp
      omega
theorem dtx_cut : ∀ (x acc : List Int) (p m : Nat), acc.length + x.length ≤ 64 → m < (txt x).length + 2 → dtx acc p ((txt x ++ [0, 0]).take m) = ([], 0, 7)
  | [], acc, p, m, _, h => by
    rcases (show m = 0 ∨ m = 1 by simp [txt] at h; omega) with rfl | rfl
    · exact dtx_nil acc p
    · exact dtx_short acc p
  | z :: x, acc, p, m, h, hm => by
    rw [List.length_cons] at h
    rw [txt] at hm ⊢
    by_cases hz : z = 0
    · subst hz
      rw [if_pos rfl] at hm ⊢
      rcases m with _ | _ | m
      · exact dtx_nil acc p
      · exact dtx_short acc p
      · simp only [List.cons_append, List.take_succ_cons]
        rw [dtx_next0 _ _ _ (by omega)]
        exact dtx_cut x (acc ++ [0]) (p + 2) m (by simp; omega) (by simp at hm; omega)
    · rw [if_neg hz] at hm ⊢
      rcases m with _ | m
      · exact dtx_nil acc p
      · simp only [List.cons_append, List.take_succ_cons]
        rw [dtx_next _ _ _ _ hz (by omega)]
        exact dtx_cut x (acc ++ [z]) (p + 1) m (by simp; omega) (by simp at hm; omega)
theorem dtx_inv : ∀ (L : Nat) (zs acc : List Int) (p : Nat) (acc' : List Int) (q : Nat), zs.length ≤ L → acc.length ≤ 64 → dtx acc p zs = (acc', q, 0) →
    ∃ x r, acc' = acc ++ x ∧ zs = txt x ++ 0 :: 0 :: r ∧ q = p + (txt x).length + 2 ∧ acc'.length ≤ 64
  | L, [], acc, p, acc', q, _, _, h => by rw [dtx_nil] at h; cases h
  | L, [z], acc, p, acc', q, _, _, h => by
    unfold dtx at h
    split at h
    · cases h
    · split at h <;> cases h
  | 0, z :: b :: r, acc, p, acc', q, hL, _, h => by simp at hL
  | L + 1, z :: b :: r, acc, p, acc', q, hL, ha, h => by
    by_cases hz : z = 0
    · subst hz
      by_cases hb : b = 0
      · subst hb
        rw [dtx_end] at h
        injection h with h1 h2
        injection h2 with h2 _
        subst h1 h2
        exact ⟨[], r, by simp, rfl, by simp [txt], ha⟩
      · by_cases hb5 : b = 255
        · subst hb5
          by_cases h64 : acc.length = 64
          · rw [dtx_full0 _ _ _ h64] at h; cases h
          · rw [dtx_next0 _ _ _ h64] at h
            obtain ⟨x, r', e1, e2, e3, e4⟩ := dtx_inv L r (acc ++ [0]) (p + 2) acc' q (by simp at hL; omega) (by simp; omega) h
            exact ⟨0 :: x, r', by rw [e1, List.append_assoc]; rfl, by rw [e2, txt, if_pos rfl]; rfl, by rw [e3, txt, if_pos rfl]; simp; omega, e4⟩
        · rw [dtx_bad _ _ _ _ hb hb5] at h; cases h
    · by_cases h64 : acc.length = 64
      · rw [dtx_full _ _ _ _ hz h64] at h; cases h
      · rw [dtx_next _ _ _ _ hz h64] at h
        obtain ⟨x, r', e1, e2, e3, e4⟩ := dtx_inv L (b :: r) (acc ++ [z]) (p + 1) acc' q (by simp at hL ⊢; omega) (by simp; omega) h
        exact ⟨z :: x, r', by rw [e1, List.append_assoc]; rfl, by rw [e2, txt, if_neg hz]; rfl, by rw [e3, txt, if_neg hz]; simp; omega, e4⟩

theorem sg_top (n : Int) (h : -9223372036854775808 ≤ n ∧ n ≤ 9223372036854775807) : sg64 (top64 n) = n := by unfold sg64 top64; omega
theorem top_sg (X : Int) (h : 0 ≤ X ∧ X < 18446744073709551616) : top64 (sg64 X) = X := by unfold sg64 top64; omega
theorem top_range (n : Int) : 0 ≤ top64 n ∧ top64 n < ((256 ^ 8 : Nat) : Int) := by unfold top64; rw [show ((256 ^ 8 : Nat) : Int) = 18446744073709551616 from rfl]; omega

theorem dec3 (r : List Int) (h : ¬ r.length < 8) : decF (3 :: r) = (3, sg64 (num (r.take 8)), E0, 9, 0) := by
  rw [decF, if_neg (by decide), if_neg (by decide), if_pos rfl, if_neg h]
theorem dec3_no (r : List Int) (h : r.length < 8) : decF (3 :: r) = (0, 0, E0, 0, 7) := by
  rw [decF, if_neg (by decide), if_neg (by decide), if_pos rfl, if_pos h]
theorem dec4 (r : List Int) : decF (4 :: r) = txF (dtx [] 1 r) := by
  rw [decF, if_neg (by decide), if_neg (by decide), if_neg (by decide), if_pos rfl]
theorem txF_yes (acc : List Int) (p : Nat) : txF (acc, p, 0) = (4, 0, strOfNums acc, (p : Int), 0) := rfl
theorem txF_no : txF ([], 0, 7) = (0, 0, E0, 0, 7) := rfl

theorem dec_enc (k n : Int) (s : ByteArray) (h : Rt k n s = true) (hn : -9223372036854775808 ≤ n ∧ n ≤ 9223372036854775807) (r : List Int) : decF (encF k n s ++ r) = (k, n, s, ((encF k n s).length : Int), 0) := by
  have h' := of_decide_eq_true h
  rcases h' with ⟨rfl, rfl, rfl⟩ | ⟨rfl, hb, rfl⟩ | ⟨rfl, rfl⟩ | ⟨rfl, rfl, hs⟩
  · rfl
  · rcases hb with rfl | rfl <;> rfl
  · have e : encF 3 n E0 = 3 :: be 8 (top64 n) := rfl
    have l8 : (be 8 (top64 n)).length = 8 := be_len 8 _
    rw [e, List.cons_append, dec3 _ (by rw [List.length_append, l8]; omega), List.take_append_of_le_length (by omega), List.take_of_length_le (by omega), num_be 8 _ (by omega) (top_range n), sg_top n hn, List.length_cons, l8]
    rfl
  · have e : encF 4 0 s = 4 :: (txt (sb s) ++ [0, 0]) := rfl
    rw [e, List.cons_append, dec4, List.append_assoc, show ([0, 0] : List Int) ++ r = 0 :: 0 :: r from rfl, dtx_txt (sb s) [] 1 r (by rw [sb_len]; simpa using hs), txF_yes, List.nil_append, str_sb]
    congr 4
    simp
    omega

theorem dec_cut (k n : Int) (s : ByteArray) (h : Rt k n s = true) (m : Nat) (hm : m < (encF k n s).length) : decF ((encF k n s).take m) = (0, 0, E0, 0, 7) := by
  have h' := of_decide_eq_true h
  rcases m with _ | m
  · rfl
  rcases h' with ⟨rfl, rfl, rfl⟩ | ⟨rfl, hb, rfl⟩ | ⟨rfl, rfl⟩ | ⟨rfl, rfl, hs⟩
  · have : m + 1 < 1 := hm
    omega
  · have : m + 1 < 2 := hm
    obtain rfl : m = 0 := by omega
    rfl
  · have e : encF 3 n E0 = 3 :: be 8 (top64 n) := rfl
    have l8 : (be 8 (top64 n)).length = 8 := be_len 8 _
    rw [e, List.length_cons, l8] at hm
    rw [e, List.take_succ_cons, dec3_no _ (by rw [List.length_take, l8]; omega)]
  · have e : encF 4 0 s = 4 :: (txt (sb s) ++ [0, 0]) := rfl
    rw [e, List.length_cons, List.length_append] at hm
    rw [e, List.take_succ_cons, dec4, dtx_cut (sb s) [] 1 m (by rw [sb_len]; simpa using hs) (by simp at hm; omega), txF_no]

theorem enc_dec (zs : List Int) (hz : Bs zs) (K M : Int) (S : ByteArray) (p : Int) (h : decF zs = (K, M, S, p, 0)) :
    Rt K M S = true ∧ (-9223372036854775808 ≤ M ∧ M ≤ 9223372036854775807) ∧ ∃ q : Nat, p = q ∧ q ≤ zs.length ∧ zs.take q = encF K M S := by
  rcases zs with _ | ⟨z, r⟩
  · cases h
  rw [decF] at h
  by_cases z1 : z = 1
  · subst z1
    rw [if_pos rfl] at h
    injection h with h1 h; injection h with h2 h; injection h with h3 h; injection h with h4 _
    subst h1 h2 h3 h4
    exact ⟨rfl, by omega, 1, rfl, by simp, rfl⟩
  rw [if_neg z1] at h
  by_cases z2 : z = 2
  · subst z2
    rw [if_pos rfl] at h
    rcases r with _ | ⟨b, r⟩
    · rw [if_pos (by decide)] at h; cases h
    · rw [if_neg (by simp), show (b :: r).getD 0 0 = b from rfl] at h
      have h0 : 0 ≤ b ∧ b ≤ 255 := hz 1
      by_cases hb1 : b ≤ 1
      · rw [if_pos hb1] at h
        injection h with h1 h; injection h with h2 h; injection h with h3 h; injection h with h4 _
        subst h1 h2 h3 h4
        refine ⟨decide_eq_true (.inr (.inl ⟨rfl, by omega, rfl⟩)), by omega, 2, rfl, by simp, rfl⟩
      · rw [if_neg hb1] at h; cases h
  rw [if_neg z2] at h
  by_cases z3 : z = 3
  · subst z3
    rw [if_pos rfl] at h
    by_cases hr : r.length < 8
    · rw [if_pos hr] at h; cases h
    · rw [if_neg hr] at h
      injection h with h1 h; injection h with h2 h; injection h with h3 h; injection h with h4 _
      subst h1 h2 h3 h4
      have hX := num_range (r.take 8)
      have hB : Bs (r.take 8) := Bs.take (fun j => hz (j + 1)) 8
      have l8 : (r.take 8).length = 8 := by rw [List.length_take]; omega
      refine ⟨decide_eq_true (.inr (.inr (.inl ⟨rfl, rfl⟩))), by unfold sg64; omega, 9, rfl, by rw [List.length_cons]; omega, ?_⟩
      show 3 :: r.take 8 = [3] ++ be 8 (top64 (sg64 (num (r.take 8))))
      rw [top_sg _ hX, be_num _ hB l8]
      rfl
  rw [if_neg z3] at h
  by_cases z4 : z = 4
  · subst z4
    rw [if_pos rfl] at h
    obtain ⟨⟨acc, q, e⟩, hD⟩ : ∃ D, dtx [] 1 r = D := ⟨_, rfl⟩
    rw [hD] at h
    unfold txF at h
    by_cases he : e = 0
    · subst he
      rw [if_pos rfl] at h
      injection h with h1 h; injection h with h2 h; injection h with h3 h; injection h with h4 _
      subst h1 h2 h3 h4
      obtain ⟨x, r', e1, e2, e3, e4⟩ := dtx_inv r.length r [] 1 acc q (Nat.le_refl _) (by simp) hD
      rw [List.nil_append] at e1
      subst e1
      have hx : Bs acc := by
        have hB : Bs (txt acc ++ 0 :: 0 :: r') := by rw [← e2]; exact fun j => hz (j + 1)
        exact txt_bs_inv acc fun j => by
          by_cases hj : j < (txt acc).length
          · have := hB j
            simp only [List.getD, List.getElem?_append_left hj] at this
            exact this
          · simp [List.getD, List.getElem?_eq_none (Nat.le_of_not_lt hj)]
      refine ⟨decide_eq_true (.inr (.inr (.inr ⟨rfl, rfl, by rw [strOfNums_size]; exact e4⟩))), by omega, q, rfl, ?_, ?_⟩
      · rw [List.length_cons, e2, List.length_append, e3]
        simp
        omega
      · have e5 : q = ((txt acc).length + 2) + 1 := by omega
        show (4 :: r).take q = 4 :: (txt (sb (strOfNums acc)) ++ [0, 0])
        rw [sb_str acc hx, e5, List.take_succ_cons, e2, List.take_append, List.take_of_length_le (by omega)]
        congr 2
        rw [show (txt acc).length + 2 - (txt acc).length = 2 by omega]
        rfl
    · rw [if_neg he] at h
      injection h with h1 h; injection h with h2 h; injection h with h3 h; injection h with h4 h5
      exact absurd h5 he
  rw [if_neg z4] at h
  cases h

end Go.Proofs.Ytndkoefchlclkaa
