/-
  Several texts in one: F0, F1, F2, F3, F4, F5.
-/
import Derived.Lib.BitFns
import Derived.Test.YtemfnckaehjhcaaDoorLgA
import Derived.Laws.BitsAllLaws
import Derived.Lib.Tables
/-
  Plain words on short numbers: their bytes, and what bytes begin with.
-/
namespace Go.Proofs.YtemfnckaehjhcaaDoor

/-- The k bytes ahead of the last one. -/
def hiB : Nat → Nat → List Int
  | 0, _ => []
  | k + 1, x => ((x / 128 ^ (k + 1) % 128 + 128 : Nat) : Int) :: hiB k x
/-- How many bytes stand ahead of the last one. -/
def kS (x : Nat) : Nat := if h : x < 128 then 0 else kS (x / 128) + 1
decreasing_by omega
/-- The bytes of a short number. -/
def shB (x : Nat) : List Int := hiB (kS x) x ++ [((x % 128 : Nat) : Int)]
/-- What bytes begin with: the number, how many bytes it has. -/
def loG : Nat → Nat → List Int → Option (Nat × Nat)
  | _, _, [] => none
  | i, x, c :: r => if (i = 0 ∧ c = 128) ∨ 144115188075855871 < x then none else if c < 128 then some (x * 128 + (c % 128).toNat, i + 1) else loG (i + 1) (x * 128 + (c % 128).toNat) r
def loB (b : List Int) : Option (Nat × Nat) := loG 0 0 b
/-- The number that bytes say, behind y. -/
def valB : Nat → List Int → Nat
  | y, [] => y
  | y, c :: r => valB (y * 128 + (c % 128).toNat) r

theorem kS_lt {x : Nat} (h : x < 128) : kS x = 0 := by rw [kS]; simp [h]
theorem kS_ge {x : Nat} (h : 128 ≤ x) : kS x = kS (x / 128) + 1 := by rw [kS]; simp [show ¬ x < 128 by omega]
theorem kS_bits : ∀ (x : Nat), x < 2 ^ 64 → (Lib.bitLen x - 1) / 7 = kS x := by
  intro x
  induction x using Nat.strongRecOn with
  | _ x ih =>
    intro h
    by_cases hx : x < 128
    · rw [kS_lt hx]
      have := Lib.bitLen_le x 7 (by omega) hx
      omega
    · have h1 := Lib.bitLen_shift 7 x (by omega) h
      have h2 := ih (x / 128) (by omega) (by omega)
      have h3 : 1 ≤ Lib.bitLen (x / 128) := by
        have := Lib.bitLen_half (x / 128) (by omega) (by omega)
        omega
      rw [kS_ge (by omega), ← h2]
      have : (2 : Nat) ^ 7 = 128 := by decide
      rw [this] at h1
      omega
theorem hiB_len : ∀ k x, (hiB k x).length = k
  | 0, _ => rfl
  | k + 1, x => by rw [hiB, List.length_cons, hiB_len k]
theorem shB_len (x : Nat) : (shB x).length = kS x + 1 := by rw [shB, List.length_append, hiB_len]; rfl
/-- What lies between the powers. -/
theorem kS_le : ∀ (x : Nat), 0 < x → 128 ^ kS x ≤ x := by
  intro x
  induction x using Nat.strongRecOn with
  | _ x ih =>
    intro h
    by_cases hx : x < 128
    · rw [kS_lt hx]; exact h
    · have h2 := ih (x / 128) (by omega) (by omega)
      rw [kS_ge (by omega), Nat.pow_succ]
      omega
theorem kS_up : ∀ (x : Nat), x < 128 ^ (kS x + 1) := by
  intro x
  induction x using Nat.strongRecOn with
  | _ x ih =>
    by_cases hx : x < 128
    · rw [kS_lt hx]; simpa using hx
    · have h2 := ih (x / 128) (by omega)
      rw [kS_ge (by omega), Nat.pow_succ]
      omega
theorem kS_eq {x k : Nat} (h1 : x = 0 → k = 0) (h2 : 0 < x → 128 ^ k ≤ x) (h3 : x < 128 ^ (k + 1)) : kS x = k := by
  rcases Nat.eq_zero_or_pos x with h | h
  · subst h
    rw [h1 rfl, kS_lt (by decide)]
  · have a := h2 h
    have b := kS_le x h
    have c := kS_up x
    have d : k < kS x + 1 := (Nat.pow_lt_pow_iff_right (by decide : 1 < 128)).1 (Nat.lt_of_le_of_lt a c)
    have e : kS x < k + 1 := (Nat.pow_lt_pow_iff_right (by decide : 1 < 128)).1 (Nat.lt_of_le_of_lt b h3)
    omega
theorem kS_mono {x y : Nat} (h : x ≤ y) : kS x ≤ kS y := by
  rcases Nat.eq_zero_or_pos x with h0 | h0
  · subst h0; rw [kS_lt (by decide)]; exact Nat.zero_le _
  · have a := kS_le x h0
    have b := kS_up y
    have : kS x < kS y + 1 := (Nat.pow_lt_pow_iff_right (by decide : 1 < 128)).1 (by omega)
    omega
theorem kS_nine {x : Nat} (h : x < 2 ^ 64) : kS x ≤ 9 := by
  have := Lib.bitLen_le x 64 (by omega) h
  rw [← kS_bits x h]
  omega
theorem shB_len10 {x : Nat} (h : x < 2 ^ 64) : 1 ≤ (shB x).length ∧ (shB x).length ≤ 10 := by
  rw [shB_len]
  have := kS_nine h
  omega
theorem hiB_ge : ∀ (k x : Nat), ∀ c ∈ hiB k x, 128 ≤ c ∧ c ≤ 255
  | 0, _, c, h => by cases h
  | k + 1, x, c, h => by
    rw [hiB] at h
    rcases List.mem_cons.1 h with rfl | h
    · omega
    · exact hiB_ge k x c h
theorem shB_bs (x : Nat) : ∀ c ∈ shB x, 0 ≤ c ∧ c ≤ 255 := by
  intro c h
  rw [shB] at h
  rcases List.mem_append.1 h with h | h
  · have := hiB_ge _ _ c h
    omega
  · rw [List.mem_singleton] at h
    subst h
    omega
/-- The document's way: the bytes of an 128th, and one more. -/
theorem hiB_snoc : ∀ k x, hiB (k + 1) x = hiB k (x / 128) ++ [((x / 128 % 128 + 128 : Nat) : Int)]
  | 0, x => by simp [hiB]
  | k + 1, x => by
    rw [hiB, hiB_snoc k x, hiB, List.cons_append]
    congr 2
    rw [Nat.div_div_eq_div_mul, Nat.pow_succ 128 (k + 1), Nat.mul_comm (128 ^ (k + 1)) 128]
theorem shB_ge {x : Nat} (h : 128 ≤ x) : shB x = hiB (kS (x / 128)) (x / 128) ++ [((x / 128 % 128 + 128 : Nat) : Int)] ++ [((x % 128 : Nat) : Int)] := by
  rw [shB, kS_ge h, hiB_snoc]
theorem shB_lt {x : Nat} (h : x < 128) : shB x = [(x : Int)] := by
  rw [shB, kS_lt h, hiB, List.nil_append, Nat.mod_eq_of_lt h]

theorem loG_there {x : Nat} (hx : x < 2 ^ 64) (rest : List Int) : ∀ (k i y : Nat), y = x / 128 ^ (k + 1) → (i = 0 → k = 0 ∨ x / 128 ^ k % 128 ≠ 0) →
    loG i y (hiB k x ++ [((x % 128 : Nat) : Int)] ++ rest) = some (x, i + k + 1)
  | 0, i, y, hy, _ => by
    rw [hiB, List.nil_append, List.singleton_append, loG]
    rw [Nat.zero_add, Nat.pow_one] at hy
    have hle : y ≤ 144115188075855871 := by
      have : (2 : Nat) ^ 64 = 18446744073709551616 := by decide
      omega
    rw [if_neg (by omega), if_pos (by omega)]
    congr 2
    omega
  | k + 1, i, y, hy, h0 => by
    rw [hiB, List.cons_append, List.cons_append, loG]
    have hp : (128 : Nat) ^ (k + 1 + 1) = 128 ^ (k + 1) * 128 := Nat.pow_succ ..
    have hpos : 0 < (128 : Nat) ^ (k + 1) := Nat.pow_pos (by decide)
    have hy2 : y = x / 128 ^ (k + 1) / 128 := by rw [hy, hp, Nat.div_div_eq_div_mul]
    have hle : x / 128 ^ (k + 1) ≤ x := Nat.div_le_self _ _
    have h64 : (2 : Nat) ^ 64 = 18446744073709551616 := by decide
    have h0' : i = 0 → x / 128 ^ (k + 1) % 128 ≠ 0 := fun h => (h0 h).resolve_left (by omega)
    generalize hq : x / 128 ^ (k + 1) = q at hy2 hle h0' ⊢
    rw [if_neg (by omega), if_neg (by omega)]
    have e : y * 128 + (((q % 128 + 128 : Nat) : Int) % 128).toNat = q := by omega
    rw [e, loG_there hx rest k (i + 1) q hq.symm (fun h => absurd h (by omega))]
    congr 2
    omega
theorem loB_there {x : Nat} (hx : x < 2 ^ 64) (rest : List Int) : loB (shB x ++ rest) = some (x, (shB x).length) := by
  rw [shB_len, shB, loB, loG_there hx rest (kS x) 0 0 ?_ ?_]
  · simp
  · rw [Nat.div_eq_of_lt (kS_up x)]
  · intro _
    rcases Nat.eq_zero_or_pos x with h | h
    · left; subst h; exact kS_lt (by decide)
    · right
      have a := kS_le x h
      have b := kS_up x
      rw [Nat.pow_succ] at b
      have hpos : 0 < (128 : Nat) ^ kS x := Nat.pow_pos (by decide)
      have h1 : 1 ≤ x / 128 ^ kS x := (Nat.le_div_iff_mul_le hpos).2 (by omega)
      have h2 : x / 128 ^ kS x < 128 := (Nat.div_lt_iff_lt_mul hpos).2 (by rw [Nat.mul_comm]; exact b)
      omega

theorem loG_back : ∀ (l : List Int) (i y x n : Nat), (∀ c ∈ l, 0 ≤ c ∧ c ≤ 255) → loG i y l = some (x, n) →
    ∃ k, n = i + k + 1 ∧ k + 1 ≤ l.length ∧ x < 2 ^ 64 ∧ x / 128 ^ (k + 1) = y ∧ l.take (k + 1) = hiB k x ++ [((x % 128 : Nat) : Int)] ∧ (i = 0 → y = 0 → k = 0 ∨ x / 128 ^ k % 128 ≠ 0)
  | [], _, _, _, _, _, h => by rw [loG] at h; cases h
  | c :: r, i, y, x, n, hb, h => by
    rw [loG] at h
    have h64 : (2 : Nat) ^ 64 = 18446744073709551616 := by decide
    have hc := hb c (List.mem_cons_self ..)
    split at h
    · cases h
    · rename_i hg
      split at h
      · rename_i hlt
        injection h with h
        injection h with h1 h2
        refine ⟨0, by omega, by simp, by omega, by rw [Nat.zero_add, Nat.pow_one]; omega, ?_, fun _ _ => .inl rfl⟩
        rw [hiB, List.take_succ_cons, List.take_zero, List.nil_append]
        congr 1
        omega
      · rename_i hlt
        obtain ⟨k, h1, h2, h3, h4, h5, h6⟩ := loG_back r (i + 1) _ x n (fun d hd => hb d (List.mem_cons_of_mem _ hd)) h
        have hp : (128 : Nat) ^ (k + 1 + 1) = 128 ^ (k + 1) * 128 := Nat.pow_succ ..
        refine ⟨k + 1, by omega, by simp; omega, h3, ?_, ?_, ?_⟩
        · rw [hp, ← Nat.div_div_eq_div_mul, h4]
          omega
        · rw [List.take_succ_cons, h5, hiB, List.cons_append, h4]
          congr 1
          omega
        · intro hi hy
          right
          rw [h4]
          have : c ≠ 128 := fun e => hg (.inl ⟨hi, e⟩)
          omega
theorem loB_back {b : List Int} {x n : Nat} (hb : ∀ c ∈ b, 0 ≤ c ∧ c ≤ 255) (h : loB b = some (x, n)) : x < 2 ^ 64 ∧ n = (shB x).length ∧ n ≤ b.length ∧ b.take n = shB x := by
  obtain ⟨k, h1, h2, h3, h4, h5, h6⟩ := loG_back b 0 0 x n hb h
  have hk : kS x = k := by
    have hpos : 0 < (128 : Nat) ^ (k + 1) := Nat.pow_pos (by decide)
    have hup : x < 128 ^ (k + 1) := (Nat.div_eq_zero_iff_lt hpos).1 h4
    refine kS_eq (fun hx => ?_) (fun hx => ?_) hup
    · rcases h6 rfl rfl with h | h
      · exact h
      · rw [hx, Nat.zero_div] at h
        exact absurd rfl h
    · rcases h6 rfl rfl with h | h
      · rw [h]; exact hx
      · have hp : 0 < (128 : Nat) ^ k := Nat.pow_pos (by decide)
        rcases Nat.lt_or_ge x (128 ^ k) with hl | hl
        · rw [Nat.div_eq_of_lt hl] at h
          exact absurd rfl h
        · exact hl
  have hl : (shB x).length = k + 1 := by rw [shB_len, hk]
  have hn : n = k + 1 := by omega
  refine ⟨h3, by omega, by omega, ?_⟩
  rw [hn, h5, shB, hk]
/-- Which bytes of a short number are the last: the one below 128. -/
theorem shB_last (x : Nat) : (∀ j, j < kS x → 128 ≤ (shB x).getD j 0) ∧ (shB x).getD (kS x) 0 < 128 := by
  constructor
  · intro j hj
    have hl : j < (hiB (kS x) x).length := by rw [hiB_len]; exact hj
    have : (shB x).getD j 0 = (hiB (kS x) x)[j] := by
      rw [shB]
      simp [List.getD, List.getElem?_append_left hl, hl]
    rw [this]
    exact (hiB_ge _ _ _ (List.getElem_mem hl)).1
  · have : (shB x).getD (kS x) 0 = ((x % 128 : Nat) : Int) := by
      rw [shB]
      simp [List.getD, hiB_len]
    rw [this]
    omega
theorem valB_append : ∀ (a b : List Int) (y : Nat), valB y (a ++ b) = valB (valB y a) b
  | [], _, _ => rfl
  | c :: r, b, y => by rw [List.cons_append, valB, valB, valB_append r]
theorem valB_hi (x : Nat) : ∀ k, valB (x / 128 ^ (k + 1)) (hiB k x ++ [((x % 128 : Nat) : Int)]) = x
  | 0 => by
    rw [hiB, List.nil_append, valB, valB, Nat.zero_add, Nat.pow_one]
    omega
  | k + 1 => by
    have hp : (128 : Nat) ^ (k + 1 + 1) = 128 ^ (k + 1) * 128 := Nat.pow_succ ..
    rw [hiB, List.cons_append, valB, hp, ← Nat.div_div_eq_div_mul]
    have := valB_hi x k
    generalize x / 128 ^ (k + 1) = q at this ⊢
    have e : q / 128 * 128 + (((q % 128 + 128 : Nat) : Int) % 128).toNat = q := by omega
    rw [e, this]
theorem valB_sh (x : Nat) : valB 0 (shB x) = x := by
  have := valB_hi x (kS x)
  rw [Nat.div_eq_of_lt (kS_up x)] at this
  exact this
theorem shB_inj {x y : Nat} (h : shB x = shB y) : x = y := by rw [← valB_sh x, h, valB_sh]
/-- The document's Long: at the first byte below 128 the number is asked for its bytes. -/
theorem loB_hit {b : List Int} {n : Nat} (hb : ∀ c ∈ b, 0 ≤ c ∧ c ≤ 255) (h1 : 1 ≤ n) (hn : n ≤ b.length) (hge : ∀ j, j < n - 1 → 128 ≤ b.getD j 0) (hlt : b.getD (n - 1) 0 < 128) :
    loB b = if shB (valB 0 (b.take n) % 18446744073709551616) = b.take n then some (valB 0 (b.take n) % 18446744073709551616, n) else none := by
  split
  · rename_i h
    have := loB_there (x := valB 0 (b.take n) % 18446744073709551616) (Nat.mod_lt _ (by decide)) (b.drop n)
    rw [h, List.take_append_drop, List.length_take, Nat.min_eq_left hn] at this
    exact this
  · rename_i h
    rcases hl : loB b with _ | ⟨x, m⟩
    · rfl
    · exfalso
      obtain ⟨g1, g2, g3, g4⟩ := loB_back hb hl
      have hL := shB_last x
      have hk := shB_len x
      have hget : ∀ j, j < m → b.getD j 0 = (shB x).getD j 0 := by
        intro j hj
        rw [← g4]
        simp [List.getD, hj]
      have hm : m = n := by
        rcases Nat.lt_trichotomy m n with hc | hc | hc
        · have a := hge (kS x) (by omega)
          rw [hget _ (by omega)] at a
          have := hL.2
          omega
        · exact hc
        · have a := hL.1 (n - 1) (by omega)
          rw [← hget _ (by omega)] at a
          omega
      subst hm
      apply h
      rw [g4, valB_sh, Nat.mod_eq_of_lt (by simpa using g1)]
theorem loB_miss {b : List Int} {n : Nat} (hb : ∀ c ∈ b, 0 ≤ c ∧ c ≤ 255) (hn : 10 ≤ n ∨ b.length ≤ n) (hge : ∀ j, j < n → j < b.length → 128 ≤ b.getD j 0) : loB b = none := by
  rcases hl : loB b with _ | ⟨x, m⟩
  · rfl
  · exfalso
    obtain ⟨g1, g2, g3, g4⟩ := loB_back hb hl
    have hL := shB_last x
    have hk := shB_len x
    have h9 := kS_nine g1
    have a := hge (kS x) (by omega) (by omega)
    have : b.getD (kS x) 0 = (shB x).getD (kS x) 0 := by
      rw [← g4]
      simp [List.getD, show kS x < m by omega]
    rw [this] at a
    have := hL.2
    omega
/-- Less of a short number is none, nor is it with a byte more than it needs. -/
theorem loB_part {x k : Nat} (hk : k < (shB x).length) : loB ((shB x).take k) = none := by
  refine loB_miss (n := k) (fun c h => shB_bs x c (List.mem_of_mem_take h)) (.inr (by simp; omega)) fun j hj _ => ?_
  have h := (shB_last x).1 j (by rw [shB_len] at hk; omega)
  have : ((shB x).take k).getD j 0 = (shB x).getD j 0 := by simp [List.getD, hj]
  rw [this]
  exact h
theorem loB_more (l : List Int) : loB (128 :: l) = none := by
  rw [loB, loG, if_pos (.inl ⟨rfl, rfl⟩)]

end Go.Proofs.YtemfnckaehjhcaaDoor

/-
  Plain words on messages: which may be, their plain bytes, and that these tell the message.
-/
namespace Go.Proofs.YtemfnckaehjhcaaDoor

/-- A message. -/
structure Ms where
  kind : Int
  fr : Int
  to : Int
  t : Int
  pi : Int
  pt : Int
  es : List En
  co : Int
  ok : Bool
  mem : List Int
  da : List Int
deriving DecidableEq

def ms0 : Ms := ⟨0, 0, 0, 0, 0, 0, [], 0, false, [], []⟩

/-- Which fields count of a kind, as bits: Ok 1, Place 2, Commit 4, Entries 8, Conf 16, Data 32. -/
def cntg (k : Int) : Nat := if k = 1 then 2 else if k = 2 then 1 else if k = 3 then 14 else if k = 4 then 3 else if k = 5 then 50 else 0
def filledF (m : Ms) : Nat := (if m.ok = true then 1 else 0) + (if m.pi = 0 ∧ m.pt = 0 then 0 else 2) + (if 0 < m.co then 4 else 0) + (if 0 < m.es.length then 8 else 0) + (if 0 < m.mem.length then 16 else 0) + (if 0 < m.da.length then 32 else 0)
/-- Are all fields zero that do not count? -/
def zeroF (m : Ms) : Bool :=
  (cntg m.kind % 2 = 1 || !m.ok) && (cntg m.kind / 2 % 2 = 1 || (m.pi = 0 && m.pt = 0)) && (cntg m.kind / 4 % 2 = 1 || !(0 < m.co : Bool)) &&
  (cntg m.kind / 8 % 2 = 1 || !(0 < m.es.length : Bool)) && (cntg m.kind / 16 % 2 = 1 || !(0 < m.mem.length : Bool)) && (cntg m.kind / 32 % 2 = 1 || !(0 < m.da.length : Bool))
def headR (m : Ms) : Bool := cntg m.kind ≠ 0 && (1 ≤ m.fr && m.fr ≤ 5) && (1 ≤ m.to && m.to ≤ 5) && m.fr ≠ m.to && 1 ≤ m.t && m.t ≤ 4611686018427387904
def Ms.log (m : Ms) : Lg := ⟨m.pi, m.pt, m.es⟩
def offerR (m : Ms) : Bool := m.es.length ≤ 8 && (right m.log && m.log.lastT ≤ m.t)
def memR (l : List Int) : Bool := l.length ≤ 5 && l.all fun x => 1 ≤ x && x ≤ 255
def snapR (m : Ms) : Bool := (m.kind ≠ 5 || !(m.pi = 0 && m.pt = 0 : Bool)) && memR m.mem && m.da.length ≤ 65536
/-- May a message be? -/
def rightM (m : Ms) : Bool := headR m && zeroF m && offerR m && snapR m

def shI (x : Int) : List Int := shB x.toNat
/-- The bytes of entries behind a Term. -/
def entsB : Int → List En → List Int
  | _, [] => []
  | t, e :: r => shI ((e.t - t) % 18446744073709551616) ++ (e.k % 256) :: (shB e.d.length ++ e.d) ++ entsB e.t r
def fOk (m : Ms) : List Int := [if m.ok = true then 1 else 0]
def fPl (m : Ms) : List Int := shI m.pi ++ shI m.pt
def fCo (m : Ms) : List Int := shI m.co
def fEn (m : Ms) : List Int := shB m.es.length ++ entsB m.pt m.es
def fMe (m : Ms) : List Int := shB m.mem.length ++ m.mem.map (· % 256)
def fDa (m : Ms) : List Int := shB m.da.length ++ m.da
/-- A field's bytes, by its number. -/
def fldB (m : Ms) : Nat → List Int
  | 0 => fOk m
  | 1 => fPl m
  | 2 => fCo m
  | 3 => fEn m
  | 4 => fMe m
  | _ => fDa m
/-- The bytes of the fields that count, the first k of them. -/
def fldsB (m : Ms) : Nat → List Int
  | 0 => []
  | k + 1 => fldsB m k ++ if cntg m.kind / 2 ^ k % 2 = 1 then fldB m k else []
def headB (m : Ms) : List Int := [m.kind % 256, (m.fr * 16 % 256 + m.to) % 256] ++ shI m.t
/-- The plain bytes. -/
def plainB (m : Ms) : List Int := headB m ++ fldsB m 6

end Go.Proofs.YtemfnckaehjhcaaDoor

/-
  The program's reader of messages, in plain words: what is read, how it stands; what was written is read again, and what is read is what was written.
-/
namespace Go.Proofs.YtemfnckaehjhcaaDoor

/-- How a reader stands: the bytes that are left, its error, whether something was wrong. -/
structure Rs where
  l : List Int
  e : Int
  wr : Bool
deriving DecidableEq
def Rs.good (s : Rs) : Prop := s.e = 0 ∧ s.wr = false

/-- What comes of reading: a value, and how the reader stands behind it. -/
def rdU8 (s : Rs) : Int × Rs := if s.e ≠ 0 then (0, s) else match s.l with | [] => (0, ⟨s.l, 7, s.wr⟩) | c :: r => (c, ⟨r, s.e, s.wr⟩)
def rdGo (s : Rs) (n : Nat) : Rs := if s.e ≠ 0 then s else ⟨s.l.drop n, s.e, s.wr⟩
def rdHold (s : Rs) (b : Bool) : Rs := ⟨s.l, s.e, s.wr || !b⟩
def rdSh (s : Rs) : Nat × Rs := match loB s.l with | some (x, n) => (x, rdGo s n) | none => (0, ⟨s.l, s.e, true⟩)
def rdCn (lim : Nat) (s : Rs) : Nat × Rs := if (rdHold (rdSh s).2 (decide ((rdSh s).1 ≤ lim))).wr = true then (0, rdHold (rdSh s).2 (decide ((rdSh s).1 ≤ lim))) else ((rdSh s).1, rdHold (rdSh s).2 (decide ((rdSh s).1 ≤ lim)))
def rdRaw (n : Nat) (s : Rs) : List Int × Rs := if s.e ≠ 0 then ([], s) else if s.l.length < n then ([], ⟨s.l, 7, s.wr⟩) else (s.l.take n, ⟨s.l.drop n, s.e, s.wr⟩)
/-- One entry behind a Term. -/
def rdEn (t : Int) (s : Rs) : En × Rs :=
  (⟨(t + (rdSh s).1) % 18446744073709551616, (rdU8 (rdSh s).2).1, (rdRaw (rdCn 1024 (rdU8 (rdSh s).2).2).1 (rdCn 1024 (rdU8 (rdSh s).2).2).2).1⟩,
   (rdRaw (rdCn 1024 (rdU8 (rdSh s).2).2).1 (rdCn 1024 (rdU8 (rdSh s).2).2).2).2)
def rdEs : Nat → Int → Rs → List En × Rs
  | 0, _, s => ([], s)
  | n + 1, t, s => ((rdEn t s).1 :: (rdEs n (rdEn t s).1.t (rdEn t s).2).1, (rdEs n (rdEn t s).1.t (rdEn t s).2).2)
def rdMs : Nat → Rs → List Int × Rs
  | 0, s => ([], s)
  | n + 1, s => ((rdU8 s).1 :: (rdMs n (rdU8 s).2).1, (rdMs n (rdU8 s).2).2)
/-- A message under way, and how its reader stands. -/
structure Rq where
  m : Ms
  s : Rs
deriving DecidableEq
def rdHead (q : Rq) : Rq :=
  ⟨{ q.m with kind := (rdU8 q.s).1, fr := (rdU8 (rdU8 q.s).2).1 / 16, to := (rdU8 (rdU8 q.s).2).1 % 16, t := (rdSh (rdU8 (rdU8 q.s).2).2).1 }, (rdSh (rdU8 (rdU8 q.s).2).2).2⟩
def rdOk (q : Rq) : Rq := ⟨{ q.m with ok := (rdU8 q.s).1 == 1 }, rdHold (rdU8 q.s).2 (decide ((rdU8 q.s).1 ≤ 1))⟩
def rdPl (q : Rq) : Rq := ⟨{ q.m with pi := (rdSh q.s).1, pt := (rdSh (rdSh q.s).2).1 }, (rdSh (rdSh q.s).2).2⟩
def rdCo (q : Rq) : Rq := ⟨{ q.m with co := (rdSh q.s).1 }, (rdSh q.s).2⟩
def rdEnt (q : Rq) : Rq := ⟨{ q.m with es := q.m.es ++ (rdEs (rdCn 8 q.s).1 q.m.pt (rdCn 8 q.s).2).1 }, (rdEs (rdCn 8 q.s).1 q.m.pt (rdCn 8 q.s).2).2⟩
def rdCf (q : Rq) : Rq := ⟨{ q.m with mem := q.m.mem ++ (rdMs (rdCn 5 q.s).1 (rdCn 5 q.s).2).1 }, (rdMs (rdCn 5 q.s).1 (rdCn 5 q.s).2).2⟩
def rdDa (q : Rq) : Rq := ⟨{ q.m with da := (rdRaw (rdCn 65536 q.s).1 (rdCn 65536 q.s).2).1 }, (rdRaw (rdCn 65536 q.s).1 (rdCn 65536 q.s).2).2⟩
def rdF : Nat → Rq → Rq
  | 0 => rdOk
  | 1 => rdPl
  | 2 => rdCo
  | 3 => rdEnt
  | 4 => rdCf
  | _ => rdDa
/-- The fields that count of a kind, the first k of them. -/
def rdFs (kd : Int) : Nat → Rq → Rq
  | 0, q => q
  | k + 1, q => if cntg kd / 2 ^ k % 2 = 1 then rdF k (rdFs kd k q) else rdFs kd k q
def rdAll (p : List Int) : Rq := rdFs (rdHead ⟨ms0, ⟨p, 0, false⟩⟩).m.kind 6 (rdHead ⟨ms0, ⟨p, 0, false⟩⟩)
/-- The message that plain bytes tell, and whether these are such. -/
def rdOkB (p : List Int) : Bool := !(rdAll p).s.wr && ((rdAll p).s.e == 0 && (rdAll p).s.l.length == 0)

/-! ### What is written is read. -/
theorem rdU8_cons (c : Int) (r : List Int) : rdU8 ⟨c :: r, 0, false⟩ = (c, ⟨r, 0, false⟩) := rfl
theorem rdSh_there {x : Nat} (hx : x < 2 ^ 64) (r : List Int) : rdSh ⟨shB x ++ r, 0, false⟩ = (x, ⟨r, 0, false⟩) := by
  unfold rdSh
  simp only [loB_there hx r]
  unfold rdGo
  simp
theorem rdSh_int {x : Int} (h0 : 0 ≤ x) (hx : x < 18446744073709551616) (r : List Int) : rdSh ⟨shI x ++ r, 0, false⟩ = (x.toNat, ⟨r, 0, false⟩) := rdSh_there (by omega) r
theorem rdCn_there {lim x : Nat} (hl : x ≤ lim) (hx : x < 2 ^ 64) (r : List Int) : rdCn lim ⟨shB x ++ r, 0, false⟩ = (x, ⟨r, 0, false⟩) := by
  unfold rdCn
  rw [rdSh_there hx r]
  simp [rdHold, hl]
theorem rdRaw_there {d r : List Int} {n : Nat} (hn : d.length = n) : rdRaw n ⟨d ++ r, 0, false⟩ = (d, ⟨r, 0, false⟩) := by
  subst hn
  unfold rdRaw
  simp
theorem rdEn_there {t : Int} {e : En} (ht : 0 ≤ t) (hte : t ≤ e.t) (he : e.t < 18446744073709551616) (hk : 0 ≤ e.k) (hk' : e.k < 256) (hd : e.d.length ≤ 1024) (r : List Int) :
    rdEn t ⟨shI ((e.t - t) % 18446744073709551616) ++ (e.k % 256) :: (shB e.d.length ++ e.d) ++ r, 0, false⟩ = (e, ⟨r, 0, false⟩) := by
  have h1 : (e.t - t) % 18446744073709551616 = e.t - t := by omega
  unfold rdEn
  rw [List.append_assoc, rdSh_int (by omega) (by omega), List.cons_append, rdU8_cons, List.append_assoc]
  simp only
  rw [rdCn_there hd (by omega) _]
  simp only
  rw [rdRaw_there rfl]
  simp only
  obtain ⟨et, ek, ed⟩ := e
  simp only at *
  congr 2
  · omega
  · omega
theorem rdEs_there : ∀ (es : List En) (t : Int) (r : List Int), 0 ≤ t → behind t es = true → (∀ e ∈ es, e.t < 18446744073709551616) →
    rdEs es.length t ⟨entsB t es ++ r, 0, false⟩ = (es, ⟨r, 0, false⟩)
  | [], _, _, _, _, _ => rfl
  | e :: es, t, r, ht, hb, hl => by
    unfold behind at hb
    simp only [Bool.and_eq_true, decide_eq_true_eq] at hb
    obtain ⟨hr, hte, hb⟩ := hb
    unfold rightE at hr
    simp only [Bool.and_eq_true, decide_eq_true_eq] at hr
    obtain ⟨_, hd, hk⟩ := hr
    have hk' : e.k = 1 ∨ e.k = 2 ∨ e.k = 3 := by
      split at hk
      · exact .inl (by assumption)
      · exact .inr (by simpa using hk)
    rw [List.length_cons, rdEs, entsB, List.append_assoc, rdEn_there ht hte (hl e (List.mem_cons_self ..)) (by omega) (by omega) hd]
    simp only
    rw [rdEs_there es e.t r (by omega) hb (fun x hx => hl x (List.mem_cons_of_mem _ hx))]
theorem rdMs_there : ∀ (l r : List Int), (∀ x ∈ l, 0 ≤ x ∧ x < 256) → rdMs l.length ⟨l.map (· % 256) ++ r, 0, false⟩ = (l, ⟨r, 0, false⟩)
  | [], _, _ => rfl
  | x :: l, r, h => by
    have hx := h x (List.mem_cons_self ..)
    rw [List.length_cons, rdMs, List.map_cons, List.cons_append, rdU8_cons]
    simp only
    rw [rdMs_there l r (fun y hy => h y (List.mem_cons_of_mem _ hy)), show x % 256 = x by omega]

/-- A message's numbers lie in their types' bounds. -/
structure Ms.In (m : Ms) : Prop where
  t0 : 0 ≤ m.t
  t1 : m.t < 18446744073709551616
  pi0 : 0 ≤ m.pi
  pi1 : m.pi < 18446744073709551616
  pt0 : 0 ≤ m.pt
  pt1 : m.pt < 18446744073709551616
  co0 : 0 ≤ m.co
  co1 : m.co < 18446744073709551616
  es : ∀ e ∈ m.es, e.t < 18446744073709551616

theorem cntg_cases (k : Int) : cntg k = 0 ∨ (k = 1 ∧ cntg k = 2) ∨ (k = 2 ∧ cntg k = 1) ∨ (k = 3 ∧ cntg k = 14) ∨ (k = 4 ∧ cntg k = 3) ∨ (k = 5 ∧ cntg k = 50) := by
  unfold cntg
  split
  · exact .inr (.inl ⟨by assumption, rfl⟩)
  · split
    · exact .inr (.inr (.inl ⟨by assumption, rfl⟩))
    · split
      · exact .inr (.inr (.inr (.inl ⟨by assumption, rfl⟩)))
      · split
        · exact .inr (.inr (.inr (.inr (.inl ⟨by assumption, rfl⟩))))
        · split
          · exact .inr (.inr (.inr (.inr (.inr ⟨by assumption, rfl⟩))))
          · exact .inl rfl

structure Ms.R (m : Ms) : Prop where
  k : m.kind = 1 ∨ m.kind = 2 ∨ m.kind = 3 ∨ m.kind = 4 ∨ m.kind = 5
  fr : 1 ≤ m.fr ∧ m.fr ≤ 5
  to : 1 ≤ m.to ∧ m.to ≤ 5
  es : m.es.length ≤ 8
  b : behind m.pt m.es = true
  mem : m.mem.length ≤ 5
  mem1 : ∀ x ∈ m.mem, 1 ≤ x ∧ x ≤ 255
  da : m.da.length ≤ 65536
  z0 : cntg m.kind % 2 = 1 ∨ m.ok = false
  z1 : cntg m.kind / 2 % 2 = 1 ∨ (m.pi = 0 ∧ m.pt = 0)
  z2 : cntg m.kind / 4 % 2 = 1 ∨ ¬ 0 < m.co
  z3 : cntg m.kind / 8 % 2 = 1 ∨ m.es = []
  z4 : cntg m.kind / 16 % 2 = 1 ∨ m.mem = []
  z5 : cntg m.kind / 32 % 2 = 1 ∨ m.da = []
theorem rightM_R {m : Ms} (h : rightM m = true) : m.R := by
  unfold rightM headR zeroF offerR snapR memR at h
  simp only [Bool.and_eq_true, Bool.or_eq_true, decide_eq_true_eq, Bool.not_eq_true', decide_eq_false_iff_not, List.all_eq_true] at h
  obtain ⟨⟨⟨⟨⟨⟨⟨⟨hk, hf⟩, ht⟩, hne⟩, _⟩, _⟩, ⟨⟨⟨⟨⟨z0, z1⟩, z2⟩, z3⟩, z4⟩, z5⟩⟩, hes, hr, _⟩, ⟨_, hm, hm1⟩, hd⟩ := h
  have hnil : ∀ {α : Type} (l : List α), ¬ 0 < l.length → l = [] := fun l hl => List.eq_nil_of_length_eq_zero (by omega)
  refine ⟨?_, hf, ht, hes, (right_parts hr).2.2.1, hm, hm1, hd, z0, z1, z2, z3.imp id (hnil _), z4.imp id (hnil _), z5.imp id (hnil _)⟩
  rcases cntg_cases m.kind with h | h | h | h | h | h
  · exact absurd h hk
  · exact .inl h.1
  · exact .inr (.inl h.1)
  · exact .inr (.inr (.inl h.1))
  · exact .inr (.inr (.inr (.inl h.1)))
  · exact .inr (.inr (.inr (.inr h.1)))

theorem rdHead_there {m : Ms} (hr : m.R) (hi : m.In) (r : List Int) : rdHead ⟨ms0, ⟨headB m ++ r, 0, false⟩⟩ = ⟨{ ms0 with kind := m.kind, fr := m.fr, to := m.to, t := m.t }, ⟨r, 0, false⟩⟩ := by
  have h1 := hr.k; have h2 := hr.fr; have h3 := hr.to; have h4 := hi.t0; have h5 := hi.t1
  unfold rdHead headB
  simp only [List.cons_append, List.nil_append, rdU8_cons]
  rw [rdSh_int h4 h5]
  simp only [ms0]
  congr 2 <;> omega

theorem rdOk_there (m0 m : Ms) (r : List Int) : rdOk ⟨m0, ⟨fOk m ++ r, 0, false⟩⟩ = ⟨{ m0 with ok := m.ok }, ⟨r, 0, false⟩⟩ := by
  unfold rdOk fOk
  simp only [List.cons_append, List.nil_append, rdU8_cons]
  cases m.ok <;> rfl
theorem rdPl_there {m : Ms} (m0 : Ms) (hi : m.In) (r : List Int) : rdPl ⟨m0, ⟨fPl m ++ r, 0, false⟩⟩ = ⟨{ m0 with pi := m.pi, pt := m.pt }, ⟨r, 0, false⟩⟩ := by
  unfold rdPl fPl
  simp only [List.append_assoc]
  rw [rdSh_int hi.pi0 hi.pi1]
  simp only
  rw [rdSh_int hi.pt0 hi.pt1]
  simp only [Int.toNat_of_nonneg hi.pi0, Int.toNat_of_nonneg hi.pt0]
theorem rdCo_there {m : Ms} (m0 : Ms) (hi : m.In) (r : List Int) : rdCo ⟨m0, ⟨fCo m ++ r, 0, false⟩⟩ = ⟨{ m0 with co := m.co }, ⟨r, 0, false⟩⟩ := by
  unfold rdCo fCo
  rw [rdSh_int hi.co0 hi.co1]
  simp only [Int.toNat_of_nonneg hi.co0]
theorem rdEnt_there {m m0 : Ms} (hr : m.R) (hi : m.In) (h0 : m0.es = []) (ht : m0.pt = m.pt) (r : List Int) : rdEnt ⟨m0, ⟨fEn m ++ r, 0, false⟩⟩ = ⟨{ m0 with es := m.es }, ⟨r, 0, false⟩⟩ := by
  unfold rdEnt fEn
  simp only [List.append_assoc]
  rw [rdCn_there hr.es (by have := hr.es; omega)]
  simp only [ht, h0, List.nil_append]
  rw [rdEs_there _ _ _ hi.pt0 hr.b hi.es]
theorem rdCf_there {m m0 : Ms} (hr : m.R) (h0 : m0.mem = []) (r : List Int) : rdCf ⟨m0, ⟨fMe m ++ r, 0, false⟩⟩ = ⟨{ m0 with mem := m.mem }, ⟨r, 0, false⟩⟩ := by
  unfold rdCf fMe
  simp only [List.append_assoc]
  rw [rdCn_there hr.mem (by have := hr.mem; omega)]
  simp only [h0, List.nil_append]
  rw [rdMs_there _ _ (fun x hx => by have := hr.mem1 x hx; omega)]
theorem rdDa_there {m : Ms} (m0 : Ms) (hr : m.R) (r : List Int) : rdDa ⟨m0, ⟨fDa m ++ r, 0, false⟩⟩ = ⟨{ m0 with da := m.da }, ⟨r, 0, false⟩⟩ := by
  unfold rdDa fDa
  simp only [List.append_assoc]
  rw [rdCn_there hr.da (by have := hr.da; omega)]
  simp only
  rw [rdRaw_there rfl]

/-- What was written is read. -/
theorem rdAll_there {m : Ms} (h : rightM m = true) (hi : m.In) : rdAll (plainB m) = ⟨m, ⟨[], 0, false⟩⟩ := by
  have hr := rightM_R h
  obtain ⟨k1, k2, k3, k4, k5, k6, k7, k8, z0, z1, z2, z3, z4, z5⟩ := id hr
  have hco := hi.co0
  have hz2 : cntg m.kind / 4 % 2 = 1 ∨ m.co = 0 := z2.imp id (fun h => by omega)
  unfold rdAll plainB
  rw [rdHead_there hr hi]
  simp only
  obtain ⟨kind, fr, to, t, pi, pt, es, co, ok, mem, da⟩ := m
  simp only at *
  rcases k1 with rfl | rfl | rfl | rfl | rfl
  · obtain rfl : ok = false := z0.resolve_left (by decide)
    obtain rfl : co = 0 := hz2.resolve_left (by decide)
    obtain rfl : es = [] := z3.resolve_left (by decide)
    obtain rfl : mem = [] := z4.resolve_left (by decide)
    obtain rfl : da = [] := z5.resolve_left (by decide)
    simp only [rdFs, fldsB, cntg, rdF, fldB, reduceIte, Int.reduceEq, Nat.reducePow, Nat.reduceDiv, Nat.reduceMod, Nat.reduceEqDiff, List.append_nil, List.nil_append]
    rw [← List.append_nil (fPl _), rdPl_there _ hi]
    rfl
  · obtain ⟨rfl, rfl⟩ : pi = 0 ∧ pt = 0 := z1.resolve_left (by decide)
    obtain rfl : co = 0 := hz2.resolve_left (by decide)
    obtain rfl : es = [] := z3.resolve_left (by decide)
    obtain rfl : mem = [] := z4.resolve_left (by decide)
    obtain rfl : da = [] := z5.resolve_left (by decide)
    simp only [rdFs, fldsB, cntg, rdF, fldB, reduceIte, Int.reduceEq, Nat.reducePow, Nat.reduceDiv, Nat.reduceMod, Nat.reduceEqDiff, List.append_nil, List.nil_append]
    rw [← List.append_nil (fOk _), rdOk_there]
    rfl
  · obtain rfl : ok = false := z0.resolve_left (by decide)
    obtain rfl : mem = [] := z4.resolve_left (by decide)
    obtain rfl : da = [] := z5.resolve_left (by decide)
    simp only [rdFs, fldsB, cntg, rdF, fldB, reduceIte, Int.reduceEq, Nat.reducePow, Nat.reduceDiv, Nat.reduceMod, Nat.reduceEqDiff, List.append_nil, List.nil_append]
    rw [List.append_assoc, rdPl_there _ hi, rdCo_there _ hi, ← List.append_nil (fEn _), rdEnt_there hr hi ?_ ?_] <;> rfl
  · obtain rfl : co = 0 := hz2.resolve_left (by decide)
    obtain rfl : es = [] := z3.resolve_left (by decide)
    obtain rfl : mem = [] := z4.resolve_left (by decide)
    obtain rfl : da = [] := z5.resolve_left (by decide)
    simp only [rdFs, fldsB, cntg, rdF, fldB, reduceIte, Int.reduceEq, Nat.reducePow, Nat.reduceDiv, Nat.reduceMod, Nat.reduceEqDiff, List.append_nil, List.nil_append]
    rw [rdOk_there, ← List.append_nil (fPl _), rdPl_there _ hi]
    rfl
  · obtain rfl : ok = false := z0.resolve_left (by decide)
    obtain rfl : co = 0 := hz2.resolve_left (by decide)
    obtain rfl : es = [] := z3.resolve_left (by decide)
    simp only [rdFs, fldsB, cntg, rdF, fldB, reduceIte, Int.reduceEq, Nat.reducePow, Nat.reduceDiv, Nat.reduceMod, Nat.reduceEqDiff, List.append_nil, List.nil_append]
    rw [List.append_assoc, rdPl_there _ hi, rdCf_there hr ?_, ← List.append_nil (fDa _), rdDa_there _ hr] <;> rfl
theorem rdOkB_there {m : Ms} (h : rightM m = true) (hi : m.In) : rdOkB (plainB m) = true := by
  unfold rdOkB
  rw [rdAll_there h hi]
  rfl
/-- Two unlike messages have unlike plain bytes. -/
theorem plainB_inj {a b : Ms} (ha : rightM a = true) (hb : rightM b = true) (ia : a.In) (ib : b.In) (h : plainB a = plainB b) : a = b := by
  have h1 := rdAll_there ha ia
  rw [h, rdAll_there hb ib] at h1
  injection h1 with h1
  exact h1.symm

end Go.Proofs.YtemfnckaehjhcaaDoor

/-
  What the program's reader reads is what was written: the plain bytes of the message that it tells.
-/
namespace Go.Proofs.YtemfnckaehjhcaaDoor

def BsL (l : List Int) : Prop := ∀ c ∈ l, 0 ≤ c ∧ c ≤ 255
theorem BsL.right {a b : List Int} (h : BsL (a ++ b)) : BsL b := fun c hc => h c (List.mem_append_right _ hc)
theorem BsL.left {a b : List Int} (h : BsL (a ++ b)) : BsL a := fun c hc => h c (List.mem_append_left _ hc)

theorem rdU8_back {s : Rs} (hg : (rdU8 s).2.good) : s.good ∧ s.l = (rdU8 s).1 :: (rdU8 s).2.l := by
  obtain ⟨l, e, wr⟩ := s
  unfold rdU8 Rs.good at *
  by_cases he : e = 0
  · subst he
    cases l with
    | nil => simp at hg
    | cons c r =>
      simp at hg
      exact ⟨⟨rfl, hg⟩, rfl⟩
  · simp [he] at hg
theorem rdSh_back {s : Rs} (hb : BsL s.l) (hg : (rdSh s).2.good) : s.good ∧ s.l = shB (rdSh s).1 ++ (rdSh s).2.l ∧ (rdSh s).1 < 2 ^ 64 := by
  obtain ⟨l, e, wr⟩ := s
  unfold rdSh at *
  simp only at *
  rcases hl : loB l with _ | ⟨x, n⟩
  · rw [hl] at hg
    exact absurd hg.2 (by simp)
  · rw [hl] at hg
    obtain ⟨h1, h2, h3, h4⟩ := loB_back hb hl
    unfold rdGo Rs.good at *
    by_cases he : e = 0
    · subst he
      simp at hg
      refine ⟨⟨rfl, hg⟩, ?_, h1⟩
      simp [← h4]
    · simp [he] at hg
theorem rdHold_back {s : Rs} {b : Bool} (hg : (rdHold s b).good) : s.good ∧ b = true ∧ (rdHold s b).l = s.l := by
  unfold rdHold Rs.good at *
  simp at hg
  exact ⟨⟨hg.1, hg.2.1⟩, hg.2.2, rfl⟩
theorem rdCn_back {lim : Nat} {s : Rs} (hb : BsL s.l) (hg : (rdCn lim s).2.good) : s.good ∧ s.l = shB (rdCn lim s).1 ++ (rdCn lim s).2.l ∧ (rdCn lim s).1 ≤ lim ∧ (rdCn lim s).1 < 2 ^ 64 := by
  unfold rdCn at *
  by_cases hw : (rdHold (rdSh s).2 (decide ((rdSh s).1 ≤ lim))).wr = true
  · rw [if_pos hw] at hg
    exact absurd hg.2 (by rw [hw]; decide)
  · rw [if_neg hw] at hg ⊢
    obtain ⟨h1, h2, h3⟩ := rdHold_back hg
    obtain ⟨g1, g2, g3⟩ := rdSh_back hb h1
    exact ⟨g1, g2, of_decide_eq_true h2, g3⟩
theorem rdRaw_back {n : Nat} {s : Rs} (hg : (rdRaw n s).2.good) : s.good ∧ s.l = (rdRaw n s).1 ++ (rdRaw n s).2.l ∧ (rdRaw n s).1.length = n := by
  obtain ⟨l, e, wr⟩ := s
  unfold rdRaw Rs.good at *
  by_cases he : e = 0
  · subst he
    by_cases hl : l.length < n
    · simp [hl] at hg
    · simp [hl] at hg ⊢
      exact ⟨hg, by omega⟩
  · simp [he] at hg
theorem BsL.drop {l : List Int} (h : BsL l) (n : Nat) : BsL (l.drop n) := fun c hc => h c (List.mem_of_mem_drop hc)
theorem rdU8_bs {s : Rs} (h : BsL s.l) : BsL (rdU8 s).2.l := by
  obtain ⟨l, e, wr⟩ := s
  unfold rdU8
  by_cases he : e = 0
  · cases l with
    | nil => simp [he]; exact h
    | cons c r => simp [he]; exact fun x hx => h x (List.mem_cons_of_mem _ hx)
  · simp [he]; exact h
theorem rdGo_bs {s : Rs} (h : BsL s.l) (n : Nat) : BsL (rdGo s n).l := by
  unfold rdGo
  split
  · exact h
  · exact h.drop n
theorem rdSh_bs {s : Rs} (h : BsL s.l) : BsL (rdSh s).2.l := by
  unfold rdSh
  split
  · exact rdGo_bs h _
  · exact h
theorem rdCn_bs {lim : Nat} {s : Rs} (h : BsL s.l) : BsL (rdCn lim s).2.l := by
  unfold rdCn
  split <;> exact rdSh_bs h
theorem rdRaw_bs {n : Nat} {s : Rs} (h : BsL s.l) : BsL (rdRaw n s).2.l := by
  unfold rdRaw
  split
  · exact h
  · split
    · exact h
    · exact h.drop n
theorem rdEn_bs {t : Int} {s : Rs} (h : BsL s.l) : BsL (rdEn t s).2.l := rdRaw_bs (rdCn_bs (rdU8_bs (rdSh_bs h)))
theorem rdEs_bs : ∀ (n : Nat) (t : Int) (s : Rs), BsL s.l → BsL (rdEs n t s).2.l
  | 0, _, _, h => h
  | n + 1, _, _, h => rdEs_bs n _ _ (rdEn_bs h)
theorem rdMs_bs : ∀ (n : Nat) (s : Rs), BsL s.l → BsL (rdMs n s).2.l
  | 0, _, h => h
  | n + 1, _, h => rdMs_bs n _ (rdU8_bs h)
theorem rdU8_lt {s : Rs} (hb : BsL s.l) : 0 ≤ (rdU8 s).1 ∧ (rdU8 s).1 ≤ 255 := by
  obtain ⟨l, e, wr⟩ := s
  unfold rdU8
  by_cases he : e = 0
  · cases l with
    | nil => simp [he]
    | cons c r => simp [he]; exact hb c (List.mem_cons_self ..)
  · simp [he]
theorem rdEn_back {t : Int} {s : Rs} (ht : 0 ≤ t) (ht' : t < 18446744073709551616) (hb : BsL s.l) (hg : (rdEn t s).2.good) :
    s.good ∧ s.l = shI (((rdEn t s).1.t - t) % 18446744073709551616) ++ ((rdEn t s).1.k % 256) :: (shB (rdEn t s).1.d.length ++ (rdEn t s).1.d) ++ (rdEn t s).2.l := by
  have b1 := rdSh_bs hb
  have b2 := rdU8_bs b1
  have hk := rdU8_lt b1
  obtain ⟨g3, e3, n3⟩ := rdRaw_back (s := (rdCn 1024 (rdU8 (rdSh s).2).2).2) (n := (rdCn 1024 (rdU8 (rdSh s).2).2).1) hg
  obtain ⟨g2, e2, _, _⟩ := rdCn_back b2 g3
  obtain ⟨g1, e1⟩ := rdU8_back g2
  obtain ⟨g0, e0, x0⟩ := rdSh_back hb g1
  refine ⟨g0, ?_⟩
  have hx : (((t + ((rdSh s).1 : Int)) % 18446744073709551616 - t) % 18446744073709551616).toNat = (rdSh s).1 := by
    have : (2 : Nat) ^ 64 = 18446744073709551616 := by decide
    omega
  unfold rdEn shI
  simp only
  rw [hx, n3, e0]
  simp only [List.append_assoc, List.cons_append]
  rw [← e3, ← e2, show (rdU8 (rdSh s).2).1 % 256 = (rdU8 (rdSh s).2).1 by omega, ← e1]
theorem rdEn_t {t : Int} {s : Rs} : 0 ≤ (rdEn t s).1.t ∧ (rdEn t s).1.t < 18446744073709551616 := by
  unfold rdEn
  simp only
  omega
theorem rdEs_back : ∀ (n : Nat) (t : Int) (s : Rs), 0 ≤ t → t < 18446744073709551616 → BsL s.l → (rdEs n t s).2.good →
    s.good ∧ s.l = entsB t (rdEs n t s).1 ++ (rdEs n t s).2.l
  | 0, _, s, _, _, _, hg => ⟨hg, rfl⟩
  | n + 1, t, s, h0, h1, hb, hg => by
    have ht := @rdEn_t t s
    obtain ⟨g1, e1⟩ := rdEs_back n _ _ ht.1 ht.2 (rdEn_bs hb) hg
    obtain ⟨g0, e0⟩ := rdEn_back h0 h1 hb g1
    refine ⟨g0, ?_⟩
    rw [rdEs, entsB]
    simp only [List.append_assoc, List.cons_append] at e0 ⊢
    rw [← e1]
    exact e0
theorem rdEs_len : ∀ (n : Nat) (t : Int) (s : Rs), (rdEs n t s).1.length = n
  | 0, _, _ => rfl
  | n + 1, t, s => by rw [rdEs, List.length_cons, rdEs_len n]
theorem rdEs_t : ∀ (n : Nat) (t : Int) (s : Rs), ∀ e ∈ (rdEs n t s).1, 0 ≤ e.t ∧ e.t < 18446744073709551616
  | 0, _, _, e, h => by cases h
  | n + 1, t, s, e, h => by
    rw [rdEs] at h
    rcases List.mem_cons.1 h with rfl | h
    · exact rdEn_t
    · exact rdEs_t n _ _ e h
theorem rdMs_back : ∀ (n : Nat) (s : Rs), BsL s.l → (rdMs n s).2.good → s.good ∧ s.l = (rdMs n s).1.map (· % 256) ++ (rdMs n s).2.l
  | 0, s, _, hg => ⟨hg, rfl⟩
  | n + 1, s, hb, hg => by
    have hk := rdU8_lt hb
    obtain ⟨g1, e1⟩ := rdMs_back n _ (rdU8_bs hb) hg
    obtain ⟨g0, e0⟩ := rdU8_back g1
    refine ⟨g0, ?_⟩
    rw [rdMs, List.map_cons, List.cons_append, ← e1, show (rdU8 s).1 % 256 = (rdU8 s).1 by omega]
    exact e0
theorem rdMs_len : ∀ (n : Nat) (s : Rs), (rdMs n s).1.length = n
  | 0, _ => rfl
  | n + 1, s => by rw [rdMs, List.length_cons, rdMs_len n]

theorem rdOk_back {q : Rq} (hb : BsL q.s.l) (hg : (rdOk q).s.good) : q.s.good ∧ q.s.l = fOk (rdOk q).m ++ (rdOk q).s.l := by
  obtain ⟨h1, h2, h3⟩ := rdHold_back (s := (rdU8 q.s).2) (b := decide ((rdU8 q.s).1 ≤ 1)) hg
  obtain ⟨g0, e0⟩ := rdU8_back h1
  refine ⟨g0, ?_⟩
  have hle := of_decide_eq_true h2
  have h0 := (rdU8_lt hb).1
  unfold rdOk fOk
  simp only
  rw [h3, e0, List.cons_append, List.nil_append]
  congr 1
  rcases (show (rdU8 q.s).1 = 0 ∨ (rdU8 q.s).1 = 1 by omega) with h | h <;> rw [h] <;> rfl
theorem rdPl_back {q : Rq} (hb : BsL q.s.l) (hg : (rdPl q).s.good) : q.s.good ∧ q.s.l = fPl (rdPl q).m ++ (rdPl q).s.l := by
  obtain ⟨g1, e1, x1⟩ := rdSh_back (s := (rdSh q.s).2) (rdSh_bs hb) hg
  obtain ⟨g0, e0, x0⟩ := rdSh_back hb g1
  refine ⟨g0, ?_⟩
  unfold rdPl fPl shI
  simp only [Int.toNat_natCast, List.append_assoc]
  rw [← e1]
  exact e0
theorem rdCo_back {q : Rq} (hb : BsL q.s.l) (hg : (rdCo q).s.good) : q.s.good ∧ q.s.l = fCo (rdCo q).m ++ (rdCo q).s.l := by
  obtain ⟨g0, e0, x0⟩ := rdSh_back hb hg
  refine ⟨g0, ?_⟩
  unfold rdCo fCo shI
  simp only [Int.toNat_natCast]
  exact e0
theorem rdEnt_back {q : Rq} (hb : BsL q.s.l) (h0 : q.m.es = []) (hp : 0 ≤ q.m.pt) (hp' : q.m.pt < 18446744073709551616) (hg : (rdEnt q).s.good) : q.s.good ∧ q.s.l = fEn (rdEnt q).m ++ (rdEnt q).s.l := by
  obtain ⟨g1, e1⟩ := rdEs_back _ _ (rdCn 8 q.s).2 hp hp' (rdCn_bs hb) hg
  obtain ⟨g0, e0, _⟩ := rdCn_back hb g1
  refine ⟨g0, ?_⟩
  unfold rdEnt fEn
  simp only [h0, List.nil_append, rdEs_len, List.append_assoc]
  rw [← e1]
  exact e0
theorem rdCf_back {q : Rq} (hb : BsL q.s.l) (h0 : q.m.mem = []) (hg : (rdCf q).s.good) : q.s.good ∧ q.s.l = fMe (rdCf q).m ++ (rdCf q).s.l := by
  obtain ⟨g1, e1⟩ := rdMs_back _ (rdCn 5 q.s).2 (rdCn_bs hb) hg
  obtain ⟨g0, e0, _⟩ := rdCn_back hb g1
  refine ⟨g0, ?_⟩
  unfold rdCf fMe
  simp only [h0, List.nil_append, rdMs_len, List.append_assoc]
  rw [← e1]
  exact e0
theorem rdDa_back {q : Rq} (hb : BsL q.s.l) (hg : (rdDa q).s.good) : q.s.good ∧ q.s.l = fDa (rdDa q).m ++ (rdDa q).s.l := by
  obtain ⟨g1, e1, n1⟩ := rdRaw_back (s := (rdCn 65536 q.s).2) hg
  obtain ⟨g0, e0, _⟩ := rdCn_back hb g1
  refine ⟨g0, ?_⟩
  unfold rdDa fDa
  simp only [n1, List.append_assoc]
  rw [← e1]
  exact e0
theorem rdHead_back {q : Rq} (hb : BsL q.s.l) (hg : (rdHead q).s.good) : q.s.good ∧ q.s.l = headB (rdHead q).m ++ (rdHead q).s.l := by
  have b1 := rdU8_bs hb
  have b2 := rdU8_bs b1
  obtain ⟨g2, e2, x2⟩ := rdSh_back b2 hg
  obtain ⟨g1, e1⟩ := rdU8_back g2
  obtain ⟨g0, e0⟩ := rdU8_back g1
  refine ⟨g0, ?_⟩
  have h1 := rdU8_lt hb
  have h2 := rdU8_lt b1
  unfold rdHead headB shI
  simp only [Int.toNat_natCast, List.append_assoc, List.cons_append, List.nil_append]
  rw [e0, e1, e2, show (rdU8 q.s).1 % 256 = (rdU8 q.s).1 by omega, show ((rdU8 (rdU8 q.s).2).1 / 16 * 16 % 256 + (rdU8 (rdU8 q.s).2).1 % 16) % 256 = (rdU8 (rdU8 q.s).2).1 by omega]
theorem rdHead_bs {q : Rq} (h : BsL q.s.l) : BsL (rdHead q).s.l := rdSh_bs (rdU8_bs (rdU8_bs h))
theorem rdOk_bs {q : Rq} (h : BsL q.s.l) : BsL (rdOk q).s.l := rdU8_bs (s := q.s) h
theorem rdPl_bs {q : Rq} (h : BsL q.s.l) : BsL (rdPl q).s.l := rdSh_bs (rdSh_bs h)
theorem rdCo_bs {q : Rq} (h : BsL q.s.l) : BsL (rdCo q).s.l := rdSh_bs h
theorem rdEnt_bs {q : Rq} (h : BsL q.s.l) : BsL (rdEnt q).s.l := rdEs_bs _ _ _ (rdCn_bs h)
theorem rdCf_bs {q : Rq} (h : BsL q.s.l) : BsL (rdCf q).s.l := rdMs_bs _ _ (rdCn_bs h)
theorem rdF_bs {q : Rq} (h : BsL q.s.l) : ∀ k, BsL (rdF k q).s.l
  | 0 => rdOk_bs h
  | 1 => rdPl_bs h
  | 2 => rdCo_bs h
  | 3 => rdEnt_bs h
  | 4 => rdCf_bs h
  | _ + 5 => rdRaw_bs (rdCn_bs h)

/-- What the reader has read of a message: its numbers in their bounds. -/
theorem rdSh_lt {s : Rs} (hb : BsL s.l) : (rdSh s).1 < 2 ^ 64 := by
  unfold rdSh
  split
  · rename_i x n h
    exact (loB_back hb h).1
  · exact Nat.pow_pos (by decide)
theorem In0 : ms0.In := ⟨by decide, by decide, by decide, by decide, by decide, by decide, by decide, by decide, fun e he => by cases he⟩
theorem rdHead_in {q : Rq} (hb : BsL q.s.l) (h : q.m.In) : (rdHead q).m.In := by
  have := rdSh_lt (rdU8_bs (rdU8_bs hb))
  obtain ⟨a, b, c, d, e, f, g, i, j⟩ := h
  exact ⟨Int.natCast_nonneg _, by show ((rdSh (rdU8 (rdU8 q.s).2).2).1 : Int) < _; omega, c, d, e, f, g, i, j⟩
theorem rdF_in {q : Rq} (hb : BsL q.s.l) (h : q.m.In) : ∀ k, (rdF k q).m.In := by
  obtain ⟨a, b, c, d, e, f, g, i, j⟩ := h
  have h1 := rdSh_lt hb
  have h2 := rdSh_lt (rdSh_bs hb)
  intro k
  match k with
  | 0 => exact ⟨a, b, c, d, e, f, g, i, j⟩
  | 1 => exact ⟨a, b, Int.natCast_nonneg _, by show ((rdSh q.s).1 : Int) < _; omega, Int.natCast_nonneg _, by show ((rdSh (rdSh q.s).2).1 : Int) < _; omega, g, i, j⟩
  | 2 => exact ⟨a, b, c, d, e, f, Int.natCast_nonneg _, by show ((rdSh q.s).1 : Int) < _; omega, j⟩
  | 3 =>
    refine ⟨a, b, c, d, e, f, g, i, fun x hx => ?_⟩
    rcases List.mem_append.1 hx with hx | hx
    · exact j x hx
    · exact (rdEs_t _ _ _ x hx).2
  | 4 => exact ⟨a, b, c, d, e, f, g, i, j⟩
  | _ + 5 => exact ⟨a, b, c, d, e, f, g, i, j⟩
theorem rdFs_bs {q : Rq} (kd : Int) (h : BsL q.s.l) : ∀ k, BsL (rdFs kd k q).s.l
  | 0 => h
  | k + 1 => by
    rw [rdFs]
    split
    · exact rdF_bs (rdFs_bs kd h k) k
    · exact rdFs_bs kd h k
theorem rdFs_in {q : Rq} (kd : Int) (hb : BsL q.s.l) (h : q.m.In) : ∀ k, (rdFs kd k q).m.In
  | 0 => h
  | k + 1 => by
    rw [rdFs]
    split
    · exact rdF_in (rdFs_bs kd hb k) (rdFs_in kd hb h k) k
    · exact rdFs_in kd hb h k
theorem rdAll_in {p : List Int} (hp : BsL p) : (rdAll p).m.In := rdFs_in _ (rdHead_bs (q := ⟨ms0, ⟨p, 0, false⟩⟩) hp) (rdHead_in (q := ⟨ms0, ⟨p, 0, false⟩⟩) hp In0) 6

/-- What is read is what was written. -/
theorem rdAll_back {p : List Int} (hp : BsL p) (h : rdOkB p = true) (hk : cntg (rdAll p).m.kind ≠ 0) : plainB (rdAll p).m = p := by
  unfold rdOkB at h
  simp only [Bool.and_eq_true, Bool.not_eq_true', beq_iff_eq] at h
  obtain ⟨hw, he, hl⟩ := h
  have hnil : (rdAll p).s.l = [] := List.eq_nil_of_length_eq_zero hl
  have hg : (rdAll p).s.good := ⟨he, hw⟩
  have hb0 := rdHead_bs (q := ⟨ms0, ⟨p, 0, false⟩⟩) hp
  have hi0 := rdHead_in (q := ⟨ms0, ⟨p, 0, false⟩⟩) hp In0
  have hH := rdHead_back (q := ⟨ms0, ⟨p, 0, false⟩⟩) hp
  have hm : ∃ kd fr to t, (rdHead ⟨ms0, ⟨p, 0, false⟩⟩).m = ⟨kd, fr, to, t, 0, 0, [], 0, false, [], []⟩ := ⟨_, _, _, _, rfl⟩
  unfold rdAll at *
  generalize rdHead ⟨ms0, ⟨p, 0, false⟩⟩ = q at *
  obtain ⟨kd, fr, to, t, hm⟩ := hm
  obtain ⟨m, s⟩ := q
  simp only at hm hH hb0 hi0 hg hnil hk ⊢
  subst hm
  simp only at *
  have hkd : (rdFs kd 6 ⟨⟨kd, fr, to, t, 0, 0, [], 0, false, [], []⟩, s⟩).m.kind = kd := by
    simp only [rdFs, rdF]
    repeat' (first | rfl | split)
  rw [hkd] at hk
  rcases cntg_cases kd with h | ⟨rfl, h⟩ | ⟨rfl, h⟩ | ⟨rfl, h⟩ | ⟨rfl, h⟩ | ⟨rfl, h⟩
  · exact absurd h hk
  all_goals
    clear hkd hk hw he hl
    simp only [rdFs, h, rdF, Nat.reducePow, Nat.reduceDiv, Nat.reduceMod, Nat.reduceEqDiff, reduceIte, Nat.zero_ne_one] at hg hnil ⊢
  · obtain ⟨g1, e1⟩ := rdPl_back hb0 hg
    obtain ⟨g0, e0⟩ := hH g1
    rw [e0, e1, hnil]
    unfold plainB
    simp only [fldsB, fldB, rdPl, h, Nat.reducePow, Nat.reduceDiv, Nat.reduceMod, Nat.reduceEqDiff, reduceIte, List.append_nil, List.nil_append]
    try simp only [List.append_assoc]
    rfl
  · obtain ⟨g1, e1⟩ := rdOk_back hb0 hg
    obtain ⟨g0, e0⟩ := hH g1
    rw [e0, e1, hnil]
    unfold plainB
    simp only [fldsB, fldB, rdOk, h, Nat.reducePow, Nat.reduceDiv, Nat.reduceMod, Nat.reduceEqDiff, reduceIte, List.append_nil, List.nil_append]
    try simp only [List.append_assoc]
    rfl
  · obtain ⟨g3, e3⟩ := rdEnt_back (rdCo_bs (rdPl_bs hb0)) rfl (rdF_in hb0 hi0 1).pt0 (rdF_in hb0 hi0 1).pt1 hg
    obtain ⟨g2, e2⟩ := rdCo_back (rdPl_bs hb0) g3
    obtain ⟨g1, e1⟩ := rdPl_back hb0 g2
    obtain ⟨g0, e0⟩ := hH g1
    rw [e0, e1, e2, e3, hnil]
    unfold plainB
    simp only [fldsB, fldB, rdPl, rdCo, rdEnt, h, Nat.reducePow, Nat.reduceDiv, Nat.reduceMod, Nat.reduceEqDiff, reduceIte, List.append_nil, List.nil_append]
    try simp only [List.append_assoc]
    rfl
  · obtain ⟨g2, e2⟩ := rdPl_back (rdOk_bs hb0) hg
    obtain ⟨g1, e1⟩ := rdOk_back hb0 g2
    obtain ⟨g0, e0⟩ := hH g1
    rw [e0, e1, e2, hnil]
    unfold plainB
    simp only [fldsB, fldB, rdOk, rdPl, h, Nat.reducePow, Nat.reduceDiv, Nat.reduceMod, Nat.reduceEqDiff, reduceIte, List.append_nil, List.nil_append]
    try simp only [List.append_assoc]
    rfl
  · obtain ⟨g3, e3⟩ := rdDa_back (rdCf_bs (rdPl_bs hb0)) hg
    obtain ⟨g2, e2⟩ := rdCf_back (rdPl_bs hb0) rfl g3
    obtain ⟨g1, e1⟩ := rdPl_back hb0 g2
    obtain ⟨g0, e0⟩ := hH g1
    rw [e0, e1, e2, e3, hnil]
    unfold plainB
    simp only [fldsB, fldB, rdPl, rdCf, rdDa, h, Nat.reducePow, Nat.reduceDiv, Nat.reduceMod, Nat.reduceEqDiff, reduceIte, List.append_nil, List.nil_append]
    try simp only [List.append_assoc]
    rfl

end Go.Proofs.YtemfnckaehjhcaaDoor

/-
  Bytes that are appended to: words; how many bits a number has; the bytes of a short number.
-/
namespace Go.Proofs.YtemfnckaehjhcaaDoor
open Go.RowKit

/-- All blocks below base lie as they lay, and from there on rows of bytes alone turned. -/
structure Bw (base : Nat) (w w' : World) : Prop where
  below : Below base w w'
  other : ∀ g t cs, t ≠ 5 → Blk w g t cs → Blk w' g t cs
theorem Bw.refl (base : Nat) (w : World) : Bw base w w := ⟨Below.refl _ _, fun _ _ _ _ h => h⟩
theorem Bw.trans {base : Nat} {a b c : World} (h : Bw base a b) (h' : Bw base b c) : Bw base a c := ⟨h.below.trans h'.below, fun g t cs ht hg => h'.other g t cs ht (h.other g t cs ht hg)⟩
theorem Bw.alloc {base : Nat} {a b : World} (h : Bw base a b) (hb : base ≤ b.heap.size) (o : Obj) : Bw base a (b.alloc o) := ⟨h.below.alloc hb o, fun g t cs ht hg => (h.other g t cs ht hg).alloc o⟩
theorem Bw.of_below {base : Nat} {a b : World} (h : Below a.heap.size a b) (hb : base ≤ a.heap.size) : Bw base a b := ⟨h.mono hb, fun _ _ _ _ hg => hg.below h hg.lt⟩
theorem Bw.grown {base b2 n2 : Nat} {w w' : World} {v : Value} {xs : List Value} (hr : w.ownsRow b2 5 1 v n2 xs) (hb2 : base ≤ b2) (hb : base ≤ w.heap.size) (hg : w.grownBy w' v.ownBlock) : Bw base w w' := by
  refine ⟨(Below.refl _ _).grown hg hb fun k hk => ?_, fun g t cs ht h => ?_⟩
  · rcases hr.2 with ⟨rfl, _⟩ | ⟨g2, cap, cur, rfl, hb3, _, _⟩
    · simp [Value.ownBlock] at hk
    · simp only [Value.ownBlock, Option.some.injEq] at hk
      omega
  · refine (hg.block g h.lt fun e => ?_).trans h
    rcases hr.2 with ⟨rfl, _⟩ | ⟨g2, cap, cur, rfl, _, hh, _⟩
    · simp [Value.ownBlock] at e
    · simp only [Value.ownBlock, Option.some.injEq] at e
      subst e
      unfold Blk at h
      rw [h] at hh
      injection hh with hh
      injection hh with _ h2 _
      exact ht h2
/-- What comes of bytes that are put behind others. -/
def Puts (w : World) (base n : Nat) (zs more : List Int) (e : Ending) (w' : World) : Prop :=
  ∃ A' c', e = .returned (.slice A' (n + more.length) c') ∧ Own w' base A' (n + more.length) c' (zs ++ more) ∧ Bw base w w'

theorem bs1 {b : Int} (h0 : 0 ≤ b) (h1 : b ≤ 255) : Bs [b] := fun j => by
  match j with
  | 0 => exact ⟨h0, h1⟩
  | j + 1 => simp
theorem bs_of_mem {l : List Int} (h : ∀ c ∈ l, 0 ≤ c ∧ c ≤ 255) : Bs l := fun j => by
  by_cases hj : j < l.length
  · have := h l[j] (List.getElem_mem hj)
    simpa [List.getD, hj] using this
  · simp [List.getD, List.getElem?_eq_none (Nat.le_of_not_lt hj)]
theorem mem_of_bs {l : List Int} (h : Bs l) : ∀ c ∈ l, 0 ≤ c ∧ c ≤ 255 := fun c hc => by
  obtain ⟨j, hj, rfl⟩ := List.getElem_of_mem hc
  have := h j
  simpa [List.getD, hj] using this
/-- append of one byte onto bytes of one's own. -/
theorem append_one {w : World} {ops : Array Oper} {rest : List Oper} {o : Oper} {a : Act} {Q : Exit → Act → World → Prop} (hgd : o.guard = none) (s x : Operand)
    (ho : o.op = .call { callee := .builtin .append, args := #[s, x], argTypes := #[29, 29] }) (base : Nat) (A : Option Addr) (n c : Nat) (zs : List Int) (hs : a.eval s = .slice A n c) (hown : Own w base A n c zs)
    (b : Int) (h0 : 0 ≤ b) (h1 : b ≤ 255) (hx : a.eval x = .slice (some ⟨w.heap.size, 0, none⟩) 1 1) (hsum : n + 1 ≤ 140737488355328) (hbase : base ≤ w.heap.size)
    (h : ∀ A2 c2 w', Own w' base A2 (n + 1) c2 (zs ++ [b]) → Bw base w w' → wpList Tryd.prog ops Q rest (a.put o.dst (.slice A2 (n + 1) c2)) w') : wpList Tryd.prog ops Q (o :: rest) a (w.alloc (.cells #[.int .u8 b] 5)) := by
  have ho' : Own (w.alloc (.cells #[.int .u8 b] 5)) base A n c zs := hown.below ((Below.refl _ _).alloc (Nat.le_refl _) _)
  refine append_by hgd s x ho base A n c zs hs ho' (w.heap.size + 1) (some ⟨w.heap.size, 0, none⟩) 1 1 [b] hx ⟨rfl, bs1 h0 h1, fun _ => ⟨w.heap.size, 0, rfl, by omega, fun j hj => ?_⟩⟩ (fun e => by cases e) hsum (by simp; omega) ?_
  · obtain rfl : j = 0 := by omega
    exact (Blk.new w 5 #[.int .u8 b]).cell 0
  · intro A2 c2 w' ho2 hg
    exact h A2 c2 w' ho2 (((Bw.refl base w).alloc hbase _).trans (Bw.grown ho'.1 (Nat.le_refl _) (by simp; omega) hg))

theorem tab_at (t : ByteArray) (k : Nat) (h : k < t.size) : (t[k]?).getD 0 = t[k] := by
  rw [getElem?_pos t k h]
  rfl
theorem len8at (i : Int) (h : i.toNat < Lib.len8tab.size) : (Lib.len8tab[i.toNat].toNat : Int) = (Lib.bitLen i.toNat : Int) := by
  have h' := h
  rw [Lib.len8tab_size] at h'
  have e : ((Lib.len8tab[i.toNat]'h).toNat : Int) = Lib.len8 (i.toNat : Int) := by
    unfold Lib.len8
    rw [Int.toNat_natCast]
    exact congrArg (fun b : UInt8 => (b.toNat : Int)) (tab_at Lib.len8tab i.toNat h).symm
  rw [e, Lib.len8_of _ (by omega) (by omega), Int.toNat_natCast]
theorem bitLen8 {k : Nat} (h : k < 256) : Lib.bitLen k ≤ 8 := Lib.bitLen_le8 ⟨k, h⟩

theorem bl_sh (k D : Nat) (x y : Int) (hD : D = 2 ^ k) (h0 : 0 ≤ x) (h1 : x ≤ 18446744073709551615) (hge : (D : Int) ≤ x) (hy : y = x / (D : Int)) (_h : y < 256) : Lib.bitLen x.toNat = k + Lib.bitLen y.toNat := by
  have h := Lib.bitLen_shift k x.toNat (by omega) (by omega)
  have e : y.toNat = x.toNat / 2 ^ k := by
    rw [hy, ← hD]
    obtain ⟨n, rfl⟩ := Int.eq_ofNat_of_zero_le h0
    rw [Int.toNat_natCast, ← Int.natCast_ediv, Int.toNat_natCast]
  rw [h, e]
theorem bl_8 {y : Int} (h : y < 256) : Lib.bitLen y.toNat ≤ 8 := bitLen8 (by omega)
theorem wr8 (k : Nat) {b : Nat} (h : b ≤ 8) (hk : k ≤ 56) : wrap64 ((k : Int) + wrap64 (b : Int)) = ((k + b : Nat) : Int) := by
  unfold wrap64
  omega
theorem wr0 {b : Nat} (h : b ≤ 8) : wrap64 (wrap64 (b : Int)) = (b : Int) := by
  unfold wrap64
  omega

set_option maxHeartbeats 4000000 in
set_option maxRecDepth 100000 in
/-- bits.Len64. -/
theorem len64_any (x : Int) (w : World) (h0 : 0 ≤ x) (h1 : x ≤ 18446744073709551615) :
    Calls Tryd.prog 60 #[.int .u64 x] w fun e w' => e = .returned (.int .i64 (Lib.bitLen x.toNat)) ∧ w' = w := by
  go_enter Tryd.func60, Tryd.ntmps60
  go_wp2
  all_goals first
    | (exfalso; simp only [Lib.len8tab_size] at *; omega)
    | (simp only [len8at]
       go_ret
       refine ⟨congrArg Ending.returned (congrArg (Value.int IntKind.i64) ?_), rfl⟩
       first
         | (have hb := bl_sh 56 72057594037927936 x (x / 4294967296 / 65536 / 256) rfl h0 h1 (by omega) (by omega) (by omega); have h8 := bl_8 (y := x / 4294967296 / 65536 / 256) (by omega); rw [hb]; exact wr8 56 h8 (by omega))
         | (have hb := bl_sh 48 281474976710656 x (x / 4294967296 / 65536) rfl h0 h1 (by omega) (by omega) (by omega); have h8 := bl_8 (y := x / 4294967296 / 65536) (by omega); rw [hb]; exact wr8 48 h8 (by omega))
         | (have hb := bl_sh 40 1099511627776 x (x / 4294967296 / 256) rfl h0 h1 (by omega) (by omega) (by omega); have h8 := bl_8 (y := x / 4294967296 / 256) (by omega); rw [hb]; exact wr8 40 h8 (by omega))
         | (have hb := bl_sh 32 4294967296 x (x / 4294967296) rfl h0 h1 (by omega) (by omega) (by omega); have h8 := bl_8 (y := x / 4294967296) (by omega); rw [hb]; exact wr8 32 h8 (by omega))
         | (have hb := bl_sh 24 16777216 x (x / 65536 / 256) rfl h0 h1 (by omega) (by omega) (by omega); have h8 := bl_8 (y := x / 65536 / 256) (by omega); rw [hb]; exact wr8 24 h8 (by omega))
         | (have hb := bl_sh 16 65536 x (x / 65536) rfl h0 h1 (by omega) (by omega) (by omega); have h8 := bl_8 (y := x / 65536) (by omega); rw [hb]; exact wr8 16 h8 (by omega))
         | (have hb := bl_sh 8 256 x (x / 256) rfl h0 h1 (by omega) (by omega) (by omega); have h8 := bl_8 (y := x / 256) (by omega); rw [hb]; exact wr8 8 h8 (by omega))
         | (have h8 := bl_8 (y := x) (by omega); exact wr8 0 h8 (by omega))
         | exact wr0 (bl_8 (y := x) (by omega)))

theorem not128 : ∀ b : Fin 256, bits .andNot .u8 (b.val : Int) 128 = ((b.val % 128 : Nat) : Int) := by decide +kernel
theorem or128 : ∀ b : Fin 256, bits .or .u8 (b.val : Int) 128 = ((b.val % 128 + 128 : Nat) : Int) := by decide +kernel
theorem low7 (x : Nat) : bits .andNot .u8 ((x : Int) % 256) 128 = ((x % 128 : Nat) : Int) := by
  have h := not128 ⟨x % 256, by omega⟩
  simp only at h
  rw [show ((x : Int) % 256) = ((x % 256 : Nat) : Int) by omega, h]
  congr 1
  omega
theorem low7m (x : Nat) : bits .or .u8 ((x : Int) % 256) 128 = ((x % 128 + 128 : Nat) : Int) := by
  have h := or128 ⟨x % 256, by omega⟩
  simp only at h
  rw [show ((x : Int) % 256) = ((x % 256 : Nat) : Int) by omega, h]
  congr 1
  omega
theorem up7 (x k : Nat) : bits .or .u8 ((x : Int) / 2 ^ (7 * (k + 1)) % 256) 128 = ((x / 128 ^ (k + 1) % 128 + 128 : Nat) : Int) := by
  have e : ((x : Int) / 2 ^ (7 * (k + 1))) = ((x / 128 ^ (k + 1) : Nat) : Int) := by
    have h2 : (2 : Nat) ^ (7 * (k + 1)) = 128 ^ (k + 1) := by rw [Nat.pow_mul]
    have h3 : (2 : Int) ^ (7 * (k + 1)) = ((2 ^ (7 * (k + 1)) : Nat) : Int) := by rw [Int.natCast_pow]; rfl
    rw [h3, h2, Int.natCast_ediv]
  rw [e, low7m]

set_option maxHeartbeats 4000000 in
theorem putshort_any (base : Nat) (A : Option Addr) (n c : Nat) (zs : List Int) (x : Nat) (w : World) (ho : Own w base A n c zs) (hb : base ≤ w.heap.size) (hn : n ≤ 1000000) (hx : x < 2 ^ 64) :
    Calls Tryd.prog 42 #[.slice A n c, .int .u64 (x : Int)] w (Puts w base n zs (shB x)) := by
  have LN := Lib.hid (len64_any (x : Int) w (by omega) (by omega))
  have hk := kS_bits x hx
  have hk9 := kS_nine hx
  have hbl := Lib.bitLen_le x 64 (by omega) hx
  go_enter Tryd.func42, Tryd.ntmps42
  go_wp2_with (go_at_call 60; refine LN.out.mono ?_; rintro e w1 ⟨rfl, rfl⟩)
  have hmx : max 0 ((Lib.bitLen x : Int) - 1) / 7 = (kS x : Int) := by omega
  rw [hmx]
  obtain ⟨K, hK⟩ : ∃ K, K = kS x := ⟨_, rfl⟩
  rw [← hK] at hk9 ⊢
  have HS : Hid (shB x = hiB K x ++ [((x % 128 : Nat) : Int)]) := by rw [hK]; exact rfl
  clear hmx hk hbl LN
  have HO := Lib.hid ho
  clear ho
  go_loopw [0, 5] (fun bv i wr => ∃ (k : Nat) (A1 : Option Addr) (c1 : Nat) (zs1 : List Int), k ≤ K ∧ i = .int .i64 k ∧ bv = .slice A1 (n + (K - k)) c1 ∧ Hid (zs1 ++ hiB k x = zs ++ hiB K x) ∧ Own wr base A1 (n + (K - k)) c1 zs1 ∧ Bw base w1 wr) (fun _ i _ => (intOf i).toNat)
  case atStart => exact ⟨K, A, c, zs, Nat.le_refl _, rfl, by rw [Nat.sub_self, Nat.add_zero], rfl, by rw [Nat.sub_self, Nat.add_zero]; exact HO.out, Bw.refl _ _⟩
  case round =>
    obtain ⟨k, A1, c1, zs1, hk, rfl, rfl, hz, ho1, hbw⟩ := hrel
    have O1 := Lib.hid ho1
    have BW := Lib.hid hbw
    clear ho1 hbw HO
    have hwb : base ≤ wr.heap.size := Nat.le_trans hb BW.out.below.size
    clear hK
    cases k with
    | zero =>
      obtain ⟨d, hd⟩ : ∃ d : Int, bits .andNot .u8 ((x : Int) % 256) 128 = d := ⟨_, rfl⟩
      have HD := Lib.hid (hd.symm.trans (low7 x))
      have d0 : 0 ≤ d := by have := HD.out; omega
      have d1 : d ≤ 255 := by have := HD.out; omega
      go_wp2_with (at_builtin; refine append_one rfl (.tmp 24) (.tmp 28) rfl base A1 (n + K) c1 zs1 rfl O1.out d d0 d1 rfl (by omega) hwb ?_; intro A2 c2 w2 ho2 hb2)
      go_ret
      have hz0 := hz.out
      rw [hiB, List.append_nil] at hz0
      have hl : n + (shB x).length = n + (K - 0) + 1 := by rw [HS.out, List.length_append, hiB_len]; simp; omega
      have hs : zs ++ shB x = zs1 ++ [d] := by rw [HS.out, hz0, HD.out, List.append_assoc]
      refine ⟨A2, c2, ?_, ?_, BW.out.trans hb2⟩
      · rw [hl]; rfl
      · rw [hl, hs]; exact ho2
    | succ k =>
      obtain ⟨d, hd⟩ : ∃ d : Int, bits .or .u8 ((x : Int) / 2 ^ (7 * (k + 1)) % 256) 128 = d := ⟨_, rfl⟩
      have HD := Lib.hid (hd.symm.trans (up7 x k))
      have d0 : 0 ≤ d := by have := HD.out; omega
      have d1 : d ≤ 255 := by have := HD.out; omega
      go_wp2_with (at_builtin; refine append_one rfl (.tmp 15) (.tmp 22) rfl base A1 (n + (K - (k + 1))) c1 zs1 rfl O1.out d d0 d1 rfl (by omega) hwb ?_; intro A2 c2 w2 ho2 hb2)
      go_roundw
      case rel => 
        refine ⟨k, A2, c2, zs1 ++ [d], by omega, by go_num, ?_, ?_, ?_, BW.out.trans hb2⟩
        · rw [show n + (K - k) = n + (K - (k + 1)) + 1 by omega]
        · have := hz.out
          rw [hiB] at this
          rw [HD.out, List.append_assoc]
          exact this
        · rw [show n + (K - k) = n + (K - (k + 1)) + 1 by omega]; exact ho2
      case measure => simp [intOf]

theorem short_any (x : Nat) (w : World) (hx : x < 2 ^ 64) : Calls Tryd.prog 17 #[.int .u64 (x : Int)] w (Puts w w.heap.size 0 [] (shB x)) := by
  have PS := Lib.hid (putshort_any w.heap.size none 0 0 [] x w ⟨World.ownsRow_nil _ _ _ _, fun j => by simp⟩ (Nat.le_refl _) (by omega) hx)
  go_enter Tryd.func17, Tryd.ntmps17
  go_wp2_with (go_at_call 42; refine PS.out.mono ?_; rintro e w1 ⟨A', c', rfl, ho, hb⟩)
  go_ret
  exact ⟨A', c', by simp, ho, hb⟩

end Go.Proofs.YtemfnckaehjhcaaDoor

/-
  What bytes begin with: the program's Long.
-/
namespace Go.Proofs.YtemfnckaehjhcaaDoor
open Go.RowKit

/-- What Long answers. -/
def loR : Option (Nat × Nat) → Value
  | some (x, n) => .tuple #[.int .u64 (x : Int), .int .i64 (n : Int), .bool true]
  | none => .tuple #[.int .u64 0, .int .i64 0, .bool false]

theorem loG_drop {zs : List Int} {k : Nat} (y : Nat) (h : k < zs.length) : loG k y (zs.drop k) =
    if (k = 0 ∧ zs.getD k 0 = 128) ∨ 144115188075855871 < y then none else if zs.getD k 0 < 128 then some (y * 128 + (zs.getD k 0 % 128).toNat, k + 1) else loG (k + 1) (y * 128 + (zs.getD k 0 % 128).toNat) (zs.drop (k + 1)) := by
  have e : zs.getD k 0 = zs[k] := by simp [List.getD, h]
  rw [List.drop_eq_getElem_cons h, e, loG]
theorem not7 {c : Int} (h0 : 0 ≤ c) (h1 : c ≤ 255) : bits .andNot .u8 c 128 = c % 128 := by
  have h := not128 ⟨c.toNat, by omega⟩
  simp only at h
  rw [Int.toNat_of_nonneg h0] at h
  rw [h]
  omega
theorem or7 (y m : Int) (h0 : 0 ≤ y) (h1 : y ≤ 144115188075855871) (hm : 0 ≤ m ∧ m < 128) : bits .or .u64 (IntKind.u64.wrap (y * 128)) m = y * 128 + m := by
  have hw : IntKind.u64.wrap (y * 128) = 128 * y := by rw [IntKind.wrap_u64]; omega
  rw [hw]
  obtain ⟨x, rfl⟩ := Int.eq_ofNat_of_zero_le h0
  obtain ⟨v, rfl⟩ := Int.eq_ofNat_of_zero_le hm.1
  rw [show (128 * (x : Int)) = ((128 * x : Nat) : Int) by omega, u64_or_nat _ _ (by omega) (by omega)]
  have := Nat.two_pow_add_eq_or_of_lt (i := 7) (b := v) (by omega) x
  rw [show 128 * x = 2 ^ 7 * x by omega, ← this]
  omega
theorem resT3 {fn : Func} {p q r : Tmp} (h : fn.results = #[.tmp p, .tmp q, .tmp r]) (tmps : Array Value) (w : World) (x y z : Value) (hp : tmps.getD p undef = x) (hq : tmps.getD q undef = y) (hr : tmps.getD r undef = z) : (results fn tmps).run Tryd.prog w = .ok (.tuple #[x, y, z]) w := by
  subst hp hq hr
  simp [results, h, go_sem]

set_option maxHeartbeats 2000000 in
theorem long_any (A : Option Addr) (n c B : Nat) (zs : List Int) (w : World) (h : By w B A n zs) (hn : n ≤ 140737488355328) :
    Calls Tryd.prog 19 #[.slice A n c] w fun e w' => e = .returned (loR (loB zs)) ∧ w = w' := by
  have HL := Lib.hid h.1
  have HB := Lib.hid h.2.1
  have H := Lib.hid h.2.2
  clear h
  go_enter Tryd.func19, Tryd.ntmps19
  go_wp2
  go_loopw [5, 10] (fun xv i wr => ∃ k y : Nat, k ≤ n ∧ i = .int .i64 k ∧ xv = .int .u64 y ∧ Hid (loB zs = loG k y (zs.drop k)) ∧ wr = w) (fun _ i _ => n - (intOf i).toNat)
  case atStart => exact ⟨0, 0, Nat.zero_le _, rfl, rfl, Lib.hid rfl, rfl⟩
  case round =>
    obtain ⟨k, y, hk, rfl, rfl, hz, rfl⟩ := hrel
    by_cases hlt : k < n
    · obtain ⟨b, o, rfl, hb, hc⟩ := H.out (by omega)
      have c1 := hc k hlt
      have hz2 := hz.out.trans (loG_drop y (by rw [HL.out]; exact hlt))
      have hbz := HB.out k
      clear hc hz
      generalize zs.getD k 0 = z at c1 hz2 hbz
      obtain ⟨z0, z1⟩ := hbz
      have n7 := not7 z0 z1
      by_cases hbr : (k = 0 ∧ z = 128) ∨ 144115188075855871 < y
      · rw [if_pos hbr] at hz2
        have HZ := Lib.hid hz2
        clear hz2
        have hcs : (((k : Int) == 0) = true ∧ (z == 128) = true) ∨ (((k : Int) == 0) = true ∧ (z == 128) = false ∧ decide ((144115188075855871 : Int) < (y : Int)) = true) ∨ (((k : Int) == 0) = false ∧ decide ((144115188075855871 : Int) < (y : Int)) = true) := by
          simp only [beq_iff_eq, beq_eq_false_iff_ne, decide_eq_true_eq]
          omega
        clear hbr
        rcases hcs with ⟨k0, z8⟩ | ⟨k0, z8, yb⟩ | ⟨k0, yb⟩
        all_goals
          go_wp2
          exact bodyPost_ret (resT3 rfl _ _ _ _ _ rfl rfl rfl) rfl ⟨by rw [HZ.out]; rfl, rfl⟩
      · rw [if_neg hbr] at hz2
        have yl : (y : Int) ≤ 144115188075855871 := by omega
        have yb : decide ((144115188075855871 : Int) < (y : Int)) = false := decide_eq_false (by omega)
        have yo := or7 (y : Int) (z % 128) (by omega) yl (by omega)
        have hcs : (((k : Int) == 0) = true ∧ (z == 128) = false) ∨ ((k : Int) == 0) = false := by
          simp only [beq_iff_eq, beq_eq_false_iff_ne]
          omega
        clear hbr
        obtain ⟨y2, hy2⟩ : ∃ y2 : Nat, y2 = y * 128 + (z % 128).toNat := ⟨_, rfl⟩
        rw [← hy2] at hz2
        have ye : (y : Int) * 128 + z % 128 = (y2 : Int) := by omega
        rw [ye] at yo
        clear ye hy2 yl
        by_cases hz8 : z < 128
        · rw [if_pos hz8] at hz2
          have HZ := Lib.hid hz2
          clear hz2
          rcases hcs with ⟨k0, z8⟩ | k0
          all_goals
            go_wp2
            exact bodyPost_ret (resT3 rfl _ _ _ _ _ rfl rfl rfl) rfl ⟨by rw [HZ.out]; rfl, rfl⟩
        · rw [if_neg hz8] at hz2
          have HZ := Lib.hid hz2
          clear hz2
          rcases hcs with ⟨k0, z8⟩ | k0
          all_goals
            go_wp2
            go_roundw
            case rel => exact ⟨k + 1, y2, by omega, by go_num, rfl, HZ, by first | rfl | trivial⟩
            case measure => simp [intOf]; omega
    · obtain rfl : k = n := by omega
      have hn0 : Hid (loB zs = none) := Lib.hid (by rw [hz.out, List.drop_of_length_le (by rw [HL.out]; omega), loG])
      clear hz
      go_wp2
      exact bodyPost_ret (resT3 rfl _ _ _ _ _ rfl rfl rfl) rfl ⟨by rw [hn0.out]; rfl, rfl⟩

end Go.Proofs.YtemfnckaehjhcaaDoor
