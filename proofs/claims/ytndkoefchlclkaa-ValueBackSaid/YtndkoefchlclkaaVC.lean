/-
  The program's Reckon, whole.
-/
import Derived.Test.YtndkoefchlclkaaVB
import Derived.Test.YtndkoefchlclkaaV7
namespace Go.Proofs.Ytndkoefchlclkaa
open Go.RowKit

def rkV (op a b : Int) : Int := if op = 1 then ovN (a + b) else if op = 2 then ovN (a - b) else if op = 3 then ovN (a * b) else if b = 0 then 0 else if op = 4 then ovN (a.tdiv b) else a.tmod b
def rkE (op a b : Int) : Int := if op = 1 then ovE (a + b) else if op = 2 then ovE (a - b) else if op = 3 then ovE (a * b) else if b = 0 then 152 else if op = 4 then ovE (a.tdiv b) else 0
/-- What Reckon answers: the error, the value's Kind, its number. -/
def recE (op k n : Int) (s : ByteArray) (k' n' : Int) (s' : ByteArray) : Int :=
  if askd op 6 k n s k' n' s' ≠ 0 then askd op 6 k n s k' n' s' else if ¬ (k = 1 ∨ k = 3) ∨ ¬ (k' = 1 ∨ k' = 3) then 153 else if k = 1 ∨ k' = 1 then 0 else rkE op n n'
def recK (op k n : Int) (s : ByteArray) (k' n' : Int) (s' : ByteArray) : Int :=
  if askd op 6 k n s k' n' s' ≠ 0 then 0 else if ¬ (k = 1 ∨ k = 3) ∨ ¬ (k' = 1 ∨ k' = 3) then 0 else if k = 1 ∨ k' = 1 then 1 else if rkE op n n' = 0 then 3 else 0
def recN (op k n : Int) (s : ByteArray) (k' n' : Int) (s' : ByteArray) : Int :=
  if askd op 6 k n s k' n' s' ≠ 0 then 0 else if ¬ (k = 1 ∨ k = 3) ∨ ¬ (k' = 1 ∨ k' = 3) then 0 else if k = 1 ∨ k' = 1 then 0 else if rkE op n n' = 0 then rkV op n n' else 0

theorem ov_zero (m : Int) (h : ovE m ≠ 0) : ovN m = 0 := by
  unfold ovE at h
  unfold ovN
  split <;> simp_all

theorem reck_op1 (n : Int) (s : ByteArray) (n' : Int) (s' : ByteArray) (w : World) (hz : askd 1 6 3 n s 3 n' s' = 0) (v er : Int) (hv : er ≠ 0 → v = 0) (HK : ∀ w' : World, Calls Try.prog 72 #[.int .i64 n, .int .i64 n'] w' (Rk v er w')) :
    Calls Try.prog 23 #[.int .i64 1, .agg #[.int .i64 3, .int .i64 n, .string s], .agg #[.int .i64 3, .int .i64 n', .string s']] w (Told3 w (if er = 0 then 3 else 0) (if er = 0 then v else 0) er) := by
  by_cases h : er = 0
  · subst h
    rw [if_pos rfl, if_pos rfl]
    exact reck_op1_ok n s n' s' w hz v HK
  · rw [if_neg h, if_neg h]
    have := hv h
    subst this
    exact reck_op1_no n s n' s' w hz er (by simp [h]) HK

theorem reck_op2 (n : Int) (s : ByteArray) (n' : Int) (s' : ByteArray) (w : World) (hz : askd 2 6 3 n s 3 n' s' = 0) (v er : Int) (hv : er ≠ 0 → v = 0) (HK : ∀ w' : World, Calls Try.prog 73 #[.int .i64 n, .int .i64 n'] w' (Rk v er w')) :
    Calls Try.prog 23 #[.int .i64 2, .agg #[.int .i64 3, .int .i64 n, .string s], .agg #[.int .i64 3, .int .i64 n', .string s']] w (Told3 w (if er = 0 then 3 else 0) (if er = 0 then v else 0) er) := by
  by_cases h : er = 0
  · subst h
    rw [if_pos rfl, if_pos rfl]
    exact reck_op2_ok n s n' s' w hz v HK
  · rw [if_neg h, if_neg h]
    have := hv h
    subst this
    exact reck_op2_no n s n' s' w hz er (by simp [h]) HK

theorem reck_op3 (n : Int) (s : ByteArray) (n' : Int) (s' : ByteArray) (w : World) (hz : askd 3 6 3 n s 3 n' s' = 0) (v er : Int) (hv : er ≠ 0 → v = 0) (HK : ∀ w' : World, Calls Try.prog 74 #[.int .i64 n, .int .i64 n'] w' (Rk v er w')) :
    Calls Try.prog 23 #[.int .i64 3, .agg #[.int .i64 3, .int .i64 n, .string s], .agg #[.int .i64 3, .int .i64 n', .string s']] w (Told3 w (if er = 0 then 3 else 0) (if er = 0 then v else 0) er) := by
  by_cases h : er = 0
  · subst h
    rw [if_pos rfl, if_pos rfl]
    exact reck_op3_ok n s n' s' w hz v HK
  · rw [if_neg h, if_neg h]
    have := hv h
    subst this
    exact reck_op3_no n s n' s' w hz er (by simp [h]) HK

theorem reck_op4 (n : Int) (s : ByteArray) (n' : Int) (s' : ByteArray) (w : World) (hz : askd 4 6 3 n s 3 n' s' = 0) (v er : Int) (hv : er ≠ 0 → v = 0) (HK : ∀ (c : Nat) (w' : World), Blk w' c 70 #[.func (.func 76) #[] #[]] → Calls Try.prog 84 #[.int .i64 n, .int .i64 n', .pointer (some ⟨c, 0, none⟩)] w' (Rk v er w')) :
    Calls Try.prog 23 #[.int .i64 4, .agg #[.int .i64 3, .int .i64 n, .string s], .agg #[.int .i64 3, .int .i64 n', .string s']] w (Told3 w (if er = 0 then 3 else 0) (if er = 0 then v else 0) er) := by
  by_cases h : er = 0
  · subst h
    rw [if_pos rfl, if_pos rfl]
    exact reck_op4_ok n s n' s' w hz v HK
  · rw [if_neg h, if_neg h]
    have := hv h
    subst this
    exact reck_op4_no n s n' s' w hz er (by simp [h]) HK

theorem reck_op5 (n : Int) (s : ByteArray) (n' : Int) (s' : ByteArray) (w : World) (hz : askd 5 6 3 n s 3 n' s' = 0) (v er : Int) (hv : er ≠ 0 → v = 0) (HK : ∀ (c : Nat) (w' : World), Blk w' c 70 #[.func (.func 77) #[] #[]] → Calls Try.prog 84 #[.int .i64 n, .int .i64 n', .pointer (some ⟨c, 0, none⟩)] w' (Rk v er w')) :
    Calls Try.prog 23 #[.int .i64 5, .agg #[.int .i64 3, .int .i64 n, .string s], .agg #[.int .i64 3, .int .i64 n', .string s']] w (Told3 w (if er = 0 then 3 else 0) (if er = 0 then v else 0) er) := by
  by_cases h : er = 0
  · subst h
    rw [if_pos rfl, if_pos rfl]
    exact reck_op5_ok n s n' s' w hz v HK
  · rw [if_neg h, if_neg h]
    have := hv h
    subst this
    exact reck_op5_no n s n' s' w hz er (by simp [h]) HK

theorem reckon_any (op k n : Int) (s : ByteArray) (k' n' : Int) (s' : ByteArray) (w : World) (hn : I64 n) (hn' : I64 n') :
    Calls Try.prog 23 #[.int .i64 op, .agg #[.int .i64 k, .int .i64 n, .string s], .agg #[.int .i64 k', .int .i64 n', .string s']] w (Told3 w (recK op k n s k' n' s') (recN op k n s k' n' s') (recE op k n s k' n' s')) := by
  unfold recK recN recE
  by_cases hz : askd op 6 k n s k' n' s' = 0
  · obtain ⟨o1, o2, r1, r2⟩ := askd_zero hz
    have e1 := null_eq r1
    have e2 := null_eq r2
    have hz' : ¬ (askd op 6 k n s k' n' s' ≠ 0) := fun h => h hz
    rw [if_neg hz', if_neg hz', if_neg hz']
    by_cases k1 : k = 1 ∨ k = 3
    · by_cases k2 : k' = 1 ∨ k' = 3
      · have q : ¬ (¬ (k = 1 ∨ k = 3) ∨ ¬ (k' = 1 ∨ k' = 3)) := by omega
        rw [if_neg q, if_neg q, if_neg q]
        by_cases h1 : k = 1
        · have q : k = 1 ∨ k' = 1 := .inl h1
          rw [if_pos q, if_pos q, if_pos q]
          exact reck_null1 op k n s k' n' s' w hz k1 k2 (by rw [e1]; exact decide_eq_true h1)
        · by_cases h2 : k' = 1
          · have q : k = 1 ∨ k' = 1 := .inr h2
            rw [if_pos q, if_pos q, if_pos q]
            exact reck_null2 op k n s k' n' s' w hz k1 k2 (by rw [e1]; exact decide_eq_false h1) (by rw [e2]; exact decide_eq_true h2)
          · have q : ¬ (k = 1 ∨ k' = 1) := by omega
            rw [if_neg q, if_neg q, if_neg q]
            obtain rfl : k = 3 := by omega
            obtain rfl : k' = 3 := by omega
            rcases (show op = 1 ∨ op = 2 ∨ op = 3 ∨ op = 4 ∨ op = 5 by omega) with rfl | rfl | rfl | rfl | rfl
            · exact reck_op1 n s n' s' w hz (ovN (n + n')) (ovE (n + n')) (ov_zero _) (fun w' => add_any n n' hn hn' w')
            · exact reck_op2 n s n' s' w hz (ovN (n - n')) (ovE (n - n')) (ov_zero _) (fun w' => sub_any n n' hn hn' w')
            · exact reck_op3 n s n' s' w hz (ovN (n * n')) (ovE (n * n')) (ov_zero _) (fun w' => mul_any n n' hn hn' w')
            · by_cases h0 : n' = 0
              · subst h0
                exact reck_op4 n s 0 s' w hz 0 152 (fun _ => rfl) (fun c w' h => zero_any 76 n c w' h)
              · rw [show rkE 4 n n' = ovE (n.tdiv n') from if_neg h0, show rkV 4 n n' = ovN (n.tdiv n') from if_neg h0]
                exact reck_op4 n s n' s' w hz (ovN (n.tdiv n')) (ovE (n.tdiv n')) (ov_zero _) (fun c w' h => quo_any n n' c hn hn' h0 w' h)
            · by_cases h0 : n' = 0
              · subst h0
                exact reck_op5 n s 0 s' w hz 0 152 (fun _ => rfl) (fun c w' h => zero_any 77 n c w' h)
              · rw [show rkE 5 n n' = 0 from if_neg h0, show rkV 5 n n' = n.tmod n' from if_neg h0]
                exact reck_op5 n s n' s' w hz (n.tmod n') 0 (fun h => absurd rfl h) (fun c w' h => rest_any n n' c h0 w' h)
      · have q : ¬ (k = 1 ∨ k = 3) ∨ ¬ (k' = 1 ∨ k' = 3) := .inr k2
        rw [if_pos q, if_pos q, if_pos q]
        exact reck_type2 op k n s k' n' s' w hz k1 k2
    · have q : ¬ (k = 1 ∨ k = 3) ∨ ¬ (k' = 1 ∨ k' = 3) := .inl k1
      rw [if_pos q, if_pos q, if_pos q]
      exact reck_type1 op k n s k' n' s' w hz k1
  · rw [if_pos hz, if_pos hz, if_pos hz]
    exact reck_err op k n s k' n' s' w hz

end Go.Proofs.Ytndkoefchlclkaa
