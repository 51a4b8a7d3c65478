/-
  Several texts in one: Read1, Read2, Read3, Read4, Read5.
-/
import Derived.Test.YtemfnckaehjhcaaDoorProg
import Derived.WalkKit
import Derived.WalkSpells
import Derived.WalkLawsBesides
import Derived.Lib.Hide
import Derived.Deep.QuietTactic
import Derived.BigQuiet
import Derived.Test.YtemfnckaehjhcaaDoorLgA
import Derived.Laws.BitsAllLaws
/-
  What a Reader answers: Read, At, Left, Err, sound.
-/
namespace Go.Proofs.YtemfnckaehjhcaaDoor
open Go.RowKit

/-- A Reader at block p: its place, its error, its bytes. -/
def Rd (w : World) (p : Nat) (at_ er : Int) (A : Option Addr) (n c : Nat) : Prop := Blk w p 120 #[.int .i64 at_, .int .i64 er, .slice A n c]

theorem Rd.c0 {w : World} {p : Nat} {a e : Int} {A : Option Addr} {n c : Nat} (h : Rd w p a e A n c) : w.cell? ⟨p, 0, none⟩ = some (.int .i64 a) := Blk.cell h 0
theorem Rd.c1 {w : World} {p : Nat} {a e : Int} {A : Option Addr} {n c : Nat} (h : Rd w p a e A n c) : w.cell? ⟨p, 1, none⟩ = some (.int .i64 e) := Blk.cell h 1
theorem Rd.c2 {w : World} {p : Nat} {a e : Int} {A : Option Addr} {n c : Nat} (h : Rd w p a e A n c) : w.cell? ⟨p, 2, none⟩ = some (.slice A n c) := Blk.cell h 2

theorem read_any (A : Option Addr) (n c : Nat) (w : World) :
    Calls Tryd.prog 61 #[.slice A n c] w fun e w' => e = .returned (.pointer (some ⟨w.heap.size, 0, none⟩)) ∧ w' = w.alloc (.cells #[.int .i64 0, .int .i64 0, .slice A n c] 120) := by
  go_enter Tryd.func61, Tryd.ntmps61
  go_wp2
  go_ret
  exact ⟨rfl, rfl⟩

theorem at_nil (w : World) : Calls Tryd.prog 107 #[.pointer none] w fun e w' => e = .returned (.int .i64 0) ∧ w = w' := by
  go_enter Tryd.func107, Tryd.ntmps107
  go_wp2
  go_ret
  exact ⟨rfl, rfl⟩

theorem at_any (p : Nat) (a e : Int) (A : Option Addr) (n c : Nat) (w : World) (h : Rd w p a e A n c) :
    Calls Tryd.prog 107 #[.pointer (some ⟨p, 0, none⟩)] w fun e w' => e = .returned (.int .i64 a) ∧ w = w' := by
  have h0 := h.c0
  go_enter Tryd.func107, Tryd.ntmps107
  go_wp2
  go_ret
  exact ⟨rfl, rfl⟩

theorem err_nil (w : World) : Calls Tryd.prog 64 #[.pointer none] w fun e w' => e = .returned (.int .i64 1) ∧ w = w' := by
  go_enter Tryd.func64, Tryd.ntmps64
  go_wp2
  go_ret
  exact ⟨rfl, rfl⟩

theorem err_any (p : Nat) (a er : Int) (A : Option Addr) (n c : Nat) (w : World) (h : Rd w p a er A n c) :
    Calls Tryd.prog 64 #[.pointer (some ⟨p, 0, none⟩)] w fun e w' => e = .returned (.int .i64 er) ∧ w = w' := by
  have h0 := h.c1
  go_enter Tryd.func64, Tryd.ntmps64
  go_wp2
  go_ret
  exact ⟨rfl, rfl⟩

theorem left_nil (w : World) : Calls Tryd.prog 65 #[.pointer none] w fun e w' => e = .returned (.int .i64 0) ∧ w = w' := by
  go_enter Tryd.func65, Tryd.ntmps65
  go_wp2
  go_ret
  exact ⟨rfl, rfl⟩

theorem left_any (p k : Nat) (er : Int) (A : Option Addr) (n c : Nat) (w : World) (h : Rd w p k er A n c) (hk : k ≤ n) (hn : n ≤ 140737488355328) :
    Calls Tryd.prog 65 #[.pointer (some ⟨p, 0, none⟩)] w fun e w' => e = .returned (.int .i64 (n - k)) ∧ ∃ m, w' = w.drewN m := by
  have h0 := h.c0
  have h2 := h.c2
  have hw : IntKind.i64.wrap ((n : Int) - k) = (n : Int) - k := IntWalk.i64_in _ (by omega)
  clear h
  go_enter Tryd.func65, Tryd.ntmps65
  go_wp2
  go_quiet (fail)
  go_wp2
  go_ret
  exact ⟨rfl, _, rfl⟩

theorem sound_nil (w : World) : Calls Tryd.prog 120 #[.pointer none] w fun e w' => e = .returned (.bool false) ∧ w = w' := by
  go_enter Tryd.func120, Tryd.ntmps120
  go_wp2_with (go_at_call 64; refine (err_nil _).mono ?_; rintro e w' ⟨rfl, rfl⟩)
  go_ret
  exact ⟨rfl, rfl⟩

theorem sound_any (p : Nat) (a er : Int) (A : Option Addr) (n c : Nat) (w : World) (h : Rd w p a er A n c) :
    Calls Tryd.prog 120 #[.pointer (some ⟨p, 0, none⟩)] w fun e w' => e = .returned (.bool (er == 0)) ∧ w = w' := by
  go_enter Tryd.func120, Tryd.ntmps120
  go_wp2_with (go_at_call 64; refine (err_any _ _ _ _ _ _ _ h).mono ?_; rintro e w' ⟨rfl, rfl⟩)
  go_ret
  exact ⟨rfl, rfl⟩

end Go.Proofs.YtemfnckaehjhcaaDoor

/-
  What a Reader's next, number and Raw answer.
-/
namespace Go.Proofs.YtemfnckaehjhcaaDoor
open Go.RowKit

theorem next_nil (m : Int) (w : World) : Calls Tryd.prog 119 #[.pointer none, .int .i64 m] w fun e w' => e = .returned (.slice none 0 0) ∧ w = w' := by
  go_enter Tryd.func119, Tryd.ntmps119
  go_wp2_with (go_at_call 120; refine (sound_nil _).mono ?_; rintro e w' ⟨rfl, rfl⟩)
  go_ret
  exact ⟨rfl, rfl⟩

theorem next_bad (p : Nat) (a er m : Int) (A : Option Addr) (n c : Nat) (w : World) (h : Rd w p a er A n c) (he : (er == 0) = false) :
    Calls Tryd.prog 119 #[.pointer (some ⟨p, 0, none⟩), .int .i64 m] w fun e w' => e = .returned (.slice none 0 0) ∧ w = w' := by
  go_enter Tryd.func119, Tryd.ntmps119
  go_wp2_with (go_at_call 120; refine (sound_any _ _ _ _ _ _ _ h).mono ?_; rintro e w' ⟨rfl, rfl⟩)
  go_ret
  exact ⟨rfl, rfl⟩

theorem next_neg (p : Nat) (a m : Int) (A : Option Addr) (n c : Nat) (w : World) (h : Rd w p a 0 A n c) (hm : m < 0) :
    Calls Tryd.prog 119 #[.pointer (some ⟨p, 0, none⟩), .int .i64 m] w fun e w' => e = .returned (.slice none 0 0) ∧ w' = w.setCell ⟨p, 1, none⟩ (.int .i64 2) := by
  have h1 := h.c1
  have f1 : w.frozen? ⟨p, 1, none⟩ = false := Blk.frozen h 1
  go_enter Tryd.func119, Tryd.ntmps119
  go_wp2_with (go_at_call 120; refine (sound_any _ _ _ _ _ _ _ h).mono ?_; rintro e w' ⟨rfl, rfl⟩)
  go_ret
  exact ⟨rfl, rfl⟩

theorem next_short (p k : Nat) (m : Int) (A : Option Addr) (n c : Nat) (w : World) (h : Rd w p k 0 A n c) (hk : k ≤ n) (hn : n ≤ 140737488355328) (hm : (n : Int) - k < m) :
    Calls Tryd.prog 119 #[.pointer (some ⟨p, 0, none⟩), .int .i64 m] w fun e w' => e = .returned (.slice none 0 0) ∧ ∃ q, w' = (w.setCell ⟨p, 1, none⟩ (.int .i64 7)).drewN q := by
  have h1 := h.c1
  have f1 : w.frozen? ⟨p, 1, none⟩ = false := Blk.frozen h 1
  have hm0 : ¬ m < 0 := by omega
  go_enter Tryd.func119, Tryd.ntmps119
  go_wp2_with (first | (go_at_call 120; refine (sound_any _ _ _ _ _ _ _ h).mono ?_; rintro e w' ⟨rfl, rfl⟩) | (go_at_call 65; refine (left_any _ _ _ _ _ _ _ h hk hn).mono ?_; rintro e w' ⟨rfl, q, rfl⟩))
  go_ret
  exact ⟨rfl, _, rfl⟩

def NextOk (p k m : Nat) (A : Option Addr) (c : Nat) (w : World) (e : Ending) (w' : World) : Prop :=
  e = .returned (.slice (if c = k then A else A.map (·.add k)) m (c - k)) ∧ ∃ q, w' = (w.setCell ⟨p, 0, none⟩ (.int .i64 (k + m))).drewN q

theorem next_ok (p k m : Nat) (A : Option Addr) (n c : Nat) (w : World) (h : Rd w p k 0 A n c) (hk : k ≤ n) (hnc : n ≤ c) (hn : n ≤ 140737488355328) (hm : m ≤ n - k) :
    Calls Tryd.prog 119 #[.pointer (some ⟨p, 0, none⟩), .int .i64 m] w (NextOk p k m A c w) := by
  have h0 := h.c0
  have h2 := h.c2
  have f0 : w.frozen? ⟨p, 0, none⟩ = false := Blk.frozen h 0
  have hm0 : ¬ (m : Int) < 0 := by omega
  have hm1 : ¬ ((n : Int) - k < m) := by omega
  go_enter Tryd.func119, Tryd.ntmps119
  go_wp2_with (first | (go_at_call 120; refine (sound_any _ _ _ _ _ _ _ h).mono ?_; rintro e w' ⟨rfl, rfl⟩) | (go_at_call 65; refine (left_any _ _ _ _ _ _ _ h hk hn).mono ?_; rintro e w' ⟨rfl, q, rfl⟩))
  go_quiet (fail)
  go_wp2
  all_goals go_ret
  · exact ⟨by simp [*], _, set_drewN _ _ _ _ _⟩
  · exact ⟨by simp [*], _, set_drewN _ _ _ _ _⟩

/-- The number that bytes are, the highest first. -/
def num (zs : List Int) : Int := zs.foldl (fun x z => (x * 256 + z) % 18446744073709551616) 0

theorem num_snoc (zs : List Int) (k : Nat) (hk : k < zs.length) : num (zs.take (k + 1)) = (num (zs.take k) * 256 + zs.getD k 0) % 18446744073709551616 := by
  rw [List.take_succ_eq_append_getElem hk]
  have e : zs.getD k 0 = zs[k] := by simp [List.getD, hk]
  rw [e]
  unfold num
  rw [List.foldl_append]
  rfl
theorem num_range (zs : List Int) : 0 ≤ num zs ∧ num zs < 18446744073709551616 := by
  rcases List.eq_nil_or_concat zs with rfl | ⟨l, a, rfl⟩
  · simp [num]
  · simp only [num, List.concat_eq_append, List.foldl_append, List.foldl_cons, List.foldl_nil]
    omega

end Go.Proofs.YtemfnckaehjhcaaDoor

/-
  What a Reader's number answers.
-/
namespace Go.Proofs.YtemfnckaehjhcaaDoor
open Go.RowKit

theorem or_byte (X z : Int) (hz : 0 ≤ z ∧ z ≤ 255) : bits .or .u64 (IntKind.u64.wrap (X * 256)) z = (X * 256 + z) % 18446744073709551616 := by
  have hw : IntKind.u64.wrap (X * 256) = 256 * (X % 72057594037927936) := by rw [IntKind.wrap_u64]; omega
  rw [hw]
  obtain ⟨y, hy⟩ := Int.eq_ofNat_of_zero_le (show 0 ≤ X % 72057594037927936 by omega)
  obtain ⟨v, rfl⟩ := Int.eq_ofNat_of_zero_le hz.1
  rw [hy, show (256 * (y : Int)) = ((256 * y : Nat) : Int) by omega, u64_or_nat _ _ (by omega) (by omega)]
  have := Nat.two_pow_add_eq_or_of_lt (i := 8) (b := v) (by omega) y
  rw [show 256 * y = 2 ^ 8 * y by omega, ← this]
  omega

set_option maxHeartbeats 400000 in
theorem number_ok (p k m : Nat) (A : Option Addr) (n c : Nat) (zs : List Int) (w : World) (h : Rd w p k 0 A n c) (hb : By w p A n zs) (hk : k ≤ n) (hnc : n ≤ c) (hn : n ≤ 140737488355328) (hm : m ≤ n - k) :
    Calls Tryd.prog 106 #[.pointer (some ⟨p, 0, none⟩), .int .i64 m] w fun e w' => e = .returned (.int .u64 (num ((zs.drop k).take m))) ∧ ∃ q, w' = (w.setCell ⟨p, 0, none⟩ (.int .i64 (k + m))).drewN q := by
  have hby := hb.cut hm hk hnc
  go_enter Tryd.func106, Tryd.ntmps106
  go_wp2_with (go_at_call 119; refine (next_ok _ _ _ _ _ _ _ h hk hnc hn hm).mono ?_; rintro e w' ⟨rfl, q, rfl⟩; generalize (if c = k then A else A.map (·.add k)) = A' at hby ⊢)
  have hl := Lib.hid hby.1
  go_loop [5, 12] (fun t i => ∃ j : Nat, j ≤ m ∧ i = .int .i64 j ∧ t = .int .u64 (num (((zs.drop k).take m).take j))) (fun _ i => m - (intOf i).toNat)
  case atStart => exact ⟨0, Nat.zero_le _, rfl, rfl⟩
  case round =>
    obtain ⟨j, hj, rfl, rfl⟩ := hrel
    by_cases hlt : j < m
    · obtain ⟨b, o, rfl, hbb, hc⟩ := hby.2.2 (by omega)
      have hcell : (w.setCell ⟨p, 0, none⟩ (.int .i64 (k + m))).cell? ⟨b, o + j, none⟩ = some (.int .u8 (((zs.drop k).take m).getD j 0)) := (World.cell?_setCell_other w _ _ _ (by intro e; injection e with e; omega)).trans (hc j hlt)
      have hz := hby.2.1 j
      generalize hz0 : ((zs.drop k).take m).getD j 0 = z at hcell hz
      have hs := Lib.hid (num_snoc _ j (by rw [hl.out]; exact hlt))
      rw [hz0] at hs
      have hr := num_range (((zs.drop k).take m).take j)
      have HZ := Lib.hid hz0
      clear hc h hz0 hby hb
      generalize hX : num (((zs.drop k).take m).take j) = X at hs hr
      clear hX
      go_wp2
      go_round
      case rel =>
        refine ⟨j + 1, by omega, by go_num, ?_⟩
        rw [hs.out]
        rw [or_byte X z hz]
      case measure => simp [intOf]; omega
    · go_wp2
      go_ret
      exact ⟨ret_int (by rw [List.take_of_length_le (by rw [hl.out]; omega)]), _, rfl⟩

theorem number_nil (m : Int) (w : World) : Calls Tryd.prog 106 #[.pointer none, .int .i64 m] w fun e w' => e = .returned (.int .u64 0) ∧ w = w' := by
  go_enter Tryd.func106, Tryd.ntmps106
  go_wp2_with (go_at_call 119; refine (next_nil _ _).mono ?_; rintro e w' ⟨rfl, rfl⟩)
  refine wp_loop_rounds 1 ?_
  rw [rounds_succ]
  go_wp2
  go_ret
  exact ⟨rfl, rfl⟩

theorem number_bad (p : Nat) (a er m : Int) (A : Option Addr) (n c : Nat) (w : World) (h : Rd w p a er A n c) (he : (er == 0) = false) :
    Calls Tryd.prog 106 #[.pointer (some ⟨p, 0, none⟩), .int .i64 m] w fun e w' => e = .returned (.int .u64 0) ∧ w = w' := by
  go_enter Tryd.func106, Tryd.ntmps106
  go_wp2_with (go_at_call 119; refine (next_bad _ _ _ _ _ _ _ _ h he).mono ?_; rintro e w' ⟨rfl, rfl⟩)
  refine wp_loop_rounds 1 ?_
  rw [rounds_succ]
  go_wp2
  go_ret
  exact ⟨rfl, rfl⟩

theorem number_short (p k : Nat) (m : Int) (A : Option Addr) (n c : Nat) (w : World) (h : Rd w p k 0 A n c) (hk : k ≤ n) (hn : n ≤ 140737488355328) (hm : (n : Int) - k < m) :
    Calls Tryd.prog 106 #[.pointer (some ⟨p, 0, none⟩), .int .i64 m] w fun e w' => e = .returned (.int .u64 0) ∧ ∃ q, w' = (w.setCell ⟨p, 1, none⟩ (.int .i64 7)).drewN q := by
  go_enter Tryd.func106, Tryd.ntmps106
  go_wp2_with (go_at_call 119; refine (next_short _ _ _ _ _ _ _ h hk hn hm).mono ?_; rintro e w' ⟨rfl, q, rfl⟩)
  refine wp_loop_rounds 1 ?_
  rw [rounds_succ]
  go_wp2
  go_ret
  exact ⟨rfl, _, rfl⟩

end Go.Proofs.YtemfnckaehjhcaaDoor

/-
  What a Reader answers, whatever its state: U8, U16, U32, U64, Raw, Go.
-/
namespace Go.Proofs.YtemfnckaehjhcaaDoor
open Go.RowKit

/-- Behind a step the Reader stands so, and of what was there nothing but the Reader has turned. -/
def Moved (w : World) (p : Nat) (k' er' : Int) (A : Option Addr) (n c : Nat) (w' : World) : Prop := Rd w' p k' er' A n c ∧ w.grownBy w' (some p)

/-- The document's reader: is there something to take? where it stands then, its error, what it took. -/
def okN (L k : Nat) (er m : Int) : Bool := (er == 0) && (decide (0 ≤ m) && decide (m ≤ (L : Int) - k))
def nAt (L k : Nat) (er m : Int) : Nat := if okN L k er m = true then k + m.toNat else k
def nErr (L k : Nat) (er m : Int) : Int := if (er == 0) = true then (if m < 0 then 2 else if (L : Int) - k < m then 7 else 0) else er
def nBytes (zs : List Int) (k : Nat) (er m : Int) : List Int := if okN zs.length k er m = true then (zs.drop k).take m.toNat else []
def okG (L k : Nat) (er m : Int) : Bool := (er == 0) && (decide (-(k : Int) ≤ m) && decide (m ≤ (L : Int) - k))
def gAt (L k : Nat) (er m : Int) : Nat := if okG L k er m = true then (k + m).toNat else k
def gErr (L k : Nat) (er m : Int) : Int := if (er == 0) = true then (if okG L k er m = true then 0 else 2) else er

theorem nAt_le (L k : Nat) (er m : Int) (h : k ≤ L) : nAt L k er m ≤ L := by
  unfold nAt okN
  split
  · rename_i h1
    simp at h1
    omega
  · exact h
theorem gAt_le (L k : Nat) (er m : Int) (h : k ≤ L) : gAt L k er m ≤ L := by
  unfold gAt okG
  split
  · rename_i h1
    simp at h1
    omega
  · exact h

section
variable {w w' : World} {p n c : Nat} {k er : Int} {A : Option Addr}
theorem Moved.same (h : Rd w p k er A n c) : Moved w p k er A n c w := ⟨h, World.grownBy.refl _ _⟩
theorem Moved.set0 (h : Rd w p k er A n c) (k' : Int) (q : Nat) : Moved w p k' er A n c ((w.setCell ⟨p, 0, none⟩ (.int .i64 k')).drewN q) :=
  ⟨Blk.drewN (Blk.set_ h 0 (.int .i64 k')) q, ⟨rfl, rfl, rfl, by simp [World.setCell, World.drewN], fun i _ hne => Below.heap_setCell w _ _ i (fun e => hne (by rw [e]))⟩⟩
theorem Moved.set1 (h : Rd w p k er A n c) (e' : Int) (q : Nat) : Moved w p k e' A n c ((w.setCell ⟨p, 1, none⟩ (.int .i64 e')).drewN q) :=
  ⟨Blk.drewN (Blk.set_ h 1 (.int .i64 e')) q, ⟨rfl, rfl, rfl, by simp [World.setCell, World.drewN], fun i _ hne => Below.heap_setCell w _ _ i (fun e => hne (by rw [e]))⟩⟩
theorem By.moved {zs : List Int} {k' er' : Int} (h : By w p A n zs) (hp : p < w.heap.size) (hm : Moved w p k' er' A n c w') : By w' p A n zs :=
  h.keep fun q hq => World.cell?_of_block (hm.2.block q.block (by omega) (fun e => by injection e with e; omega))
end

theorem number_any (p k m : Nat) (er : Int) (A : Option Addr) (n c : Nat) (zs : List Int) (w : World) (h : Rd w p k er A n c) (hb : By w p A n zs) (hk : k ≤ n) (hnc : n ≤ c) (hn : n ≤ 140737488355328) :
    Calls Tryd.prog 106 #[.pointer (some ⟨p, 0, none⟩), .int .i64 m] w fun e w' => e = .returned (.int .u64 (num (nBytes zs k er m))) ∧ Moved w p (nAt n k er m) (nErr n k er m) A n c w' := by
  by_cases he : (er == 0) = true
  · obtain rfl : er = 0 := by simpa using he
    by_cases hm : m ≤ n - k
    · refine (number_ok p k m A n c zs w h hb hk hnc hn hm).mono ?_
      rintro e w' ⟨rfl, q, rfl⟩
      have h1 : okN n k 0 m = true := by simp [okN]; omega
      have h2 : nAt n k 0 m = k + m := by simp [nAt, h1]
      have h3 : nErr n k 0 m = 0 := by simp only [nErr]; rw [if_pos (by decide), if_neg (by omega), if_neg (by omega)]
      have h4 : nBytes zs k 0 m = (zs.drop k).take m := by simp [nBytes, hb.1, h1]
      rw [h2, h3, h4]
      exact ⟨rfl, Moved.set0 h _ q⟩
    · refine (number_short p k m A n c w h hk hn (by omega)).mono ?_
      rintro e w' ⟨rfl, q, rfl⟩
      have h1 : okN n k 0 m = false := by simp [okN]; omega
      have h2 : nAt n k 0 m = k := by simp [nAt, h1]
      have h3 : nErr n k 0 m = 7 := by simp only [nErr]; rw [if_pos (by decide), if_neg (by omega), if_pos (by omega)]
      have h4 : nBytes zs k 0 m = [] := by simp [nBytes, hb.1, h1]
      rw [h2, h3, h4]
      exact ⟨rfl, Moved.set1 h _ q⟩
  · have he' : (er == 0) = false := by simpa using he
    refine (number_bad p k er m A n c w h he').mono ?_
    rintro e w' ⟨rfl, rfl⟩
    have h1 : okN n k er m = false := by simp [okN, he']
    have h2 : nAt n k er m = k := by simp [nAt, h1]
    have h3 : nErr n k er m = er := by simp only [nErr]; rw [if_neg (by simp [he'])]
    have h4 : nBytes zs k er m = [] := by simp [nBytes, hb.1, h1]
    rw [h2, h3, h4]
    exact ⟨rfl, Moved.same h⟩

end Go.Proofs.YtemfnckaehjhcaaDoor

/-
  What a Reader answers, whatever its state: U8, U16, U32, U64, Raw, Go.
-/
namespace Go.Proofs.YtemfnckaehjhcaaDoor
open Go.RowKit

theorem num_lt : ∀ (k : Nat) (zs : List Int), zs.length = k → k ≤ 8 → Bs zs → num zs < ((256 ^ k : Nat) : Int)
  | 0, zs, h, _, _ => by
    obtain rfl : zs = [] := List.eq_nil_of_length_eq_zero h
    simp [num]
  | k + 1, zs, h, h8, hb => by
    have e := num_snoc zs k (by omega)
    rw [List.take_of_length_le (by omega)] at e
    have hz := hb k
    have ih := num_lt k (zs.take k) (by rw [List.length_take]; omega) (by omega) (hb.take k)
    have h0 := (num_range (zs.take k)).1
    have h7 : (256 : Nat) ^ k ≤ 256 ^ 7 := Nat.pow_le_pow_right (by omega) (by omega)
    rw [show (256 : Nat) ^ 7 = 72057594037927936 from rfl] at h7
    rw [e, Nat.pow_succ]
    generalize (256 : Nat) ^ k = X at *
    omega

theorem nBytes_len (zs : List Int) (k : Nat) (er m : Int) : (nBytes zs k er m).length ≤ m.toNat := by
  unfold nBytes
  split
  · rw [List.length_take]; omega
  · simp
theorem nBytes_bs {zs : List Int} (h : Bs zs) (k : Nat) (er m : Int) : Bs (nBytes zs k er m) := by
  unfold nBytes
  split
  · exact (h.drop k).take _
  · intro j; simp
theorem num_nBytes {zs : List Int} (h : Bs zs) (k : Nat) (er : Int) (m : Nat) (hm : m ≤ 8) : 0 ≤ num (nBytes zs k er m) ∧ num (nBytes zs k er m) < ((256 ^ m : Nat) : Int) := by
  refine ⟨(num_range _).1, ?_⟩
  have h1 := nBytes_len zs k er m
  have h2 := num_lt _ _ rfl (by omega) (nBytes_bs h k er m)
  have h3 : (256 : Nat) ^ (nBytes zs k er m).length ≤ 256 ^ m := Nat.pow_le_pow_right (by omega) (by omega)
  generalize (256 : Nat) ^ (nBytes zs k er m).length = X at *
  generalize (256 : Nat) ^ m = Y at *
  omega

section
variable (p k : Nat) (er : Int) (A : Option Addr) (n c : Nat) (zs : List Int) (w : World) (h : Rd w p k er A n c) (hb : By w p A n zs) (hk : k ≤ n) (hnc : n ≤ c) (hn : n ≤ 140737488355328)
include h hb hk hnc hn
theorem u8_any : Calls Tryd.prog 84 #[.pointer (some ⟨p, 0, none⟩)] w fun e w' => e = .returned (.int .u8 (num (nBytes zs k er 1))) ∧ Moved w p (nAt n k er 1) (nErr n k er 1) A n c w' := by
  have hr := num_nBytes hb.bs k er 1 (by omega)
  go_enter Tryd.func84, Tryd.ntmps84
  go_wp2_with (go_at_call 106; refine (number_any p k 1 er A n c zs w h hb hk hnc hn).mono ?_; rintro e w' ⟨rfl, hm⟩)
  go_ret
  exact ⟨ret_int (Int.emod_eq_of_lt hr.1 (by simpa using hr.2)), hm⟩
theorem u32_any : Calls Tryd.prog 112 #[.pointer (some ⟨p, 0, none⟩)] w fun e w' => e = .returned (.int .u32 (num (nBytes zs k er 4))) ∧ Moved w p (nAt n k er 4) (nErr n k er 4) A n c w' := by
  have hr := num_nBytes hb.bs k er 4 (by omega)
  go_enter Tryd.func112, Tryd.ntmps112
  go_wp2_with (go_at_call 106; refine (number_any p k 4 er A n c zs w h hb hk hnc hn).mono ?_; rintro e w' ⟨rfl, hm⟩)
  go_ret
  exact ⟨ret_int (Int.emod_eq_of_lt hr.1 (by simpa using hr.2)), hm⟩
end

theorem u8_nil (w : World) : Calls Tryd.prog 84 #[.pointer none] w fun e w' => e = .returned (.int .u8 0) ∧ w = w' := by
  go_enter Tryd.func84, Tryd.ntmps84
  go_wp2_with (go_at_call 106; refine (number_nil _ _).mono ?_; rintro e w' ⟨rfl, rfl⟩)
  go_ret
  exact ⟨rfl, rfl⟩
theorem u32_nil (w : World) : Calls Tryd.prog 112 #[.pointer none] w fun e w' => e = .returned (.int .u32 0) ∧ w = w' := by
  go_enter Tryd.func112, Tryd.ntmps112
  go_wp2_with (go_at_call 106; refine (number_nil _ _).mono ?_; rintro e w' ⟨rfl, rfl⟩)
  go_ret
  exact ⟨rfl, rfl⟩

theorem raw_nil (m : Int) (w : World) : Calls Tryd.prog 111 #[.pointer none, .int .i64 m] w fun e w' => e = .returned (.slice none 0 0) ∧ w = w' := by
  go_enter Tryd.func111, Tryd.ntmps111
  go_wp2_with (first | (go_at_call 119; refine (next_nil _ _).mono ?_; rintro e w' ⟨rfl, rfl⟩) | (go_at_call 23; refine (bclone_nil _ _ _).mono ?_; rintro e w' ⟨rfl, rfl⟩))
  go_ret
  exact ⟨rfl, rfl⟩

theorem go_nil (m : Int) (w : World) : Calls Tryd.prog 109 #[.pointer none, .int .i64 m] w fun e w' => e = .returned (.tuple #[]) ∧ w = w' := by
  go_enter Tryd.func109, Tryd.ntmps109
  go_wp2_with (go_at_call 120; refine (sound_nil _).mono ?_; rintro e w' ⟨rfl, rfl⟩)
  refine bodyPost_ret (results_none rfl _ _ _) rfl ?_
  exact ⟨rfl, rfl⟩

/-- What Raw leaves: the bytes in memory of their own. -/
def Rawed (w : World) (p k : Nat) (er m : Int) (A : Option Addr) (n c : Nat) (zs : List Int) (e : Ending) (w' : World) : Prop :=
  ∃ A' c', e = .returned (.slice A' (nBytes zs k er m).length c') ∧ Own w' w.heap.size A' (nBytes zs k er m).length c' (nBytes zs k er m) ∧ Moved w p (nAt n k er m) (nErr n k er m) A n c w'

theorem Moved.below {w w1 w' : World} {p n c : Nat} {k er : Int} {A : Option Addr} (h : Moved w p k er A n c w1) (hb : Below w1.heap.size w1 w') : Moved w p k er A n c w' :=
  ⟨Blk.below h.1 hb (Blk.lt h.1), ⟨hb.os.trans h.2.os, hb.tape.trans h.2.tape, hb.output.trans h.2.output, Nat.le_trans h.2.size hb.size, fun i hi hne => (hb.block i (Nat.lt_of_lt_of_le hi h.2.size)).trans (h.2.block i hi hne)⟩⟩

theorem raw_any (p k : Nat) (er m : Int) (A : Option Addr) (n c : Nat) (zs : List Int) (w : World) (h : Rd w p k er A n c) (hb : By w p A n zs) (hk : k ≤ n) (hnc : n ≤ c) (hn : n ≤ 140737488355328) :
    Calls Tryd.prog 111 #[.pointer (some ⟨p, 0, none⟩), .int .i64 m] w (Rawed w p k er m A n c zs) := by
  have hp := Blk.lt h
  by_cases he : (er == 0) = true
  · obtain rfl : er = 0 := by simpa using he
    by_cases hneg : m < 0
    · have h1 : okN n k 0 m = false := by simp [okN]; omega
      have h2 : nAt n k 0 m = k := by simp [nAt, h1]
      have h3 : nErr n k 0 m = 2 := by simp only [nErr]; rw [if_pos (by decide), if_pos hneg]
      have h4 : nBytes zs k 0 m = [] := by simp [nBytes, hb.1, h1]
      have fin : Moved w p (nAt n k 0 m) (nErr n k 0 m) A n c (w.setCell ⟨p, 1, none⟩ (.int .i64 2)) := by rw [h2, h3]; exact Moved.set1 h 2 0
      have H4 := Lib.hid h4
      clear h1 h2 h3 h4
      go_enter Tryd.func111, Tryd.ntmps111
      go_wp2_with (first | (go_at_call 119; refine (next_neg _ _ _ _ _ _ _ h hneg).mono ?_; rintro e w' ⟨rfl, rfl⟩) | (go_at_call 23; refine (bclone_nil _ _ _).mono ?_; rintro e w' ⟨rfl, rfl⟩))
      go_ret
      unfold Rawed
      rw [H4.out]
      exact ⟨none, 0, rfl, nothing _ _, fin⟩
    · by_cases hm : m ≤ n - k
      · obtain ⟨m, rfl⟩ := Int.eq_ofNat_of_zero_le (show 0 ≤ m by omega)
        have h1 : okN n k 0 m = true := by simp [okN]; omega
        have h2 : nAt n k 0 m = k + m := by simp [nAt, h1]
        have h3 : nErr n k 0 m = 0 := by simp only [nErr]; rw [if_pos (by decide), if_neg (by omega), if_neg (by omega)]
        have h4 : nBytes zs k 0 m = (zs.drop k).take m := by simp [nBytes, hb.1, h1]
        have h5 : (nBytes zs k 0 m).length = m := by rw [h4, List.length_take, List.length_drop, hb.1]; omega
        have fin : ∀ q, Moved w p (nAt n k 0 m) (nErr n k 0 m) A n c ((w.setCell ⟨p, 0, none⟩ (.int .i64 (k + m))).drewN q) := fun q => by rw [h2, h3]; exact Moved.set0 h _ q
        have hby : ∀ q, By ((w.setCell ⟨p, 0, none⟩ (.int .i64 (k + m))).drewN q) p (if c = k then A else A.map (·.add k)) m (nBytes zs k 0 m) := fun q => by
          rw [h4]
          exact (hb.moved hp (fin q)).cut (by omega) hk hnc
        have H5 := Lib.hid h5
        clear h1 h2 h3 h4 h5
        generalize hA' : (if c = k then A else A.map (·.add k)) = A' at hby
        go_enter Tryd.func111, Tryd.ntmps111
        go_wp2_with fail
        refine (next_ok _ _ _ _ _ _ _ h hk hnc hn (by omega)).mono ?_
        unfold NextOk
        rw [hA']
        rintro e w' ⟨rfl, q, rfl⟩
        clear hA'
        have FB := Lib.hid (hby q)
        have FM := Lib.hid (fin q)
        clear hby fin
        go_wp2_with (go_at_call 23; refine (bclone_any _ _ _ _ _ _ FB.out (by omega)).mono ?_; rintro e w' ⟨A2, c2, rfl, ho, hbel⟩)
        go_ret
        unfold Rawed
        rw [H5.out]
        exact ⟨A2, c2, rfl, by have := ho.down (base' := w.heap.size) FM.out.2.size; exact this, FM.out.below hbel⟩
      · have h1 : okN n k 0 m = false := by simp [okN]; omega
        have h2 : nAt n k 0 m = k := by simp [nAt, h1]
        have h3 : nErr n k 0 m = 7 := by simp only [nErr]; rw [if_pos (by decide), if_neg hneg, if_pos (by omega)]
        have h4 : nBytes zs k 0 m = [] := by simp [nBytes, hb.1, h1]
        have fin : ∀ q, Moved w p (nAt n k 0 m) (nErr n k 0 m) A n c ((w.setCell ⟨p, 1, none⟩ (.int .i64 7)).drewN q) := fun q => by rw [h2, h3]; exact Moved.set1 h 7 q
        have H4 := Lib.hid h4
        clear h1 h2 h3 h4
        go_enter Tryd.func111, Tryd.ntmps111
        go_wp2_with (first | (go_at_call 119; refine (next_short _ _ _ _ _ _ _ h hk hn (by omega)).mono ?_; rintro e w' ⟨rfl, q, rfl⟩) | (go_at_call 23; refine (bclone_nil _ _ _).mono ?_; rintro e w' ⟨rfl, rfl⟩))
        go_ret
        unfold Rawed
        rw [H4.out]
        exact ⟨none, 0, rfl, nothing _ _, fin _⟩
  · have he' : (er == 0) = false := by simpa using he
    have h1 : okN n k er m = false := by simp [okN, he']
    have h2 : nAt n k er m = k := by simp [nAt, h1]
    have h3 : nErr n k er m = er := by simp only [nErr]; rw [if_neg (by simp [he'])]
    have h4 : nBytes zs k er m = [] := by simp [nBytes, hb.1, h1]
    have fin : Moved w p (nAt n k er m) (nErr n k er m) A n c w := by rw [h2, h3]; exact Moved.same h
    have H4 := Lib.hid h4
    clear h1 h2 h3 h4
    go_enter Tryd.func111, Tryd.ntmps111
    go_wp2_with (first | (go_at_call 119; refine (next_bad _ _ _ _ _ _ _ _ h he').mono ?_; rintro e w' ⟨rfl, rfl⟩) | (go_at_call 23; refine (bclone_nil _ _ _).mono ?_; rintro e w' ⟨rfl, rfl⟩))
    go_ret
    unfold Rawed
    rw [H4.out]
    exact ⟨none, 0, rfl, nothing _ _, fin⟩

theorem go_any (p k : Nat) (er m : Int) (A : Option Addr) (n c : Nat) (w : World) (h : Rd w p k er A n c) (hk : k ≤ n) (hn : n ≤ 140737488355328) :
    Calls Tryd.prog 109 #[.pointer (some ⟨p, 0, none⟩), .int .i64 m] w fun e w' => e = .returned (.tuple #[]) ∧ Moved w p (gAt n k er m) (gErr n k er m) A n c w' := by
  have c0 := h.c0
  have c1 := h.c1
  have f0 : w.frozen? ⟨p, 0, none⟩ = false := Blk.frozen h 0
  have f1 : w.frozen? ⟨p, 1, none⟩ = false := Blk.frozen h 1
  by_cases he : (er == 0) = true
  · obtain rfl : er = 0 := by simpa using he
    by_cases hlo : m < -(k : Int)
    · have h1 : okG n k 0 m = false := by simp [okG]; omega
      have fin : Moved w p (gAt n k 0 m) (gErr n k 0 m) A n c (w.setCell ⟨p, 1, none⟩ (.int .i64 2)) := by
        have h2 : gAt n k 0 m = k := by simp [gAt, h1]
        have h3 : gErr n k 0 m = 2 := by simp [gErr, h1]
        rw [h2, h3]; exact Moved.set1 h 2 0
      clear h1
      go_enter Tryd.func109, Tryd.ntmps109
      go_wp2_with (first | (go_at_call 120; refine (sound_any _ _ _ _ _ _ _ h).mono ?_; rintro e w' ⟨rfl, rfl⟩) | (go_at_call 65; refine (left_any _ _ _ _ _ _ _ h hk hn).mono ?_; rintro e w' ⟨rfl, q, rfl⟩))
      refine bodyPost_ret (results_none rfl _ _ _) rfl ?_
      exact ⟨rfl, fin⟩
    · by_cases hhi : (n : Int) - k < m
      · have h1 : okG n k 0 m = false := by simp [okG]; omega
        have fin : ∀ q, Moved w p (gAt n k 0 m) (gErr n k 0 m) A n c ((w.setCell ⟨p, 1, none⟩ (.int .i64 2)).drewN q) := fun q => by
          have h2 : gAt n k 0 m = k := by simp [gAt, h1]
          have h3 : gErr n k 0 m = 2 := by simp [gErr, h1]
          rw [h2, h3]; exact Moved.set1 h 2 q
        clear h1
        go_enter Tryd.func109, Tryd.ntmps109
        go_wp2_with (first | (go_at_call 120; refine (sound_any _ _ _ _ _ _ _ h).mono ?_; rintro e w' ⟨rfl, rfl⟩) | (go_at_call 65; refine (left_any _ _ _ _ _ _ _ h hk hn).mono ?_; rintro e w' ⟨rfl, q, rfl⟩))
        refine bodyPost_ret (results_none rfl _ _ _) rfl ?_
        exact ⟨rfl, fin _⟩
      · have h1 : okG n k 0 m = true := by simp [okG]; omega
        have fin : ∀ q, Moved w p (gAt n k 0 m) (gErr n k 0 m) A n c ((w.setCell ⟨p, 0, none⟩ (.int .i64 (k + m))).drewN q) := fun q => by
          have h2 : (gAt n k 0 m : Int) = k + m := by simp [gAt, h1]; omega
          have h3 : gErr n k 0 m = 0 := by simp [gErr, h1]
          rw [h2, h3]; exact Moved.set0 h _ q
        clear h1
        go_enter Tryd.func109, Tryd.ntmps109
        go_wp2_with (first | (go_at_call 120; refine (sound_any _ _ _ _ _ _ _ h).mono ?_; rintro e w' ⟨rfl, rfl⟩) | (go_at_call 65; refine (left_any _ _ _ _ _ _ _ h hk hn).mono ?_; rintro e w' ⟨rfl, q, rfl⟩))
        go_end0
        exact ⟨rfl, fin _⟩
  · have he' : (er == 0) = false := by simpa using he
    have fin : Moved w p (gAt n k er m) (gErr n k er m) A n c w := by
      have h1 : okG n k er m = false := by simp [okG, he']
      have h2 : gAt n k er m = k := by simp [gAt, h1]
      have h3 : gErr n k er m = er := by simp [gErr, he']
      rw [h2, h3]; exact Moved.same h
    go_enter Tryd.func109, Tryd.ntmps109
    go_wp2_with (go_at_call 120; refine (sound_any _ _ _ _ _ _ _ h).mono ?_; rintro e w' ⟨rfl, rfl⟩)
    refine bodyPost_ret (results_none rfl _ _ _) rfl ?_
    exact ⟨rfl, fin⟩

end Go.Proofs.YtemfnckaehjhcaaDoor
