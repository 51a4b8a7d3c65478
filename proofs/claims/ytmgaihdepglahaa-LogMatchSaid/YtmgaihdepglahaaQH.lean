/-
  Three logs that take from one another: the law LogMatch.
-/
import Derived.Test.YtmgaihdepglahaaOpenA
import Derived.Test.YtmgaihdepglahaaN16
import Derived.Test.YtmgaihdepglahaaAP
import Derived.Test.YtmgaihdepglahaaN10
import Derived.Test.YtmgaihdepglahaaN7
import Derived.Test.YtmgaihdepglahaaN6
import Derived.Deep.CutBlock
import Derived.Deep.CutRange
namespace Go.Proofs.Ytmgaihdepglahaa
open Go.RowKit

/-- The first j of them given up at their beginnings. -/
def cmp (L : Nat → Lg) (i : Int) (j : Nat) : Nat → Lg := fun k => if k < j then pComL (L k) i else L k
theorem cmp_zero (L : Nat → Lg) (i : Int) : cmp L i 0 = L := funext fun k => if_neg (Nat.not_lt_zero k)
theorem cmp_at (L : Nat → Lg) (i : Int) (j : Nat) : cmp L i j j = L j := if_neg (Nat.lt_irrefl j)
theorem cmp_succ (L : Nat → Lg) (i : Int) (j : Nat) : upd (cmp L i j) j (pComL (L j) i) = cmp L i (j + 1) := funext fun k => by
  unfold upd cmp
  by_cases e : k = j
  · subst e; rw [if_pos rfl, if_pos (Nat.lt_succ_self k)]
  · rw [if_neg e]
    by_cases h : k < j
    · rw [if_pos h, if_pos (by omega)]
    · rw [if_neg h, if_neg (by omega)]
theorem Bs.one {d : Int} (h : 0 ≤ d ∧ d ≤ 255) : Bs [d] := fun j => by
  cases j with
  | zero => exact h
  | succ j => exact ⟨by simp, by simp⟩
theorem next64 {k : Nat} (h : k + 1 ≤ 60) : wrap64 ((k : Int) + 1) = (k : Int) + 1 := w64 (by omega) (by omega)
theorem next3 {j : Nat} (h : j < 3) : ∃ j' : Nat, j' < 3 ∧ ((j : Int) + 1).tmod 3 = (j' : Int) ∧ wrap64 ((j : Int) + 1) = (j : Int) + 1 ∧ IntKind.i64.wrap ((j : Int) + 1) = (j : Int) + 1 := by
  have h2 : wrap64 ((j : Int) + 1) = (j : Int) + 1 := w64 (by omega) (by omega)
  have h3 : IntKind.i64.wrap ((j : Int) + 1) = (j : Int) + 1 := by rw [IntKind.wrap_i64]; omega
  rcases (by omega : j = 0 ∨ j = 1 ∨ j = 2) with rfl | rfl | rfl
  · exact ⟨1, by omega, by decide, h2, h3⟩
  · exact ⟨2, by omega, by decide, h2, h3⟩
  · exact ⟨0, by omega, by decide, h2, h3⟩
theorem rem_u64 (x : Int) (m : Nat) (hm : 0 < m) : ∃ r : Nat, r < m ∧ (IntKind.u64.wrap x).tmod (m : Int) = (r : Int) := by
  have h0 : 0 ≤ IntKind.u64.wrap x := by rw [IntKind.wrap_u64]; omega
  rw [Int.tmod_eq_emod_of_nonneg h0]
  generalize IntKind.u64.wrap x = y at *
  have h1 := Int.emod_nonneg y (show (m : Int) ≠ 0 by omega)
  have h2 := Int.emod_lt_of_pos y (show 0 < (m : Int) by omega)
  exact ⟨(y % m).toNat, by omega, by omega⟩
theorem wp_store_none {P : Program} {o : Oper} {a : Act} {K : Act → World → Prop} {Q : Exit → Act → World → Prop} {w : World} (ty : TypeId) (x y : Operand) (ho : o.op = .store ty x y) (hd : o.dst = none)
    (g : Nat) (c : Array Value) (t : TypeId) (cells : List Value) (hx : a.eval x = .pointer (some ⟨g, 0, none⟩)) (hy : a.eval y = .agg cells.toArray) (hb : Blk w g t c)
    (hc : c.size = cells.length) (hi : (P.info? ty).map (·.size) = some cells.length) (h1 : ∀ v ∈ cells, v.oneCell' = true)
    (h : ∀ w', Blk w' g t cells.toArray → Only g w w' → K a w') : Oper.wp P o a w K Q :=
  wp_store_blk ty x y ho g c t cells hx hy hb hc hi h1 fun w' h1 h2 => by rw [hd]; exact h w' h1 h2
theorem MI.T {m : Int} {L : Nat → Lg} (h : MI m L) {j : Nat} (hj : j < 3) (hm : m < 18446744073709551616) (c : Nat) : 0 ≤ (L j).T c ∧ (L j).T c < 18446744073709551616 := by
  cases c with
  | zero => exact ⟨h.bt0 j hj, h.bt1 j hj⟩
  | succ i =>
    show 0 ≤ ((L j).es.getD i e0).t ∧ ((L j).es.getD i e0).t < _
    by_cases hi : i < (L j).es.length
    · have e : (L j).es.getD i e0 = (L j).es[i] := by simp [List.getD, hi]
      have := h.top j hj _ (List.getElem_mem hi)
      rw [e]
      omega
    · have e : (L j).es.getD i e0 = e0 := by simp [List.getD, hi]
      rw [e]
      exact ⟨by decide, by decide⟩
theorem from_bounds {l : Lg} (_h : Lok l) (hT : ∀ c, 0 ≤ l.T c ∧ l.T c < 18446744073709551616) (i q : Int) : (0 ≤ fromI l i q ∧ fromI l i q < 18446744073709551616) ∧ (0 ≤ fromT l i q ∧ fromT l i q < 18446744073709551616) := by
  have h1 := subw_lt i
  unfold fromI fromT spotT
  refine ⟨?_, ?_⟩
  · split <;> first | exact h1 | exact ⟨by decide, by decide⟩
  · split
    · split
      · exact hT _
      · exact ⟨by decide, by decide⟩
    · exact ⟨by decide, by decide⟩
/-- The three logs' entries are owned. -/
def Eos (w : World) (base : Nat) (A : Nat → Option Addr) (n c : Nat → Nat) (L : Nat → Lg) : Prop := ∀ j, j < 3 → Eo w base (A j) (n j) (c j) (L j).es
theorem Eos.below {w w' : World} {base : Nat} {A : Nat → Option Addr} {n c : Nat → Nat} {L : Nat → Lg} (h : Eos w base A n c L) (hb : Below w.heap.size w w') : Eos w' base A n c L := fun j hj => (h j hj).below hb
theorem Eos.only {w w' : World} {base g : Nat} {A : Nat → Option Addr} {n c : Nat → Nat} {L : Nat → Lg} {t : TypeId} {cs : Array Value} (h : Eos w base A n c L) (hg : Blk w g t cs) (h54 : 54 ≠ t) (h5 : 5 ≠ t) (ho : Only g w w') : Eos w' base A n c L := fun j hj => (h j hj).only hg h54 h5 ho
theorem Eos.put {w : World} {base who : Nat} {A : Nat → Option Addr} {n c : Nat → Nat} {L : Nat → Lg} (h : Eos w base A n c L) {X : Lg} {A' : Option Addr} {n' c' : Nat} (hX : Eo w base A' n' c' X.es) : Eos w base (upd A who A') (upd n who n') (upd c who c') (upd L who X) := fun j hj => by
  by_cases e : j = who
  · subst e; rw [upd_same, upd_same, upd_same, upd_same]; exact hX
  · rw [upd_ne _ _ e, upd_ne _ _ e, upd_ne _ _ e, upd_ne _ _ e]; exact h j hj
theorem Blk.six {w : World} {p : Nat} {t : TypeId} {a b c d e f : Value} (h : Blk w p t #[a, b, c, d, e, f]) : w.cell? ⟨p, 0, none⟩ = some a ∧ w.cell? ⟨p, 1, none⟩ = some b ∧ w.cell? ⟨p, 2, none⟩ = some c ∧ w.cell? ⟨p, 3, none⟩ = some d ∧ w.cell? ⟨p, 4, none⟩ = some e ∧ w.cell? ⟨p, 5, none⟩ = some f := ⟨h.cell 0, h.cell 1, h.cell 2, h.cell 3, h.cell 4, h.cell 5⟩

set_option linter.unusedSimpArgs false in
set_option maxRecDepth 100000 in
set_option maxHeartbeats 100000000 in
theorem match_walk (aA : Option Addr) (an ac : Nat) (_u : Unit) (w : World) (hG : Acs w w.heap.size aA an) :
    Calls Try.prog 9 #[.slice aA an ac] w fun e w' => e = .returned (.bool true) ∧ Below w.heap.size w w' := by
  have H := Lib.hid hG
  clear hG
  go_enter Try.func9, Try.ntmps9
  go_wp2_with fail
  refine (wakes_any _).mono ?_
  rintro e w0 ⟨rfl, hb0⟩
  go_wp2_with fail
  have B30 : Hid (Blk (w0.alloc (.cells #[.int .u64 0, .int .u64 0, .slice none 0 0, .int .u64 0, .int .u64 0, .slice none 0 0, .int .u64 0, .int .u64 0, .slice none 0 0] 50)) w0.heap.size 50 (arr (fun _ => lg0) (fun _ => none) (fun _ => 0) (fun _ => 0))) := Lib.hid (Blk.new w0 50 _)
  have HB0 : Hid (Below w.heap.size w (w0.alloc (.cells #[.int .u64 0, .int .u64 0, .slice none 0 0, .int .u64 0, .int .u64 0, .slice none 0 0, .int .u64 0, .int .u64 0, .slice none 0 0] 50))) := Lib.hid (hb0.alloc hb0.size _)
  have HP3 := Lib.hid hb0.size
  clear hb0
  generalize (w0.alloc (.cells #[.int .u64 0, .int .u64 0, .slice none 0 0, .int .u64 0, .int .u64 0, .slice none 0 0, .int .u64 0, .int .u64 0, .slice none 0 0] 50)) = v0 at *
  generalize w0.heap.size = p3 at *
  go_loopw [29] (fun ix wr => ∃ (k : Nat) (L : Nat → Lg) (A : Nat → Option Addr) (n c : Nat → Nat), k ≤ an ∧ k ≤ 60 ∧ ix = .int .i64 k ∧ MI (k : Int) L ∧ Blk wr p3 50 (arr L A n c) ∧ Eos wr w.heap.size A n c L ∧ Below w.heap.size w wr) (fun ix _ => an - (intOf ix).toNat)
  case atStart => exact ⟨0, fun _ => lg0, fun _ => none, fun _ => 0, fun _ => 0, Nat.zero_le _, Nat.zero_le _, rfl, MI.start _, B30.out, fun _ _ => Eo.nothing _ _, HB0.out⟩
  case round =>
    obtain ⟨k, L, A, n, c, hk, hk6, rfl, hM, b3, he, hb⟩ := hrel
    clear B30 HB0 v0
    generalize wr = v0 at *
    have HB0 := Lib.hid hb
    have B30 := Lib.hid b3
    have HE0 := Lib.hid he
    have HM := Lib.hid hM
    clear hM b3 he hb
    by_cases hlt : k < an
    · obtain ⟨b, o, kd, wo, wm, nn, ix, d, rfl, hbB, hix, hd, c0, c1, c2, c3, c4, c5⟩ := H.out.at_ hlt HB0.out
      have k0 : (0 : Int) ≤ (k : Int) := by omega
      have kI : (k : Int) < (an : Int) := by omega
      have hbr : b < v0.heap.size := by have := HB0.out.size; omega
      by_cases h6 : k = 60
      · have h6' : ((k : Int) == 60) = true := by simp; omega
        have HB1 := Lib.hid (HB0.out.alloc HB0.out.size (.cells #[.int .i64 kd, .int .i64 wo, .int .i64 wm, .int .i64 nn, .int .u64 ix, .int .u8 d] 74))
        clear hlt hk hk6 h6
        go_wp2
        go_ret
        exact ⟨rfl, HB1.out⟩
      · have h6' : ((k : Int) == 60) = false := by simp; omega
        have HKB := Lib.hid (show (k : Int) < 18446744073709551616 by omega)
        have HK := Lib.hid (show k + 1 ≤ 60 ∧ k < an from ⟨by omega, hlt⟩)
        have HIX := Lib.hid hix
        have HD := Lib.hid hd
        clear hlt hk hk6 h6 hix hd
        go_wp2_with fail
        have hb : Below v0.heap.size v0 (v0.alloc (.cells #[.int .i64 kd, .int .i64 wo, .int .i64 wm, .int .i64 nn, .int .u64 ix, .int .u8 d] 74)) := (Below.refl _ _).alloc (Nat.le_refl _) _
        have B31 := Lib.hid (B30.out.below hb B30.out.lt)
        have HE1 := Lib.hid (Eos.below HE0.out hb)
        have HB1 := Lib.hid (HB0.out.trans (hb.mono HB0.out.size))
        have B51 : Hid (Blk (v0.alloc (.cells #[.int .i64 kd, .int .i64 wo, .int .i64 wm, .int .i64 nn, .int .u64 ix, .int .u8 d] 74)) v0.heap.size 74 #[.int .i64 kd, .int .i64 wo, .int .i64 wm, .int .i64 nn, .int .u64 ix, .int .u8 d]) := Lib.hid (Blk.new _ _ _)
        clear hb
        generalize (v0.alloc (.cells #[.int .i64 kd, .int .i64 wo, .int .i64 wm, .int .i64 nn, .int .u64 ix, .int .u8 d] 74)) = v1 at *
        generalize v0.heap.size = p5 at *
        clear c0 c1 c2 c3 c4 c5 k0 kI hbr h6'
        have hb : Below v1.heap.size v1 v1.drew := (Below.refl _ _).drew
        have B32 := Lib.hid (B31.out.below hb B31.out.lt)
        have B52 := Lib.hid (B51.out.below hb B51.out.lt)
        have HE2 := Lib.hid (Eos.below HE1.out hb)
        have HB2 := Lib.hid (HB1.out.trans (hb.mono HB1.out.size))
        clear hb
        obtain ⟨who, hw3, hwo⟩ := rem_u64 wo 3 (by omega)
        obtain ⟨whom, hm3, hwm⟩ := rem_u64 wm 3 (by omega)
        obtain ⟨km, hk4, hkm⟩ := rem_u64 kd 4 (by omega)
        have hwo : (IntKind.u64.wrap wo).tmod 3 = (who : Int) := hwo
        have hwm : (IntKind.u64.wrap wm).tmod 3 = (whom : Int) := hwm
        have hkm : (IntKind.u64.wrap kd).tmod 4 = (km : Int) := hkm
        have hkm' := hkm
        rw [IntKind.wrap_u64] at hkm'
        have hS0 := Blk.six B52.out
        refine wp_region_noPanic ?_
        refine wp_region_held_drew (S := fun w' => w'.cell? ⟨p5, 0, none⟩ = some (.int .i64 kd) ∧ w'.cell? ⟨p5, 1, none⟩ = some (.int .i64 wo) ∧ w'.cell? ⟨p5, 2, none⟩ = some (.int .i64 wm) ∧ w'.cell? ⟨p5, 3, none⟩ = some (.int .i64 nn) ∧ w'.cell? ⟨p5, 4, none⟩ = some (.int .u64 ix) ∧ w'.cell? ⟨p5, 5, none⟩ = some (.int .u8 d)) (by kernel_rfl) hS0 (fun hHeld => ?_)
        generalize v1.drew = v2 at *
        refine take_d (i := 0) (d := 36) (v := ?a36) rfl rfl (by kernel_rfl) (by kernel_rfl) (by kernel_rfl) (fun _ _ _ h => h) (Or.inl ⟨by kernel_rfl, ?a36h⟩) hHeld ?a36n
        case a36h => (intro w hSw; (try dsimp only at hSw); go_split_ands; go_simp; (try exact rfl))
        try simp only [Act.put, List.setIfInBounds_toArray, List.set_cons_zero, List.set_cons_succ]
        refine take_d (i := 1) (d := 37) (v := ?a37) rfl rfl (by kernel_rfl) (by kernel_rfl) (by kernel_rfl) (fun _ _ _ h => h) (Or.inl ⟨by kernel_rfl, ?a37h⟩) hHeld ?a37n
        case a37h => (intro w hSw; (try dsimp only at hSw); go_split_ands; go_simp; (try exact rfl))
        try simp only [Act.put, List.setIfInBounds_toArray, List.set_cons_zero, List.set_cons_succ]
        refine take_d (i := 2) (d := 38) (v := ?a38) rfl rfl (by kernel_rfl) (by kernel_rfl) (by kernel_rfl) (fun _ _ _ h => h) (Or.inl ⟨by kernel_rfl, ?a38h⟩) hHeld ?a38n
        case a38h => (intro w hSw; (try dsimp only at hSw); go_split_ands; go_simp; (try exact rfl))
        try simp only [Act.put, List.setIfInBounds_toArray, List.set_cons_zero, List.set_cons_succ]
        refine take_d (i := 3) (d := 39) (v := .int .u64 (who : Int)) rfl rfl (by kernel_rfl) (by kernel_rfl) (by kernel_rfl) (fun _ _ _ h => h) (Or.inl ⟨by kernel_rfl, ?a39h⟩) hHeld ?_
        case a39h => (intro w hSw; (try dsimp only at hSw); go_split_ands; go_simp)
        try simp only [Act.put, List.setIfInBounds_toArray, List.set_cons_zero, List.set_cons_succ]
        refine take_d (i := 4) (d := 40) (v := ?a40) rfl rfl (by kernel_rfl) (by kernel_rfl) (by kernel_rfl) (fun _ _ _ h => h) (Or.inl ⟨by kernel_rfl, ?a40h⟩) hHeld ?a40n
        case a40h => (intro w hSw; (try dsimp only at hSw); go_split_ands; go_simp; (try exact rfl))
        try simp only [Act.put, List.setIfInBounds_toArray, List.set_cons_zero, List.set_cons_succ]
        refine take_d (i := 5) (d := 41) (v := ?a41) rfl rfl (by kernel_rfl) (by kernel_rfl) (by kernel_rfl) (fun _ _ _ h => h) (Or.inl ⟨by kernel_rfl, ?a41h⟩) hHeld ?a41n
        case a41h => (intro w hSw; (try dsimp only at hSw); go_split_ands; go_simp; (try exact rfl))
        try simp only [Act.put, List.setIfInBounds_toArray, List.set_cons_zero, List.set_cons_succ]
        refine take_d (i := 6) (d := 42) (v := ?a42) rfl rfl (by kernel_rfl) (by kernel_rfl) (by kernel_rfl) (fun _ _ _ h => h) (Or.inl ⟨by kernel_rfl, ?a42h⟩) hHeld ?a42n
        case a42h => (intro w hSw; (try dsimp only at hSw); go_split_ands; go_simp; (try exact rfl))
        try simp only [Act.put, List.setIfInBounds_toArray, List.set_cons_zero, List.set_cons_succ]
        refine take_d (i := 7) (d := 43) (v := .int .u64 (whom : Int)) rfl rfl (by kernel_rfl) (by kernel_rfl) (by kernel_rfl) (fun _ _ _ h => h) (Or.inl ⟨by kernel_rfl, ?a43h⟩) hHeld ?_
        case a43h => (intro w hSw; (try dsimp only at hSw); go_split_ands; go_simp)
        try simp only [Act.put, List.setIfInBounds_toArray, List.set_cons_zero, List.set_cons_succ]
        refine take_d (i := 8) (d := 6) (v := ?a6) rfl rfl (by kernel_rfl) (by kernel_rfl) (by kernel_rfl) (fun _ _ _ h => h) (Or.inl ⟨by kernel_rfl, ?a6h⟩) hHeld ?a6n
        case a6h => (intro w hSw; (try dsimp only at hSw); go_split_ands; go_simp; (try exact rfl))
        try simp only [Act.put, List.setIfInBounds_toArray, List.set_cons_zero, List.set_cons_succ]
        refine take_d (i := 9) (d := 7) (v := ?a7) rfl rfl (by kernel_rfl) (by kernel_rfl) (by kernel_rfl) (fun _ _ _ h => h) (Or.inl ⟨by kernel_rfl, ?a7h⟩) hHeld ?a7n
        case a7h => (intro w hSw; (try dsimp only at hSw); go_split_ands; go_simp; (try exact rfl))
        try simp only [Act.put, List.setIfInBounds_toArray, List.set_cons_zero, List.set_cons_succ]
        refine wpAnyH_done (by kernel_rfl) ?_ _
        refine NoPanic.normal ?_
        clear hS0
        go_step
        go_step
        go_step
        go_cut [25, 26, 27, 28, 29] from 8 to 176 (fun v25 v26 v27 v28 v29 wx => v25 = .bool true ∧ v26 = .bool false ∧ v27 = .slice (some ⟨b, o, none⟩) an ac ∧ v28 = .int .i64 (an : Int) ∧ v29 = .int .i64 (k : Int) ∧ ∃ L2 A2 n2 c2, MI ((k : Int) + 1) L2 ∧ Blk wx p3 50 (arr L2 A2 n2 c2) ∧ Eos wx w.heap.size A2 n2 c2 L2 ∧ Below w.heap.size w wx)
        case first =>
          have hsix := Blk.six B52.out
          obtain ⟨x0, x1, x2, x3, x4, x5⟩ := hsix
          by_cases h0 : km = 0
          · have e0 : ((km : Int) == 0) = true := by simp; omega
            clear h0
            go_wp2_with fail
            clear x0 x1 x2 x3 x4 x5 e0
            as_aux_lemma =>
              have kw : IntKind.u64.wrap (k : Int) = (k : Int) := by rw [IntKind.wrap_u64]; have := HK.out.1; omega
              have kw1 : IntKind.u64.wrap ((k : Int) + 1) = (k : Int) + 1 := by rw [IntKind.wrap_u64]; have := HK.out.1; omega
              have hw3' : (who : Int) < 3 := by omega
              have hw0 : (0 : Int) ≤ (who : Int) := by omega
              have APM : Hid (∀ W g, Eos W w.heap.size A n c L → Blk W g 5 #[.int .u8 d] → Calls Try.prog 27 #[.agg #[.int .u64 (L who).bi, .int .u64 (L who).bt, .slice (A who) (n who) (c who)], .agg #[.int .u64 ((k : Int) + 1), .int .i64 2, .slice (some ⟨g, 0, none⟩) 1 1]] W (Lgx W (pExtL (L who) [⟨(k : Int) + 1, 2, [d]⟩]) (pExtI (L who) [⟨(k : Int) + 1, 2, [d]⟩]) (pExtT (L who) [⟨(k : Int) + 1, 2, [d]⟩]) (pExtE (L who) [⟨(k : Int) + 1, 2, [d]⟩]))) := Lib.hid (fun W g he hb => by
                have hby : By W W.heap.size (some ⟨g, 0, none⟩) 1 [d] := (By.of_blk (zs := [d]) hb (Bs.one HD.out) rfl).more hb.lt
                exact Append_any (L who) (A who) (n who) (c who) _ ⟨(k : Int) + 1, 2, some ⟨g, 0, none⟩, 1, 1, [d]⟩ W ((HM.out.ok hw3).lr (he who hw3)) (Nat.le_refl _) ⟨hby, Nat.le_refl _, fun e => (by cases e), (by show 0 ≤ (k : Int) + 1; omega), (by show (k : Int) + 1 < _; have := HK.out.1; omega)⟩ (by show 1 ≤ 100000; omega))
              have AP1 := Lib.hid (fun hE => HM.out.app hw3 (show 0 ≤ (k : Int) by omega) (e := ⟨(k : Int) + 1, 2, [d]⟩) rfl hE)
              generalize pExtL (L who) [⟨(k : Int) + 1, 2, [d]⟩] = X at *
              generalize pExtI (L who) [⟨(k : Int) + 1, 2, [d]⟩] = XI at *
              generalize pExtT (L who) [⟨(k : Int) + 1, 2, [d]⟩] = XT at *
              generalize pExtE (L who) [⟨(k : Int) + 1, 2, [d]⟩] = XE at *
              have HDD : Hid (∀ W, Blk W p3 50 (arr L A n c) → Blk W p5 74 #[.int .i64 kd, .int .i64 wo, .int .i64 wm, .int .i64 nn, .int .u64 ix, .int .u8 d] → (W.cell? ⟨p3, who * 3, none⟩ = some (.int .u64 (L who).bi) ∧ W.cell? ⟨p3, who * 3 + 1, none⟩ = some (.int .u64 (L who).bt) ∧ W.cell? ⟨p3, who * 3 + 2, none⟩ = some (.slice (A who) (n who) (c who))) ∧ (W.cell? ⟨p5, 0, none⟩ = some (.int .i64 kd) ∧ W.cell? ⟨p5, 1, none⟩ = some (.int .i64 wo) ∧ W.cell? ⟨p5, 2, none⟩ = some (.int .i64 wm) ∧ W.cell? ⟨p5, 3, none⟩ = some (.int .i64 nn) ∧ W.cell? ⟨p5, 4, none⟩ = some (.int .u64 ix) ∧ W.cell? ⟨p5, 5, none⟩ = some (.int .u8 d))) := Lib.hid (fun W h1 h2 => And.intro (arr_at h1 hw3) (Blk.six h2))
              have hb : Below v2.heap.size v2 v2.drew := (Below.refl _ _).drew
              have B33 := Lib.hid (B32.out.below hb B32.out.lt)
              have B53 := Lib.hid (B52.out.below hb B52.out.lt)
              have HE3 := Lib.hid (Eos.below HE2.out hb)
              have HB3 := Lib.hid (HB2.out.trans (hb.mono HB2.out.size))
              clear hb
              have hS0 := HDD.out _ B33.out B53.out
              go_cut [8, 9, 10, 29] from 29 to 176 (fun v8 v9 v10 v29 wx => v29 = .int .i64 (k : Int) ∧ v10 = .int .i64 XE ∧ (∃ y, v9 = .pointer y) ∧ ∃ p8 Ax nx cx, v8 = .pointer (some ⟨p8, 0, none⟩) ∧ Blk wx p8 27 #[.int .u64 X.bi, .int .u64 X.bt, .slice Ax nx cx] ∧ Eo wx w.heap.size Ax nx cx X.es ∧ Blk wx p3 50 (arr L A n c) ∧ Blk wx p5 74 #[.int .i64 kd, .int .i64 wo, .int .i64 wm, .int .i64 nn, .int .u64 ix, .int .u8 d] ∧ Eos wx w.heap.size A n c L ∧ Below w.heap.size w wx)
              case first =>
                as_aux_lemma =>
                  refine wp_region_noPanic ?_
                  refine wp_region_held_drew (S := fun w' => (w'.cell? ⟨p3, who * 3, none⟩ = some (.int .u64 (L who).bi) ∧ w'.cell? ⟨p3, who * 3 + 1, none⟩ = some (.int .u64 (L who).bt) ∧ w'.cell? ⟨p3, who * 3 + 2, none⟩ = some (.slice (A who) (n who) (c who))) ∧ (w'.cell? ⟨p5, 0, none⟩ = some (.int .i64 kd) ∧ w'.cell? ⟨p5, 1, none⟩ = some (.int .i64 wo) ∧ w'.cell? ⟨p5, 2, none⟩ = some (.int .i64 wm) ∧ w'.cell? ⟨p5, 3, none⟩ = some (.int .i64 nn) ∧ w'.cell? ⟨p5, 4, none⟩ = some (.int .u64 ix) ∧ w'.cell? ⟨p5, 5, none⟩ = some (.int .u8 d))) (by kernel_rfl) hS0 (fun hHeld => ?_)
                  generalize v2.drew = v3 at *
                  refine take_d (i := 0) (d := 90) (v := ?z1) rfl rfl (by kernel_rfl) (by kernel_rfl) (by kernel_rfl) (fun _ _ _ h => h) (Or.inl ⟨by kernel_rfl, ?z1h⟩) hHeld ?z1n
                  case z1h => (intro w hSw; (try dsimp only at hSw); go_split_ands; go_simp; (try exact rfl))
                  try simp only [Act.put, List.setIfInBounds_toArray, List.set_cons_zero, List.set_cons_succ]
                  refine take_d (i := 1) (d := 91) (v := ?z2) rfl rfl (by kernel_rfl) (by kernel_rfl) (by kernel_rfl) (fun _ _ _ h => h) (Or.inl ⟨by kernel_rfl, ?z2h⟩) hHeld ?z2n
                  case z2h => (intro w hSw; (try dsimp only at hSw); go_split_ands; go_simp; (try exact rfl))
                  try simp only [Act.put, List.setIfInBounds_toArray, List.set_cons_zero, List.set_cons_succ]
                  refine take_d (i := 2) (d := 92) (v := ?z3) rfl rfl (by kernel_rfl) (by kernel_rfl) (by kernel_rfl) (fun _ _ _ h => h) (Or.inl ⟨by kernel_rfl, ?z3h⟩) hHeld ?z3n
                  case z3h => (intro w hSw; (try dsimp only at hSw); go_split_ands; go_simp; (try exact rfl))
                  try simp only [Act.put, List.setIfInBounds_toArray, List.set_cons_zero, List.set_cons_succ]
                  refine take_d (i := 3) (d := 93) (v := ?z4) rfl rfl (by kernel_rfl) (by kernel_rfl) (by kernel_rfl) (fun _ _ _ h => h) (Or.inl ⟨by kernel_rfl, ?z4h⟩) hHeld ?z4n
                  case z4h => (intro w hSw; (try dsimp only at hSw); go_split_ands; go_simp; (try exact rfl))
                  try simp only [Act.put, List.setIfInBounds_toArray, List.set_cons_zero, List.set_cons_succ]
                  refine take_d (i := 4) (d := 94) (v := ?z5) rfl rfl (by kernel_rfl) (by kernel_rfl) (by kernel_rfl) (fun _ _ _ h => h) (Or.inl ⟨by kernel_rfl, ?z5h⟩) hHeld ?z5n
                  case z5h => (intro w hSw; (try dsimp only at hSw); go_split_ands; go_simp; (try exact rfl))
                  try simp only [Act.put, List.setIfInBounds_toArray, List.set_cons_zero, List.set_cons_succ]
                  refine take_d (i := 5) (d := 95) (v := .int .u64 ((k : Int) + 1)) rfl rfl (by kernel_rfl) (by kernel_rfl) (by kernel_rfl) (fun _ _ _ h => h) (Or.inl ⟨by kernel_rfl, ?z6h⟩) hHeld ?_
                  case z6h => (intro w hSw; (try dsimp only at hSw); go_split_ands; go_simp; (try exact rfl))
                  try simp only [Act.put, List.setIfInBounds_toArray, List.set_cons_zero, List.set_cons_succ]
                  refine take_d (i := 6) (d := 96) (v := ?z7) rfl rfl (by kernel_rfl) (by kernel_rfl) (by kernel_rfl) (fun _ _ _ h => h) (Or.inl ⟨by kernel_rfl, ?z7h⟩) hHeld ?z7n
                  case z7h => (intro w hSw; (try dsimp only at hSw); go_split_ands; go_simp; (try exact rfl))
                  try simp only [Act.put, List.setIfInBounds_toArray, List.set_cons_zero, List.set_cons_succ]
                  refine take_d (i := 7) (d := 97) (v := ?z8) rfl rfl (by kernel_rfl) (by kernel_rfl) (by kernel_rfl) (fun _ _ _ h => h) (Or.inl ⟨by kernel_rfl, ?z8h⟩) hHeld ?z8n
                  case z8h => (intro w hSw; (try dsimp only at hSw); go_split_ands; go_simp; (try exact rfl))
                  try simp only [Act.put, List.setIfInBounds_toArray, List.set_cons_zero, List.set_cons_succ]
                  refine wpAnyH_ready (rs := [8, 15, 16]) (by kernel_rfl) (by simp) ?_
                  refine AllReadyH.cons rfl (fun K hK => ?_) (AllReadyH.cons rfl (fun K hK => ?_) (AllReadyH.cons rfl (fun K hK => ?_) AllReadyH.nil))
                  · skip
                    go_simp
                    have hb : Below v3.heap.size v3 (v3.alloc (.cells #[.int .u8 d] 5)) := (Below.refl _ _).alloc (Nat.le_refl _) _
                    have B34 := Lib.hid (B33.out.below hb B33.out.lt)
                    have B54 := Lib.hid (B53.out.below hb B53.out.lt)
                    have HE4 := Lib.hid (Eos.below HE3.out hb)
                    have HB4 := Lib.hid (HB3.out.trans (hb.mono HB3.out.size))
                    refine hK.out _ _ (HDD.out _ B34.out B54.out) (fun hHeld => ?_)
                    clear hK K
                    have B984 : Hid (Blk (v3.alloc (.cells #[.int .u8 d] 5)) v3.heap.size 5 #[.int .u8 d]) := Lib.hid (Blk.new _ _ _)
                    have P98 := Lib.hid HB3.out.size
                    have N98 := Lib.hid (show p3 < v3.heap.size ∧ p5 < v3.heap.size from ⟨B33.out.lt, B53.out.lt⟩)
                    clear hb
                    generalize (v3.alloc (.cells #[.int .u8 d] 5)) = v4 at *
                    generalize v3.heap.size = p98 at *
                    try simp only [Act.put, List.setIfInBounds_toArray, List.set_cons_zero, List.set_cons_succ]
                    refine take_d (i := 9) (d := 99) (v := ?z9) rfl rfl (by kernel_rfl) (by kernel_rfl) (by kernel_rfl) (fun _ _ _ h => h) (Or.inl ⟨by kernel_rfl, ?z9h⟩) hHeld ?z9n
                    case z9h => (intro w hSw; (try dsimp only at hSw); go_split_ands; go_simp; (try exact rfl))
                    try simp only [Act.put, List.setIfInBounds_toArray, List.set_cons_zero, List.set_cons_succ]
                    refine wpAnyH_ready (rs := [10, 15, 16]) (by kernel_rfl) (by simp) ?_
                    refine AllReadyH.cons rfl (fun K hK => ?_) (AllReadyH.cons rfl (fun K hK => ?_) (AllReadyH.cons rfl (fun K hK => ?_) AllReadyH.nil))
                    · skip
                      go_simp
                      refine (APM.out v4 p98 HE4.out B984.out).mono ?_
                      rintro e v5 ⟨Ax, nx, cx, rfl, ho, hb⟩
                      have B35 := Lib.hid (B34.out.below hb B34.out.lt)
                      have B55 := Lib.hid (B54.out.below hb B54.out.lt)
                      have B985 := Lib.hid (B984.out.below hb B984.out.lt)
                      have HE5 := Lib.hid (Eos.below HE4.out hb)
                      have HB5 := Lib.hid (HB4.out.trans (hb.mono HB4.out.size))
                      have HX5 := Lib.hid (ho.down HB4.out.size)
                      clear ho hb
                      refine hK.out _ _ (HDD.out _ B35.out B55.out) (fun hHeld => ?_)
                      clear hK K
                      try simp only [Act.put, List.setIfInBounds_toArray, List.set_cons_zero, List.set_cons_succ]
                      refine take_d (i := 11) (d := 89) (v := ?z10) rfl rfl (by kernel_rfl) (by kernel_rfl) (by kernel_rfl) (fun _ _ _ h => h) (Or.inl ⟨by kernel_rfl, ?z10h⟩) hHeld ?z10n
                      case z10h => (intro w hSw; (try dsimp only at hSw); go_split_ands; go_simp; (try exact rfl))
                      try simp only [Act.put, List.setIfInBounds_toArray, List.set_cons_zero, List.set_cons_succ]
                      refine take_d (i := 12) (d := 101) (v := ?z11) rfl rfl (by kernel_rfl) (by kernel_rfl) (by kernel_rfl) (fun _ _ _ h => h) (Or.inl ⟨by kernel_rfl, ?z11h⟩) hHeld ?z11n
                      case z11h => (intro w hSw; (try dsimp only at hSw); go_split_ands; go_simp; (try exact rfl))
                      try simp only [Act.put, List.setIfInBounds_toArray, List.set_cons_zero, List.set_cons_succ]
                      refine take_d (i := 13) (d := 102) (v := ?z12) rfl rfl (by kernel_rfl) (by kernel_rfl) (by kernel_rfl) (fun _ _ _ h => h) (Or.inl ⟨by kernel_rfl, ?z12h⟩) hHeld ?z12n
                      case z12h => (intro w hSw; (try dsimp only at hSw); go_split_ands; go_simp; (try exact rfl))
                      try simp only [Act.put, List.setIfInBounds_toArray, List.set_cons_zero, List.set_cons_succ]
                      refine take_d (i := 14) (d := 103) (v := ?z13) rfl rfl (by kernel_rfl) (by kernel_rfl) (by kernel_rfl) (fun _ _ _ h => h) (Or.inl ⟨by kernel_rfl, ?z13h⟩) hHeld ?z13n
                      case z13h => (intro w hSw; (try dsimp only at hSw); go_split_ands; go_simp; (try exact rfl))
                      try simp only [Act.put, List.setIfInBounds_toArray, List.set_cons_zero, List.set_cons_succ]
                      refine wpAnyH_ready (rs := [15, 16]) (by kernel_rfl) (by simp) ?_
                      refine AllReadyH.cons rfl (fun K hK => ?_) (AllReadyH.cons rfl (fun K hK => ?_) AllReadyH.nil)
                      · skip
                        go_simp
                        have hb : Below v5.heap.size v5 (v5.alloc (.cells #[.int .u64 0, .int .u64 0, .slice none 0 0] 27)) := (Below.refl _ _).alloc (Nat.le_refl _) _
                        have B36 := Lib.hid (B35.out.below hb B35.out.lt)
                        have B56 := Lib.hid (B55.out.below hb B55.out.lt)
                        have B986 := Lib.hid (B985.out.below hb B985.out.lt)
                        have HE6 := Lib.hid (Eos.below HE5.out hb)
                        have HX6 := Lib.hid (Eo.below HX5.out hb)
                        have HB6 := Lib.hid (HB5.out.trans (hb.mono HB5.out.size))
                        refine hK.out _ _ (HDD.out _ B36.out B56.out) (fun hHeld => ?_)
                        clear hK K
                        have B86 : Hid (Blk (v5.alloc (.cells #[.int .u64 0, .int .u64 0, .slice none 0 0] 27)) v5.heap.size 27 #[.int .u64 0, .int .u64 0, .slice none 0 0]) := Lib.hid (Blk.new _ _ _)
                        have P8 := Lib.hid HB5.out.size
                        have N8 := Lib.hid (show p3 < v5.heap.size ∧ p5 < v5.heap.size ∧ p98 < v5.heap.size from ⟨B35.out.lt, B55.out.lt, B985.out.lt⟩)
                        clear hb
                        generalize (v5.alloc (.cells #[.int .u64 0, .int .u64 0, .slice none 0 0] 27)) = v6 at *
                        generalize v5.heap.size = p8 at *
                        try simp only [Act.put, List.setIfInBounds_toArray, List.set_cons_zero, List.set_cons_succ]
                        refine wpAnyH_ready (rs := [16]) (by kernel_rfl) (by simp) ?_
                        refine AllReadyH.cons rfl (fun K hK => ?_) AllReadyH.nil
                        go_simp
                        have hb : Below v6.heap.size v6 (v6.alloc (.cells #[.int .u64 0, .int .u64 0] 24)) := (Below.refl _ _).alloc (Nat.le_refl _) _
                        have B37 := Lib.hid (B36.out.below hb B36.out.lt)
                        have B57 := Lib.hid (B56.out.below hb B56.out.lt)
                        have B987 := Lib.hid (B986.out.below hb B986.out.lt)
                        have B87 := Lib.hid (B86.out.below hb B86.out.lt)
                        have HE7 := Lib.hid (Eos.below HE6.out hb)
                        have HX7 := Lib.hid (Eo.below HX6.out hb)
                        have HB7 := Lib.hid (HB6.out.trans (hb.mono HB6.out.size))
                        refine hK.out _ _ (HDD.out _ B37.out B57.out) (fun hHeld => ?_)
                        clear hK K
                        have B97 : Hid (Blk (v6.alloc (.cells #[.int .u64 0, .int .u64 0] 24)) v6.heap.size 24 #[.int .u64 0, .int .u64 0]) := Lib.hid (Blk.new _ _ _)
                        have P9 := Lib.hid HB6.out.size
                        have N9 := Lib.hid (show p3 < v6.heap.size ∧ p5 < v6.heap.size ∧ p98 < v6.heap.size ∧ p8 < v6.heap.size from ⟨B36.out.lt, B56.out.lt, B986.out.lt, B86.out.lt⟩)
                        clear hb
                        generalize (v6.alloc (.cells #[.int .u64 0, .int .u64 0] 24)) = v7 at *
                        generalize v6.heap.size = p9 at *
                        try simp only [Act.put, List.setIfInBounds_toArray, List.set_cons_zero, List.set_cons_succ]
                        refine wpAnyH_ready (rs := [17]) (by kernel_rfl) (by simp) ?_
                        refine AllReadyH.cons rfl (fun K hK => ?_) AllReadyH.nil
                        refine wp_store_none 27 _ _ rfl rfl p8 #[.int .u64 0, .int .u64 0, .slice none 0 0] 27 [.int .u64 X.bi, .int .u64 X.bt, .slice Ax nx cx] rfl rfl B87.out rfl Try.i27 (by simp [Value.oneCell']) ?_
                        intro v8 hb ho
                        have B88 := Lib.hid hb
                        have B38 := Lib.hid (ho.keep B37.out (by have := N8.out; omega))
                        have B58 := Lib.hid (ho.keep B57.out (by have := N8.out; omega))
                        have B98 := Lib.hid (ho.keep B97.out (by have := N8.out; have := N9.out; omega))
                        have HE8 := Lib.hid (HE7.out.only B87.out (by decide) (by decide) ho)
                        have HX8 := Lib.hid (Eo.only HX7.out B87.out (by decide) (by decide) ho)
                        have HB8 := Lib.hid (HB7.out.trans (ho.below P8.out))
                        clear hb ho
                        refine hK.out _ _ (HDD.out _ B38.out B58.out) (fun hHeld => ?_)
                        clear hK K
                        try dsimp only [Act.put]
                        try simp only [Act.put, List.setIfInBounds_toArray, List.set_cons_zero, List.set_cons_succ]
                        refine wpAnyH_ready (rs := [18]) (by kernel_rfl) (by simp) ?_
                        refine AllReadyH.cons rfl (fun K hK => ?_) AllReadyH.nil
                        refine wp_store_none 24 _ _ rfl rfl p9 #[.int .u64 0, .int .u64 0] 24 [.int .u64 XI, .int .u64 XT] rfl rfl B98.out rfl Try.i24 (by simp [Value.oneCell']) ?_
                        intro v9 hb ho
                        have B99 := Lib.hid hb
                        have B39 := Lib.hid (ho.keep B38.out (by have := N9.out; omega))
                        have B59 := Lib.hid (ho.keep B58.out (by have := N9.out; omega))
                        have B89 := Lib.hid (ho.keep B88.out (by have := N8.out; have := N9.out; omega))
                        have HE9 := Lib.hid (HE8.out.only B98.out (by decide) (by decide) ho)
                        have HX9 := Lib.hid (Eo.only HX8.out B98.out (by decide) (by decide) ho)
                        have HB9 := Lib.hid (HB8.out.trans (ho.below P9.out))
                        clear hb ho
                        refine hK.out _ _ (HDD.out _ B39.out B59.out) (fun hHeld => ?_)
                        clear hK K
                        try dsimp only [Act.put]
                        try simp only [Act.put, List.setIfInBounds_toArray, List.set_cons_zero, List.set_cons_succ]
                        refine take_d (i := 19) (d := 10) (v := ?z14) rfl rfl (by kernel_rfl) (by kernel_rfl) (by kernel_rfl) (fun _ _ _ h => h) (Or.inl ⟨by kernel_rfl, ?z14h⟩) hHeld ?z14n
                        case z14h => (intro w hSw; (try dsimp only at hSw); go_split_ands; go_simp; (try exact rfl))
                        try simp only [Act.put, List.setIfInBounds_toArray, List.set_cons_zero, List.set_cons_succ]
                        refine wpAnyH_done (by kernel_rfl) ?_ _
                        refine NoPanic.normal ?_
                        clear kw kw1 APM
                        go_wp2_with fail
                        go_meet
                        case rel => exact ⟨rfl, rfl, ⟨_, rfl⟩, p8, Ax, nx, cx, rfl, B89.out, HX9.out, B39.out, B59.out, HE9.out, HB9.out⟩
                      · skip
                        go_simp
                        have hb : Below v5.heap.size v5 (v5.alloc (.cells #[.int .u64 0, .int .u64 0] 24)) := (Below.refl _ _).alloc (Nat.le_refl _) _
                        have B36 := Lib.hid (B35.out.below hb B35.out.lt)
                        have B56 := Lib.hid (B55.out.below hb B55.out.lt)
                        have B986 := Lib.hid (B985.out.below hb B985.out.lt)
                        have HE6 := Lib.hid (Eos.below HE5.out hb)
                        have HX6 := Lib.hid (Eo.below HX5.out hb)
                        have HB6 := Lib.hid (HB5.out.trans (hb.mono HB5.out.size))
                        refine hK.out _ _ (HDD.out _ B36.out B56.out) (fun hHeld => ?_)
                        clear hK K
                        have B96 : Hid (Blk (v5.alloc (.cells #[.int .u64 0, .int .u64 0] 24)) v5.heap.size 24 #[.int .u64 0, .int .u64 0]) := Lib.hid (Blk.new _ _ _)
                        have P9 := Lib.hid HB5.out.size
                        have N9 := Lib.hid (show p3 < v5.heap.size ∧ p5 < v5.heap.size ∧ p98 < v5.heap.size from ⟨B35.out.lt, B55.out.lt, B985.out.lt⟩)
                        clear hb
                        generalize (v5.alloc (.cells #[.int .u64 0, .int .u64 0] 24)) = v6 at *
                        generalize v5.heap.size = p9 at *
                        try simp only [Act.put, List.setIfInBounds_toArray, List.set_cons_zero, List.set_cons_succ]
                        refine wpAnyH_ready (rs := [15]) (by kernel_rfl) (by simp) ?_
                        refine AllReadyH.cons rfl (fun K hK => ?_) AllReadyH.nil
                        go_simp
                        have hb : Below v6.heap.size v6 (v6.alloc (.cells #[.int .u64 0, .int .u64 0, .slice none 0 0] 27)) := (Below.refl _ _).alloc (Nat.le_refl _) _
                        have B37 := Lib.hid (B36.out.below hb B36.out.lt)
                        have B57 := Lib.hid (B56.out.below hb B56.out.lt)
                        have B987 := Lib.hid (B986.out.below hb B986.out.lt)
                        have B97 := Lib.hid (B96.out.below hb B96.out.lt)
                        have HE7 := Lib.hid (Eos.below HE6.out hb)
                        have HX7 := Lib.hid (Eo.below HX6.out hb)
                        have HB7 := Lib.hid (HB6.out.trans (hb.mono HB6.out.size))
                        refine hK.out _ _ (HDD.out _ B37.out B57.out) (fun hHeld => ?_)
                        clear hK K
                        have B87 : Hid (Blk (v6.alloc (.cells #[.int .u64 0, .int .u64 0, .slice none 0 0] 27)) v6.heap.size 27 #[.int .u64 0, .int .u64 0, .slice none 0 0]) := Lib.hid (Blk.new _ _ _)
                        have P8 := Lib.hid HB6.out.size
                        have N8 := Lib.hid (show p3 < v6.heap.size ∧ p5 < v6.heap.size ∧ p98 < v6.heap.size ∧ p9 < v6.heap.size from ⟨B36.out.lt, B56.out.lt, B986.out.lt, B96.out.lt⟩)
                        clear hb
                        generalize (v6.alloc (.cells #[.int .u64 0, .int .u64 0, .slice none 0 0] 27)) = v7 at *
                        generalize v6.heap.size = p8 at *
                        try simp only [Act.put, List.setIfInBounds_toArray, List.set_cons_zero, List.set_cons_succ]
                        refine wpAnyH_ready (rs := [17]) (by kernel_rfl) (by simp) ?_
                        refine AllReadyH.cons rfl (fun K hK => ?_) AllReadyH.nil
                        refine wp_store_none 27 _ _ rfl rfl p8 #[.int .u64 0, .int .u64 0, .slice none 0 0] 27 [.int .u64 X.bi, .int .u64 X.bt, .slice Ax nx cx] rfl rfl B87.out rfl Try.i27 (by simp [Value.oneCell']) ?_
                        intro v8 hb ho
                        have B88 := Lib.hid hb
                        have B38 := Lib.hid (ho.keep B37.out (by have := N8.out; omega))
                        have B58 := Lib.hid (ho.keep B57.out (by have := N8.out; omega))
                        have B98 := Lib.hid (ho.keep B97.out (by have := N8.out; have := N9.out; omega))
                        have HE8 := Lib.hid (HE7.out.only B87.out (by decide) (by decide) ho)
                        have HX8 := Lib.hid (Eo.only HX7.out B87.out (by decide) (by decide) ho)
                        have HB8 := Lib.hid (HB7.out.trans (ho.below P8.out))
                        clear hb ho
                        refine hK.out _ _ (HDD.out _ B38.out B58.out) (fun hHeld => ?_)
                        clear hK K
                        try dsimp only [Act.put]
                        try simp only [Act.put, List.setIfInBounds_toArray, List.set_cons_zero, List.set_cons_succ]
                        refine wpAnyH_ready (rs := [18]) (by kernel_rfl) (by simp) ?_
                        refine AllReadyH.cons rfl (fun K hK => ?_) AllReadyH.nil
                        refine wp_store_none 24 _ _ rfl rfl p9 #[.int .u64 0, .int .u64 0] 24 [.int .u64 XI, .int .u64 XT] rfl rfl B98.out rfl Try.i24 (by simp [Value.oneCell']) ?_
                        intro v9 hb ho
                        have B99 := Lib.hid hb
                        have B39 := Lib.hid (ho.keep B38.out (by have := N9.out; omega))
                        have B59 := Lib.hid (ho.keep B58.out (by have := N9.out; omega))
                        have B89 := Lib.hid (ho.keep B88.out (by have := N8.out; have := N9.out; omega))
                        have HE9 := Lib.hid (HE8.out.only B98.out (by decide) (by decide) ho)
                        have HX9 := Lib.hid (Eo.only HX8.out B98.out (by decide) (by decide) ho)
                        have HB9 := Lib.hid (HB8.out.trans (ho.below P9.out))
                        clear hb ho
                        refine hK.out _ _ (HDD.out _ B39.out B59.out) (fun hHeld => ?_)
                        clear hK K
                        try dsimp only [Act.put]
                        try simp only [Act.put, List.setIfInBounds_toArray, List.set_cons_zero, List.set_cons_succ]
                        refine take_d (i := 19) (d := 10) (v := ?z15) rfl rfl (by kernel_rfl) (by kernel_rfl) (by kernel_rfl) (fun _ _ _ h => h) (Or.inl ⟨by kernel_rfl, ?z15h⟩) hHeld ?z15n
                        case z15h => (intro w hSw; (try dsimp only at hSw); go_split_ands; go_simp; (try exact rfl))
                        try simp only [Act.put, List.setIfInBounds_toArray, List.set_cons_zero, List.set_cons_succ]
                        refine wpAnyH_done (by kernel_rfl) ?_ _
                        refine NoPanic.normal ?_
                        clear kw kw1 APM
                        go_wp2_with fail
                        go_meet
                        case rel => exact ⟨rfl, rfl, ⟨_, rfl⟩, p8, Ax, nx, cx, rfl, B89.out, HX9.out, B39.out, B59.out, HE9.out, HB9.out⟩
                    · skip
                      go_simp
                      have hb : Below v4.heap.size v4 (v4.alloc (.cells #[.int .u64 0, .int .u64 0, .slice none 0 0] 27)) := (Below.refl _ _).alloc (Nat.le_refl _) _
                      have B35 := Lib.hid (B34.out.below hb B34.out.lt)
                      have B55 := Lib.hid (B54.out.below hb B54.out.lt)
                      have B985 := Lib.hid (B984.out.below hb B984.out.lt)
                      have HE5 := Lib.hid (Eos.below HE4.out hb)
                      have HB5 := Lib.hid (HB4.out.trans (hb.mono HB4.out.size))
                      refine hK.out _ _ (HDD.out _ B35.out B55.out) (fun hHeld => ?_)
                      clear hK K
                      have B85 : Hid (Blk (v4.alloc (.cells #[.int .u64 0, .int .u64 0, .slice none 0 0] 27)) v4.heap.size 27 #[.int .u64 0, .int .u64 0, .slice none 0 0]) := Lib.hid (Blk.new _ _ _)
                      have P8 := Lib.hid HB4.out.size
                      have N8 := Lib.hid (show p3 < v4.heap.size ∧ p5 < v4.heap.size ∧ p98 < v4.heap.size from ⟨B34.out.lt, B54.out.lt, B984.out.lt⟩)
                      clear hb
                      generalize (v4.alloc (.cells #[.int .u64 0, .int .u64 0, .slice none 0 0] 27)) = v5 at *
                      generalize v4.heap.size = p8 at *
                      try simp only [Act.put, List.setIfInBounds_toArray, List.set_cons_zero, List.set_cons_succ]
                      refine wpAnyH_ready (rs := [10, 16]) (by kernel_rfl) (by simp) ?_
                      refine AllReadyH.cons rfl (fun K hK => ?_) (AllReadyH.cons rfl (fun K hK => ?_) AllReadyH.nil)
                      · skip
                        go_simp
                        refine (APM.out v5 p98 HE5.out B985.out).mono ?_
                        rintro e v6 ⟨Ax, nx, cx, rfl, ho, hb⟩
                        have B36 := Lib.hid (B35.out.below hb B35.out.lt)
                        have B56 := Lib.hid (B55.out.below hb B55.out.lt)
                        have B986 := Lib.hid (B985.out.below hb B985.out.lt)
                        have B86 := Lib.hid (B85.out.below hb B85.out.lt)
                        have HE6 := Lib.hid (Eos.below HE5.out hb)
                        have HB6 := Lib.hid (HB5.out.trans (hb.mono HB5.out.size))
                        have HX6 := Lib.hid (ho.down HB5.out.size)
                        clear ho hb
                        refine hK.out _ _ (HDD.out _ B36.out B56.out) (fun hHeld => ?_)
                        clear hK K
                        try simp only [Act.put, List.setIfInBounds_toArray, List.set_cons_zero, List.set_cons_succ]
                        refine take_d (i := 11) (d := 89) (v := ?z16) rfl rfl (by kernel_rfl) (by kernel_rfl) (by kernel_rfl) (fun _ _ _ h => h) (Or.inl ⟨by kernel_rfl, ?z16h⟩) hHeld ?z16n
                        case z16h => (intro w hSw; (try dsimp only at hSw); go_split_ands; go_simp; (try exact rfl))
                        try simp only [Act.put, List.setIfInBounds_toArray, List.set_cons_zero, List.set_cons_succ]
                        refine take_d (i := 12) (d := 101) (v := ?z17) rfl rfl (by kernel_rfl) (by kernel_rfl) (by kernel_rfl) (fun _ _ _ h => h) (Or.inl ⟨by kernel_rfl, ?z17h⟩) hHeld ?z17n
                        case z17h => (intro w hSw; (try dsimp only at hSw); go_split_ands; go_simp; (try exact rfl))
                        try simp only [Act.put, List.setIfInBounds_toArray, List.set_cons_zero, List.set_cons_succ]
                        refine take_d (i := 13) (d := 102) (v := ?z18) rfl rfl (by kernel_rfl) (by kernel_rfl) (by kernel_rfl) (fun _ _ _ h => h) (Or.inl ⟨by kernel_rfl, ?z18h⟩) hHeld ?z18n
                        case z18h => (intro w hSw; (try dsimp only at hSw); go_split_ands; go_simp; (try exact rfl))
                        try simp only [Act.put, List.setIfInBounds_toArray, List.set_cons_zero, List.set_cons_succ]
                        refine take_d (i := 14) (d := 103) (v := ?z19) rfl rfl (by kernel_rfl) (by kernel_rfl) (by kernel_rfl) (fun _ _ _ h => h) (Or.inl ⟨by kernel_rfl, ?z19h⟩) hHeld ?z19n
                        case z19h => (intro w hSw; (try dsimp only at hSw); go_split_ands; go_simp; (try exact rfl))
                        try simp only [Act.put, List.setIfInBounds_toArray, List.set_cons_zero, List.set_cons_succ]
                        refine wpAnyH_ready (rs := [16]) (by kernel_rfl) (by simp) ?_
                        refine AllReadyH.cons rfl (fun K hK => ?_) AllReadyH.nil
                        go_simp
                        have hb : Below v6.heap.size v6 (v6.alloc (.cells #[.int .u64 0, .int .u64 0] 24)) := (Below.refl _ _).alloc (Nat.le_refl _) _
                        have B37 := Lib.hid (B36.out.below hb B36.out.lt)
                        have B57 := Lib.hid (B56.out.below hb B56.out.lt)
                        have B987 := Lib.hid (B986.out.below hb B986.out.lt)
                        have B87 := Lib.hid (B86.out.below hb B86.out.lt)
                        have HE7 := Lib.hid (Eos.below HE6.out hb)
                        have HX7 := Lib.hid (Eo.below HX6.out hb)
                        have HB7 := Lib.hid (HB6.out.trans (hb.mono HB6.out.size))
                        refine hK.out _ _ (HDD.out _ B37.out B57.out) (fun hHeld => ?_)
                        clear hK K
                        have B97 : Hid (Blk (v6.alloc (.cells #[.int .u64 0, .int .u64 0] 24)) v6.heap.size 24 #[.int .u64 0, .int .u64 0]) := Lib.hid (Blk.new _ _ _)
                        have P9 := Lib.hid HB6.out.size
                        have N9 := Lib.hid (show p3 < v6.heap.size ∧ p5 < v6.heap.size ∧ p98 < v6.heap.size ∧ p8 < v6.heap.size from ⟨B36.out.lt, B56.out.lt, B986.out.lt, B86.out.lt⟩)
                        clear hb
                        generalize (v6.alloc (.cells #[.int .u64 0, .int .u64 0] 24)) = v7 at *
                        generalize v6.heap.size = p9 at *
                        try simp only [Act.put, List.setIfInBounds_toArray, List.set_cons_zero, List.set_cons_succ]
                        refine wpAnyH_ready (rs := [17]) (by kernel_rfl) (by simp) ?_
                        refine AllReadyH.cons rfl (fun K hK => ?_) AllReadyH.nil
                        refine wp_store_none 27 _ _ rfl rfl p8 #[.int .u64 0, .int .u64 0, .slice none 0 0] 27 [.int .u64 X.bi, .int .u64 X.bt, .slice Ax nx cx] rfl rfl B87.out rfl Try.i27 (by simp [Value.oneCell']) ?_
                        intro v8 hb ho
                        have B88 := Lib.hid hb
                        have B38 := Lib.hid (ho.keep B37.out (by have := N8.out; omega))
                        have B58 := Lib.hid (ho.keep B57.out (by have := N8.out; omega))
                        have B98 := Lib.hid (ho.keep B97.out (by have := N8.out; have := N9.out; omega))
                        have HE8 := Lib.hid (HE7.out.only B87.out (by decide) (by decide) ho)
                        have HX8 := Lib.hid (Eo.only HX7.out B87.out (by decide) (by decide) ho)
                        have HB8 := Lib.hid (HB7.out.trans (ho.below P8.out))
                        clear hb ho
                        refine hK.out _ _ (HDD.out _ B38.out B58.out) (fun hHeld => ?_)
                        clear hK K
                        try dsimp only [Act.put]
                        try simp only [Act.put, List.setIfInBounds_toArray, List.set_cons_zero, List.set_cons_succ]
                        refine wpAnyH_ready (rs := [18]) (by kernel_rfl) (by simp) ?_
                        refine AllReadyH.cons rfl (fun K hK => ?_) AllReadyH.nil
                        refine wp_store_none 24 _ _ rfl rfl p9 #[.int .u64 0, .int .u64 0] 24 [.int .u64 XI, .int .u64 XT] rfl rfl B98.out rfl Try.i24 (by simp [Value.oneCell']) ?_
                        intro v9 hb ho
                        have B99 := Lib.hid hb
                        have B39 := Lib.hid (ho.keep B38.out (by have := N9.out; omega))
                        have B59 := Lib.hid (ho.keep B58.out (by have := N9.out; omega))
                        have B89 := Lib.hid (ho.keep B88.out (by have := N8.out; have := N9.out; omega))
                        have HE9 := Lib.hid (HE8.out.only B98.out (by decide) (by decide) ho)
                        have HX9 := Lib.hid (Eo.only HX8.out B98.out (by decide) (by decide) ho)
                        have HB9 := Lib.hid (HB8.out.trans (ho.below P9.out))
                        clear hb ho
                        refine hK.out _ _ (HDD.out _ B39.out B59.out) (fun hHeld => ?_)
                        clear hK K
                        try dsimp only [Act.put]
                        try simp only [Act.put, List.setIfInBounds_toArray, List.set_cons_zero, List.set_cons_succ]
                        refine take_d (i := 19) (d := 10) (v := ?z20) rfl rfl (by kernel_rfl) (by kernel_rfl) (by kernel_rfl) (fun _ _ _ h => h) (Or.inl ⟨by kernel_rfl, ?z20h⟩) hHeld ?z20n
                        case z20h => (intro w hSw; (try dsimp only at hSw); go_split_ands; go_simp; (try exact rfl))
                        try simp only [Act.put, List.setIfInBounds_toArray, List.set_cons_zero, List.set_cons_succ]
                        refine wpAnyH_done (by kernel_rfl) ?_ _
                        refine NoPanic.normal ?_
                        clear kw kw1 APM
                        go_wp2_with fail
                        go_meet
                        case rel => exact ⟨rfl, rfl, ⟨_, rfl⟩, p8, Ax, nx, cx, rfl, B89.out, HX9.out, B39.out, B59.out, HE9.out, HB9.out⟩
                      · skip
                        go_simp
                        have hb : Below v5.heap.size v5 (v5.alloc (.cells #[.int .u64 0, .int .u64 0] 24)) := (Below.refl _ _).alloc (Nat.le_refl _) _
                        have B36 := Lib.hid (B35.out.below hb B35.out.lt)
                        have B56 := Lib.hid (B55.out.below hb B55.out.lt)
                        have B986 := Lib.hid (B985.out.below hb B985.out.lt)
                        have B86 := Lib.hid (B85.out.below hb B85.out.lt)
                        have HE6 := Lib.hid (Eos.below HE5.out hb)
                        have HB6 := Lib.hid (HB5.out.trans (hb.mono HB5.out.size))
                        refine hK.out _ _ (HDD.out _ B36.out B56.out) (fun hHeld => ?_)
                        clear hK K
                        have B96 : Hid (Blk (v5.alloc (.cells #[.int .u64 0, .int .u64 0] 24)) v5.heap.size 24 #[.int .u64 0, .int .u64 0]) := Lib.hid (Blk.new _ _ _)
                        have P9 := Lib.hid HB5.out.size
                        have N9 := Lib.hid (show p3 < v5.heap.size ∧ p5 < v5.heap.size ∧ p98 < v5.heap.size ∧ p8 < v5.heap.size from ⟨B35.out.lt, B55.out.lt, B985.out.lt, B85.out.lt⟩)
                        clear hb
                        generalize (v5.alloc (.cells #[.int .u64 0, .int .u64 0] 24)) = v6 at *
                        generalize v5.heap.size = p9 at *
                        try simp only [Act.put, List.setIfInBounds_toArray, List.set_cons_zero, List.set_cons_succ]
                        refine wpAnyH_ready (rs := [10]) (by kernel_rfl) (by simp) ?_
                        refine AllReadyH.cons rfl (fun K hK => ?_) AllReadyH.nil
                        go_simp
                        refine (APM.out v6 p98 HE6.out B986.out).mono ?_
                        rintro e v7 ⟨Ax, nx, cx, rfl, ho, hb⟩
                        have B37 := Lib.hid (B36.out.below hb B36.out.lt)
                        have B57 := Lib.hid (B56.out.below hb B56.out.lt)
                        have B987 := Lib.hid (B986.out.below hb B986.out.lt)
                        have B87 := Lib.hid (B86.out.below hb B86.out.lt)
                        have B97 := Lib.hid (B96.out.below hb B96.out.lt)
                        have HE7 := Lib.hid (Eos.below HE6.out hb)
                        have HB7 := Lib.hid (HB6.out.trans (hb.mono HB6.out.size))
                        have HX7 := Lib.hid (ho.down HB6.out.size)
                        clear ho hb
                        refine hK.out _ _ (HDD.out _ B37.out B57.out) (fun hHeld => ?_)
                        clear hK K
                        try simp only [Act.put, List.setIfInBounds_toArray, List.set_cons_zero, List.set_cons_succ]
                        refine take_d (i := 11) (d := 89) (v := ?z21) rfl rfl (by kernel_rfl) (by kernel_rfl) (by kernel_rfl) (fun _ _ _ h => h) (Or.inl ⟨by kernel_rfl, ?z21h⟩) hHeld ?z21n
                        case z21h => (intro w hSw; (try dsimp only at hSw); go_split_ands; go_simp; (try exact rfl))
                        try simp only [Act.put, List.setIfInBounds_toArray, List.set_cons_zero, List.set_cons_succ]
                        refine take_d (i := 12) (d := 101) (v := ?z22) rfl rfl (by kernel_rfl) (by kernel_rfl) (by kernel_rfl) (fun _ _ _ h => h) (Or.inl ⟨by kernel_rfl, ?z22h⟩) hHeld ?z22n
                        case z22h => (intro w hSw; (try dsimp only at hSw); go_split_ands; go_simp; (try exact rfl))
                        try simp only [Act.put, List.setIfInBounds_toArray, List.set_cons_zero, List.set_cons_succ]
                        refine take_d (i := 13) (d := 102) (v := ?z23) rfl rfl (by kernel_rfl) (by kernel_rfl) (by kernel_rfl) (fun _ _ _ h => h) (Or.inl ⟨by kernel_rfl, ?z23h⟩) hHeld ?z23n
                        case z23h => (intro w hSw; (try dsimp only at hSw); go_split_ands; go_simp; (try exact rfl))
                        try simp only [Act.put, List.setIfInBounds_toArray, List.set_cons_zero, List.set_cons_succ]
                        refine take_d (i := 14) (d := 103) (v := ?z24) rfl rfl (by kernel_rfl) (by kernel_rfl) (by kernel_rfl) (fun _ _ _ h => h) (Or.inl ⟨by kernel_rfl, ?z24h⟩) hHeld ?z24n
                        case z24h => (intro w hSw; (try dsimp only at hSw); go_split_ands; go_simp; (try exact rfl))
                        try simp only [Act.put, List.setIfInBounds_toArray, List.set_cons_zero, List.set_cons_succ]
                        refine wpAnyH_ready (rs := [17]) (by kernel_rfl) (by simp) ?_
                        refine AllReadyH.cons rfl (fun K hK => ?_) AllReadyH.nil
                        refine wp_store_none 27 _ _ rfl rfl p8 #[.int .u64 0, .int .u64 0, .slice none 0 0] 27 [.int .u64 X.bi, .int .u64 X.bt, .slice Ax nx cx] rfl rfl B87.out rfl Try.i27 (by simp [Value.oneCell']) ?_
                        intro v8 hb ho
                        have B88 := Lib.hid hb
                        have B38 := Lib.hid (ho.keep B37.out (by have := N8.out; omega))
                        have B58 := Lib.hid (ho.keep B57.out (by have := N8.out; omega))
                        have B98 := Lib.hid (ho.keep B97.out (by have := N8.out; have := N9.out; omega))
                        have HE8 := Lib.hid (HE7.out.only B87.out (by decide) (by decide) ho)
                        have HX8 := Lib.hid (Eo.only HX7.out B87.out (by decide) (by decide) ho)
                        have HB8 := Lib.hid (HB7.out.trans (ho.below P8.out))
                        clear hb ho
                        refine hK.out _ _ (HDD.out _ B38.out B58.out) (fun hHeld => ?_)
                        clear hK K
                        try dsimp only [Act.put]
                        try simp only [Act.put, List.setIfInBounds_toArray, List.set_cons_zero, List.set_cons_succ]
                        refine wpAnyH_ready (rs := [18]) (by kernel_rfl) (by simp) ?_
                        refine AllReadyH.cons rfl (fun K hK => ?_) AllReadyH.nil
                        refine wp_store_none 24 _ _ rfl rfl p9 #[.int .u64 0, .int .u64 0] 24 [.int .u64 XI, .int .u64 XT] rfl rfl B98.out rfl Try.i24 (by simp [Value.oneCell']) ?_
                        intro v9 hb ho
                        have B99 := Lib.hid hb
                        have B39 := Lib.hid (ho.keep B38.out (by have := N9.out; omega))
                        have B59 := Lib.hid (ho.keep B58.out (by have := N9.out; omega))
                        have B89 := Lib.hid (ho.keep B88.out (by have := N8.out; have := N9.out; omega))
                        have HE9 := Lib.hid (HE8.out.only B98.out (by decide) (by decide) ho)
                        have HX9 := Lib.hid (Eo.only HX8.out B98.out (by decide) (by decide) ho)
                        have HB9 := Lib.hid (HB8.out.trans (ho.below P9.out))
                        clear hb ho
                        refine hK.out _ _ (HDD.out _ B39.out B59.out) (fun hHeld => ?_)
                        clear hK K
                        try dsimp only [Act.put]
                        try simp only [Act.put, List.setIfInBounds_toArray, List.set_cons_zero, List.set_cons_succ]
                        refine take_d (i := 19) (d := 10) (v := ?z25) rfl rfl (by kernel_rfl) (by kernel_rfl) (by kernel_rfl) (fun _ _ _ h => h) (Or.inl ⟨by kernel_rfl, ?z25h⟩) hHeld ?z25n
                        case z25h => (intro w hSw; (try dsimp only at hSw); go_split_ands; go_simp; (try exact rfl))
                        try simp only [Act.put, List.setIfInBounds_toArray, List.set_cons_zero, List.set_cons_succ]
                        refine wpAnyH_done (by kernel_rfl) ?_ _
                        refine NoPanic.normal ?_
                        clear kw kw1 APM
                        go_wp2_with fail
                        go_meet
                        case rel => exact ⟨rfl, rfl, ⟨_, rfl⟩, p8, Ax, nx, cx, rfl, B89.out, HX9.out, B39.out, B59.out, HE9.out, HB9.out⟩
                    · skip
                      go_simp
                      have hb : Below v4.heap.size v4 (v4.alloc (.cells #[.int .u64 0, .int .u64 0] 24)) := (Below.refl _ _).alloc (Nat.le_refl _) _
                      have B35 := Lib.hid (B34.out.below hb B34.out.lt)
                      have B55 := Lib.hid (B54.out.below hb B54.out.lt)
                      have B985 := Lib.hid (B984.out.below hb B984.out.lt)
                      have HE5 := Lib.hid (Eos.below HE4.out hb)
                      have HB5 := Lib.hid (HB4.out.trans (hb.mono HB4.out.size))
                      refine hK.out _ _ (HDD.out _ B35.out B55.out) (fun hHeld => ?_)
                      clear hK K
                      have B95 : Hid (Blk (v4.alloc (.cells #[.int .u64 0, .int .u64 0] 24)) v4.heap.size 24 #[.int .u64 0, .int .u64 0]) := Lib.hid (Blk.new _ _ _)
                      have P9 := Lib.hid HB4.out.size
                      have N9 := Lib.hid (show p3 < v4.heap.size ∧ p5 < v4.heap.size ∧ p98 < v4.heap.size from ⟨B34.out.lt, B54.out.lt, B984.out.lt⟩)
                      clear hb
                      generalize (v4.alloc (.cells #[.int .u64 0, .int .u64 0] 24)) = v5 at *
                      generalize v4.heap.size = p9 at *
                      try simp only [Act.put, List.setIfInBounds_toArray, List.set_cons_zero, List.set_cons_succ]
                      refine wpAnyH_ready (rs := [10, 15]) (by kernel_rfl) (by simp) ?_
                      refine AllReadyH.cons rfl (fun K hK => ?_) (AllReadyH.cons rfl (fun K hK => ?_) AllReadyH.nil)
                      · skip
                        go_simp
                        refine (APM.out v5 p98 HE5.out B985.out).mono ?_
                        rintro e v6 ⟨Ax, nx, cx, rfl, ho, hb⟩
                        have B36 := Lib.hid (B35.out.below hb B35.out.lt)
                        have B56 := Lib.hid (B55.out.below hb B55.out.lt)
                        have B986 := Lib.hid (B985.out.below hb B985.out.lt)
                        have B96 := Lib.hid (B95.out.below hb B95.out.lt)
                        have HE6 := Lib.hid (Eos.below HE5.out hb)
                        have HB6 := Lib.hid (HB5.out.trans (hb.mono HB5.out.size))
                        have HX6 := Lib.hid (ho.down HB5.out.size)
                        clear ho hb
                        refine hK.out _ _ (HDD.out _ B36.out B56.out) (fun hHeld => ?_)
                        clear hK K
                        try simp only [Act.put, List.setIfInBounds_toArray, List.set_cons_zero, List.set_cons_succ]
                        refine take_d (i := 11) (d := 89) (v := ?z26) rfl rfl (by kernel_rfl) (by kernel_rfl) (by kernel_rfl) (fun _ _ _ h => h) (Or.inl ⟨by kernel_rfl, ?z26h⟩) hHeld ?z26n
                        case z26h => (intro w hSw; (try dsimp only at hSw); go_split_ands; go_simp; (try exact rfl))
                        try simp only [Act.put, List.setIfInBounds_toArray, List.set_cons_zero, List.set_cons_succ]
                        refine take_d (i := 12) (d := 101) (v := ?z27) rfl rfl (by kernel_rfl) (by kernel_rfl) (by kernel_rfl) (fun _ _ _ h => h) (Or.inl ⟨by kernel_rfl, ?z27h⟩) hHeld ?z27n
                        case z27h => (intro w hSw; (try dsimp only at hSw); go_split_ands; go_simp; (try exact rfl))
                        try simp only [Act.put, List.setIfInBounds_toArray, List.set_cons_zero, List.set_cons_succ]
                        refine take_d (i := 13) (d := 102) (v := ?z28) rfl rfl (by kernel_rfl) (by kernel_rfl) (by kernel_rfl) (fun _ _ _ h => h) (Or.inl ⟨by kernel_rfl, ?z28h⟩) hHeld ?z28n
                        case z28h => (intro w hSw; (try dsimp only at hSw); go_split_ands; go_simp; (try exact rfl))
                        try simp only [Act.put, List.setIfInBounds_toArray, List.set_cons_zero, List.set_cons_succ]
                        refine take_d (i := 14) (d := 103) (v := ?z29) rfl rfl (by kernel_rfl) (by kernel_rfl) (by kernel_rfl) (fun _ _ _ h => h) (Or.inl ⟨by kernel_rfl, ?z29h⟩) hHeld ?z29n
                        case z29h => (intro w hSw; (try dsimp only at hSw); go_split_ands; go_simp; (try exact rfl))
                        try simp only [Act.put, List.setIfInBounds_toArray, List.set_cons_zero, List.set_cons_succ]
                        refine wpAnyH_ready (rs := [15]) (by kernel_rfl) (by simp) ?_
                        refine AllReadyH.cons rfl (fun K hK => ?_) AllReadyH.nil
                        go_simp
                        have hb : Below v6.heap.size v6 (v6.alloc (.cells #[.int .u64 0, .int .u64 0, .slice none 0 0] 27)) := (Below.refl _ _).alloc (Nat.le_refl _) _
                        have B37 := Lib.hid (B36.out.below hb B36.out.lt)
                        have B57 := Lib.hid (B56.out.below hb B56.out.lt)
                        have B987 := Lib.hid (B986.out.below hb B986.out.lt)
                        have B97 := Lib.hid (B96.out.below hb B96.out.lt)
                        have HE7 := Lib.hid (Eos.below HE6.out hb)
                        have HX7 := Lib.hid (Eo.below HX6.out hb)
                        have HB7 := Lib.hid (HB6.out.trans (hb.mono HB6.out.size))
                        refine hK.out _ _ (HDD.out _ B37.out B57.out) (fun hHeld => ?_)
                        clear hK K
                        have B87 : Hid (Blk (v6.alloc (.cells #[.int .u64 0, .int .u64 0, .slice none 0 0] 27)) v6.heap.size 27 #[.int .u64 0, .int .u64 0, .slice none 0 0]) := Lib.hid (Blk.new _ _ _)
                        have P8 := Lib.hid HB6.out.size
                        have N8 := Lib.hid (show p3 < v6.heap.size ∧ p5 < v6.heap.size ∧ p98 < v6.heap.size ∧ p9 < v6.heap.size from ⟨B36.out.lt, B56.out.lt, B986.out.lt, B96.out.lt⟩)
                        clear hb
                        generalize (v6.alloc (.cells #[.int .u64 0, .int .u64 0, .slice none 0 0] 27)) = v7 at *
                        generalize v6.heap.size = p8 at *
                        try simp only [Act.put, List.setIfInBounds_toArray, List.set_cons_zero, List.set_cons_succ]
                        refine wpAnyH_ready (rs := [17]) (by kernel_rfl) (by simp) ?_
                        refine AllReadyH.cons rfl (fun K hK => ?_) AllReadyH.nil
                        refine wp_store_none 27 _ _ rfl rfl p8 #[.int .u64 0, .int .u64 0, .slice none 0 0] 27 [.int .u64 X.bi, .int .u64 X.bt, .slice Ax nx cx] rfl rfl B87.out rfl Try.i27 (by simp [Value.oneCell']) ?_
                        intro v8 hb ho
                        have B88 := Lib.hid hb
                        have B38 := Lib.hid (ho.keep B37.out (by have := N8.out; omega))
                        have B58 := Lib.hid (ho.keep B57.out (by have := N8.out; omega))
                        have B98 := Lib.hid (ho.keep B97.out (by have := N8.out; have := N9.out; omega))
                        have HE8 := Lib.hid (HE7.out.only B87.out (by decide) (by decide) ho)
                        have HX8 := Lib.hid (Eo.only HX7.out B87.out (by decide) (by decide) ho)
                        have HB8 := Lib.hid (HB7.out.trans (ho.below P8.out))
                        clear hb ho
                        refine hK.out _ _ (HDD.out _ B38.out B58.out) (fun hHeld => ?_)
                        clear hK K
                        try dsimp only [Act.put]
                        try simp only [Act.put, List.setIfInBounds_toArray, List.set_cons_zero, List.set_cons_succ]
                        refine wpAnyH_ready (rs := [18]) (by kernel_rfl) (by simp) ?_
                        refine AllReadyH.cons rfl (fun K hK => ?_) AllReadyH.nil
                        refine wp_store_none 24 _ _ rfl rfl p9 #[.int .u64 0, .int .u64 0] 24 [.int .u64 XI, .int .u64 XT] rfl rfl B98.out rfl Try.i24 (by simp [Value.oneCell']) ?_
                        intro v9 hb ho
                        have B99 := Lib.hid hb
                        have B39 := Lib.hid (ho.keep B38.out (by have := N9.out; omega))
                        have B59 := Lib.hid (ho.keep B58.out (by have := N9.out; omega))
                        have B89 := Lib.hid (ho.keep B88.out (by have := N8.out; have := N9.out; omega))
                        have HE9 := Lib.hid (HE8.out.only B98.out (by decide) (by decide) ho)
                        have HX9 := Lib.hid (Eo.only HX8.out B98.out (by decide) (by decide) ho)
                        have HB9 := Lib.hid (HB8.out.trans (ho.below P9.out))
                        clear hb ho
                        refine hK.out _ _ (HDD.out _ B39.out B59.out) (fun hHeld => ?_)
                        clear hK K
                        try dsimp only [Act.put]
                        try simp only [Act.put, List.setIfInBounds_toArray, List.set_cons_zero, List.set_cons_succ]
                        refine take_d (i := 19) (d := 10) (v := ?z30) rfl rfl (by kernel_rfl) (by kernel_rfl) (by kernel_rfl) (fun _ _ _ h => h) (Or.inl ⟨by kernel_rfl, ?z30h⟩) hHeld ?z30n
                        case z30h => (intro w hSw; (try dsimp only at hSw); go_split_ands; go_simp; (try exact rfl))
                        try simp only [Act.put, List.setIfInBounds_toArray, List.set_cons_zero, List.set_cons_succ]
                        refine wpAnyH_done (by kernel_rfl) ?_ _
                        refine NoPanic.normal ?_
                        clear kw kw1 APM
                        go_wp2_with fail
                        go_meet
                        case rel => exact ⟨rfl, rfl, ⟨_, rfl⟩, p8, Ax, nx, cx, rfl, B89.out, HX9.out, B39.out, B59.out, HE9.out, HB9.out⟩
                      · skip
                        go_simp
                        have hb : Below v5.heap.size v5 (v5.alloc (.cells #[.int .u64 0, .int .u64 0, .slice none 0 0] 27)) := (Below.refl _ _).alloc (Nat.le_refl _) _
                        have B36 := Lib.hid (B35.out.below hb B35.out.lt)
                        have B56 := Lib.hid (B55.out.below hb B55.out.lt)
                        have B986 := Lib.hid (B985.out.below hb B985.out.lt)
                        have B96 := Lib.hid (B95.out.below hb B95.out.lt)
                        have HE6 := Lib.hid (Eos.below HE5.out hb)
                        have HB6 := Lib.hid (HB5.out.trans (hb.mono HB5.out.size))
                        refine hK.out _ _ (HDD.out _ B36.out B56.out) (fun hHeld => ?_)
                        clear hK K
                        have B86 : Hid (Blk (v5.alloc (.cells #[.int .u64 0, .int .u64 0, .slice none 0 0] 27)) v5.heap.size 27 #[.int .u64 0, .int .u64 0, .slice none 0 0]) := Lib.hid (Blk.new _ _ _)
                        have P8 := Lib.hid HB5.out.size
                        have N8 := Lib.hid (show p3 < v5.heap.size ∧ p5 < v5.heap.size ∧ p98 < v5.heap.size ∧ p9 < v5.heap.size from ⟨B35.out.lt, B55.out.lt, B985.out.lt, B95.out.lt⟩)
                        clear hb
                        generalize (v5.alloc (.cells #[.int .u64 0, .int .u64 0, .slice none 0 0] 27)) = v6 at *
                        generalize v5.heap.size = p8 at *
                        try simp only [Act.put, List.setIfInBounds_toArray, List.set_cons_zero, List.set_cons_succ]
                        refine wpAnyH_ready (rs := [10]) (by kernel_rfl) (by simp) ?_
                        refine AllReadyH.cons rfl (fun K hK => ?_) AllReadyH.nil
                        go_simp
                        refine (APM.out v6 p98 HE6.out B986.out).mono ?_
                        rintro e v7 ⟨Ax, nx, cx, rfl, ho, hb⟩
                        have B37 := Lib.hid (B36.out.below hb B36.out.lt)
                        have B57 := Lib.hid (B56.out.below hb B56.out.lt)
                        have B987 := Lib.hid (B986.out.below hb B986.out.lt)
                        have B87 := Lib.hid (B86.out.below hb B86.out.lt)
                        have B97 := Lib.hid (B96.out.below hb B96.out.lt)
                        have HE7 := Lib.hid (Eos.below HE6.out hb)
                        have HB7 := Lib.hid (HB6.out.trans (hb.mono HB6.out.size))
                        have HX7 := Lib.hid (ho.down HB6.out.size)
                        clear ho hb
                        refine hK.out _ _ (HDD.out _ B37.out B57.out) (fun hHeld => ?_)
                        clear hK K
                        try simp only [Act.put, List.setIfInBounds_toArray, List.set_cons_zero, List.set_cons_succ]
                        refine take_d (i := 11) (d := 89) (v := ?z31) rfl rfl (by kernel_rfl) (by kernel_rfl) (by kernel_rfl) (fun _ _ _ h => h) (Or.inl ⟨by kernel_rfl, ?z31h⟩) hHeld ?z31n
                        case z31h => (intro w hSw; (try dsimp only at hSw); go_split_ands; go_simp; (try exact rfl))
                        try simp only [Act.put, List.setIfInBounds_toArray, List.set_cons_zero, List.set_cons_succ]
                        refine take_d (i := 12) (d := 101) (v := ?z32) rfl rfl (by kernel_rfl) (by kernel_rfl) (by kernel_rfl) (fun _ _ _ h => h) (Or.inl ⟨by kernel_rfl, ?z32h⟩) hHeld ?z32n
                        case z32h => (intro w hSw; (try dsimp only at hSw); go_split_ands; go_simp; (try exact rfl))
                        try simp only [Act.put, List.setIfInBounds_toArray, List.set_cons_zero, List.set_cons_succ]
                        refine take_d (i := 13) (d := 102) (v := ?z33) rfl rfl (by kernel_rfl) (by kernel_rfl) (by kernel_rfl) (fun _ _ _ h => h) (Or.inl ⟨by kernel_rfl, ?z33h⟩) hHeld ?z33n
                        case z33h => (intro w hSw; (try dsimp only at hSw); go_split_ands; go_simp; (try exact rfl))
                        try simp only [Act.put, List.setIfInBounds_toArray, List.set_cons_zero, List.set_cons_succ]
                        refine take_d (i := 14) (d := 103) (v := ?z34) rfl rfl (by kernel_rfl) (by kernel_rfl) (by kernel_rfl) (fun _ _ _ h => h) (Or.inl ⟨by kernel_rfl, ?z34h⟩) hHeld ?z34n
                        case z34h => (intro w hSw; (try dsimp only at hSw); go_split_ands; go_simp; (try exact rfl))
                        try simp only [Act.put, List.setIfInBounds_toArray, List.set_cons_zero, List.set_cons_succ]
                        refine wpAnyH_ready (rs := [17]) (by kernel_rfl) (by simp) ?_
                        refine AllReadyH.cons rfl (fun K hK => ?_) AllReadyH.nil
                        refine wp_store_none 27 _ _ rfl rfl p8 #[.int .u64 0, .int .u64 0, .slice none 0 0] 27 [.int .u64 X.bi, .int .u64 X.bt, .slice Ax nx cx] rfl rfl B87.out rfl Try.i27 (by simp [Value.oneCell']) ?_
                        intro v8 hb ho
                        have B88 := Lib.hid hb
                        have B38 := Lib.hid (ho.keep B37.out (by have := N8.out; omega))
                        have B58 := Lib.hid (ho.keep B57.out (by have := N8.out; omega))
                        have B98 := Lib.hid (ho.keep B97.out (by have := N8.out; have := N9.out; omega))
                        have HE8 := Lib.hid (HE7.out.only B87.out (by decide) (by decide) ho)
                        have HX8 := Lib.hid (Eo.only HX7.out B87.out (by decide) (by decide) ho)
                        have HB8 := Lib.hid (HB7.out.trans (ho.below P8.out))
                        clear hb ho
                        refine hK.out _ _ (HDD.out _ B38.out B58.out) (fun hHeld => ?_)
                        clear hK K
                        try dsimp only [Act.put]
                        try simp only [Act.put, List.setIfInBounds_toArray, List.set_cons_zero, List.set_cons_succ]
                        refine wpAnyH_ready (rs := [18]) (by kernel_rfl) (by simp) ?_
                        refine AllReadyH.cons rfl (fun K hK => ?_) AllReadyH.nil
                        refine wp_store_none 24 _ _ rfl rfl p9 #[.int .u64 0, .int .u64 0] 24 [.int .u64 XI, .int .u64 XT] rfl rfl B98.out rfl Try.i24 (by simp [Value.oneCell']) ?_
                        intro v9 hb ho
                        have B99 := Lib.hid hb
                        have B39 := Lib.hid (ho.keep B38.out (by have := N9.out; omega))
                        have B59 := Lib.hid (ho.keep B58.out (by have := N9.out; omega))
                        have B89 := Lib.hid (ho.keep B88.out (by have := N8.out; have := N9.out; omega))
                        have HE9 := Lib.hid (HE8.out.only B98.out (by decide) (by decide) ho)
                        have HX9 := Lib.hid (Eo.only HX8.out B98.out (by decide) (by decide) ho)
                        have HB9 := Lib.hid (HB8.out.trans (ho.below P9.out))
                        clear hb ho
                        refine hK.out _ _ (HDD.out _ B39.out B59.out) (fun hHeld => ?_)
                        clear hK K
                        try dsimp only [Act.put]
                        try simp only [Act.put, List.setIfInBounds_toArray, List.set_cons_zero, List.set_cons_succ]
                        refine take_d (i := 19) (d := 10) (v := ?z35) rfl rfl (by kernel_rfl) (by kernel_rfl) (by kernel_rfl) (fun _ _ _ h => h) (Or.inl ⟨by kernel_rfl, ?z35h⟩) hHeld ?z35n
                        case z35h => (intro w hSw; (try dsimp only at hSw); go_split_ands; go_simp; (try exact rfl))
                        try simp only [Act.put, List.setIfInBounds_toArray, List.set_cons_zero, List.set_cons_succ]
                        refine wpAnyH_done (by kernel_rfl) ?_ _
                        refine NoPanic.normal ?_
                        clear kw kw1 APM
                        go_wp2_with fail
                        go_meet
                        case rel => exact ⟨rfl, rfl, ⟨_, rfl⟩, p8, Ax, nx, cx, rfl, B89.out, HX9.out, B39.out, B59.out, HE9.out, HB9.out⟩
                  · skip
                    go_simp
                    have hb : Below v3.heap.size v3 (v3.alloc (.cells #[.int .u64 0, .int .u64 0, .slice none 0 0] 27)) := (Below.refl _ _).alloc (Nat.le_refl _) _
                    have B34 := Lib.hid (B33.out.below hb B33.out.lt)
                    have B54 := Lib.hid (B53.out.below hb B53.out.lt)
                    have HE4 := Lib.hid (Eos.below HE3.out hb)
                    have HB4 := Lib.hid (HB3.out.trans (hb.mono HB3.out.size))
                    refine hK.out _ _ (HDD.out _ B34.out B54.out) (fun hHeld => ?_)
                    clear hK K
                    have B84 : Hid (Blk (v3.alloc (.cells #[.int .u64 0, .int .u64 0, .slice none 0 0] 27)) v3.heap.size 27 #[.int .u64 0, .int .u64 0, .slice none 0 0]) := Lib.hid (Blk.new _ _ _)
                    have P8 := Lib.hid HB3.out.size
                    have N8 := Lib.hid (show p3 < v3.heap.size ∧ p5 < v3.heap.size from ⟨B33.out.lt, B53.out.lt⟩)
                    clear hb
                    generalize (v3.alloc (.cells #[.int .u64 0, .int .u64 0, .slice none 0 0] 27)) = v4 at *
                    generalize v3.heap.size = p8 at *
                    try simp only [Act.put, List.setIfInBounds_toArray, List.set_cons_zero, List.set_cons_succ]
                    refine wpAnyH_ready (rs := [8, 16]) (by kernel_rfl) (by simp) ?_
                    refine AllReadyH.cons rfl (fun K hK => ?_) (AllReadyH.cons rfl (fun K hK => ?_) AllReadyH.nil)
                    · skip
                      go_simp
                      have hb : Below v4.heap.size v4 (v4.alloc (.cells #[.int .u8 d] 5)) := (Below.refl _ _).alloc (Nat.le_refl _) _
                      have B35 := Lib.hid (B34.out.below hb B34.out.lt)
                      have B55 := Lib.hid (B54.out.below hb B54.out.lt)
                      have B85 := Lib.hid (B84.out.below hb B84.out.lt)
                      have HE5 := Lib.hid (Eos.below HE4.out hb)
                      have HB5 := Lib.hid (HB4.out.trans (hb.mono HB4.out.size))
                      refine hK.out _ _ (HDD.out _ B35.out B55.out) (fun hHeld => ?_)
                      clear hK K
                      have B985 : Hid (Blk (v4.alloc (.cells #[.int .u8 d] 5)) v4.heap.size 5 #[.int .u8 d]) := Lib.hid (Blk.new _ _ _)
                      have P98 := Lib.hid HB4.out.size
                      have N98 := Lib.hid (show p3 < v4.heap.size ∧ p5 < v4.heap.size ∧ p8 < v4.heap.size from ⟨B34.out.lt, B54.out.lt, B84.out.lt⟩)
                      clear hb
                      generalize (v4.alloc (.cells #[.int .u8 d] 5)) = v5 at *
                      generalize v4.heap.size = p98 at *
                      try simp only [Act.put, List.setIfInBounds_toArray, List.set_cons_zero, List.set_cons_succ]
                      refine take_d (i := 9) (d := 99) (v := ?z36) rfl rfl (by kernel_rfl) (by kernel_rfl) (by kernel_rfl) (fun _ _ _ h => h) (Or.inl ⟨by kernel_rfl, ?z36h⟩) hHeld ?z36n
                      case z36h => (intro w hSw; (try dsimp only at hSw); go_split_ands; go_simp; (try exact rfl))
                      try simp only [Act.put, List.setIfInBounds_toArray, List.set_cons_zero, List.set_cons_succ]
                      refine wpAnyH_ready (rs := [10, 16]) (by kernel_rfl) (by simp) ?_
                      refine AllReadyH.cons rfl (fun K hK => ?_) (AllReadyH.cons rfl (fun K hK => ?_) AllReadyH.nil)
                      · skip
                        go_simp
                        refine (APM.out v5 p98 HE5.out B985.out).mono ?_
                        rintro e v6 ⟨Ax, nx, cx, rfl, ho, hb⟩
                        have B36 := Lib.hid (B35.out.below hb B35.out.lt)
                        have B56 := Lib.hid (B55.out.below hb B55.out.lt)
                        have B986 := Lib.hid (B985.out.below hb B985.out.lt)
                        have B86 := Lib.hid (B85.out.below hb B85.out.lt)
                        have HE6 := Lib.hid (Eos.below HE5.out hb)
                        have HB6 := Lib.hid (HB5.out.trans (hb.mono HB5.out.size))
                        have HX6 := Lib.hid (ho.down HB5.out.size)
                        clear ho hb
                        refine hK.out _ _ (HDD.out _ B36.out B56.out) (fun hHeld => ?_)
                        clear hK K
                        try simp only [Act.put, List.setIfInBounds_toArray, List.set_cons_zero, List.set_cons_succ]
                        refine take_d (i := 11) (d := 89) (v := ?z37) rfl rfl (by kernel_rfl) (by kernel_rfl) (by kernel_rfl) (fun _ _ _ h => h) (Or.inl ⟨by kernel_rfl, ?z37h⟩) hHeld ?z37n
                        case z37h => (intro w hSw; (try dsimp only at hSw); go_split_ands; go_simp; (try exact rfl))
                        try simp only [Act.put, List.setIfInBounds_toArray, List.set_cons_zero, List.set_cons_succ]
                        refine take_d (i := 12) (d := 101) (v := ?z38) rfl rfl (by kernel_rfl) (by kernel_rfl) (by kernel_rfl) (fun _ _ _ h => h) (Or.inl ⟨by kernel_rfl, ?z38h⟩) hHeld ?z38n
                        case z38h => (intro w hSw; (try dsimp only at hSw); go_split_ands; go_simp; (try exact rfl))
                        try simp only [Act.put, List.setIfInBounds_toArray, List.set_cons_zero, List.set_cons_succ]
                        refine take_d (i := 13) (d := 102) (v := ?z39) rfl rfl (by kernel_rfl) (by kernel_rfl) (by kernel_rfl) (fun _ _ _ h => h) (Or.inl ⟨by kernel_rfl, ?z39h⟩) hHeld ?z39n
                        case z39h => (intro w hSw; (try dsimp only at hSw); go_split_ands; go_simp; (try exact rfl))
                        try simp only [Act.put, List.setIfInBounds_toArray, List.set_cons_zero, List.set_cons_succ]
                        refine take_d (i := 14) (d := 103) (v := ?z40) rfl rfl (by kernel_rfl) (by kernel_rfl) (by kernel_rfl) (fun _ _ _ h => h) (Or.inl ⟨by kernel_rfl, ?z40h⟩) hHeld ?z40n
                        case z40h => (intro w hSw; (try dsimp only at hSw); go_split_ands; go_simp; (try exact rfl))
                        try simp only [Act.put, List.setIfInBounds_toArray, List.set_cons_zero, List.set_cons_succ]
                        refine wpAnyH_ready (rs := [16]) (by kernel_rfl) (by simp) ?_
                        refine AllReadyH.cons rfl (fun K hK => ?_) AllReadyH.nil
                        go_simp
                        have hb : Below v6.heap.size v6 (v6.alloc (.cells #[.int .u64 0, .int .u64 0] 24)) := (Below.refl _ _).alloc (Nat.le_refl _) _
                        have B37 := Lib.hid (B36.out.below hb B36.out.lt)
                        have B57 := Lib.hid (B56.out.below hb B56.out.lt)
                        have B987 := Lib.hid (B986.out.below hb B986.out.lt)
                        have B87 := Lib.hid (B86.out.below hb B86.out.lt)
                        have HE7 := Lib.hid (Eos.below HE6.out hb)
                        have HX7 := Lib.hid (Eo.below HX6.out hb)
                        have HB7 := Lib.hid (HB6.out.trans (hb.mono HB6.out.size))
                        refine hK.out _ _ (HDD.out _ B37.out B57.out) (fun hHeld => ?_)
                        clear hK K
                        have B97 : Hid (Blk (v6.alloc (.cells #[.int .u64 0, .int .u64 0] 24)) v6.heap.size 24 #[.int .u64 0, .int .u64 0]) := Lib.hid (Blk.new _ _ _)
                        have P9 := Lib.hid HB6.out.size
                        have N9 := Lib.hid (show p3 < v6.heap.size ∧ p5 < v6.heap.size ∧ p98 < v6.heap.size ∧ p8 < v6.heap.size from ⟨B36.out.lt, B56.out.lt, B986.out.lt, B86.out.lt⟩)
                        clear hb
                        generalize (v6.alloc (.cells #[.int .u64 0, .int .u64 0] 24)) = v7 at *
                        generalize v6.heap.size = p9 at *
                        try simp only [Act.put, List.setIfInBounds_toArray, List.set_cons_zero, List.set_cons_succ]
                        refine wpAnyH_ready (rs := [17]) (by kernel_rfl) (by simp) ?_
                        refine AllReadyH.cons rfl (fun K hK => ?_) AllReadyH.nil
                        refine wp_store_none 27 _ _ rfl rfl p8 #[.int .u64 0, .int .u64 0, .slice none 0 0] 27 [.int .u64 X.bi, .int .u64 X.bt, .slice Ax nx cx] rfl rfl B87.out rfl Try.i27 (by simp [Value.oneCell']) ?_
                        intro v8 hb ho
                        have B88 := Lib.hid hb
                        have B38 := Lib.hid (ho.keep B37.out (by have := N8.out; omega))
                        have B58 := Lib.hid (ho.keep B57.out (by have := N8.out; omega))
                        have B98 := Lib.hid (ho.keep B97.out (by have := N8.out; have := N9.out; omega))
                        have HE8 := Lib.hid (HE7.out.only B87.out (by decide) (by decide) ho)
                        have HX8 := Lib.hid (Eo.only HX7.out B87.out (by decide) (by decide) ho)
                        have HB8 := Lib.hid (HB7.out.trans (ho.below P8.out))
                        clear hb ho
                        refine hK.out _ _ (HDD.out _ B38.out B58.out) (fun hHeld => ?_)
                        clear hK K
                        try dsimp only [Act.put]
                        try simp only [Act.put, List.setIfInBounds_toArray, List.set_cons_zero, List.set_cons_succ]
                        refine wpAnyH_ready (rs := [18]) (by kernel_rfl) (by simp) ?_
                        refine AllReadyH.cons rfl (fun K hK => ?_) AllReadyH.nil
                        refine wp_store_none 24 _ _ rfl rfl p9 #[.int .u64 0, .int .u64 0] 24 [.int .u64 XI, .int .u64 XT] rfl rfl B98.out rfl Try.i24 (by simp [Value.oneCell']) ?_
                        intro v9 hb ho
                        have B99 := Lib.hid hb
                        have B39 := Lib.hid (ho.keep B38.out (by have := N9.out; omega))
                        have B59 := Lib.hid (ho.keep B58.out (by have := N9.out; omega))
                        have B89 := Lib.hid (ho.keep B88.out (by have := N8.out; have := N9.out; omega))
                        have HE9 := Lib.hid (HE8.out.only B98.out (by decide) (by decide) ho)
                        have HX9 := Lib.hid (Eo.only HX8.out B98.out (by decide) (by decide) ho)
                        have HB9 := Lib.hid (HB8.out.trans (ho.below P9.out))
                        clear hb ho
                        refine hK.out _ _ (HDD.out _ B39.out B59.out) (fun hHeld => ?_)
                        clear hK K
                        try dsimp only [Act.put]
                        try simp only [Act.put, List.setIfInBounds_toArray, List.set_cons_zero, List.set_cons_succ]
                        refine take_d (i := 19) (d := 10) (v := ?z41) rfl rfl (by kernel_rfl) (by kernel_rfl) (by kernel_rfl) (fun _ _ _ h => h) (Or.inl ⟨by kernel_rfl, ?z41h⟩) hHeld ?z41n
                        case z41h => (intro w hSw; (try dsimp only at hSw); go_split_ands; go_simp; (try exact rfl))
                        try simp only [Act.put, List.setIfInBounds_toArray, List.set_cons_zero, List.set_cons_succ]
                        refine wpAnyH_done (by kernel_rfl) ?_ _
                        refine NoPanic.normal ?_
                        clear kw kw1 APM
                        go_wp2_with fail
                        go_meet
                        case rel => exact ⟨rfl, rfl, ⟨_, rfl⟩, p8, Ax, nx, cx, rfl, B89.out, HX9.out, B39.out, B59.out, HE9.out, HB9.out⟩
                      · skip
                        go_simp
                        have hb : Below v5.heap.size v5 (v5.alloc (.cells #[.int .u64 0, .int .u64 0] 24)) := (Below.refl _ _).alloc (Nat.le_refl _) _
                        have B36 := Lib.hid (B35.out.below hb B35.out.lt)
                        have B56 := Lib.hid (B55.out.below hb B55.out.lt)
                        have B986 := Lib.hid (B985.out.below hb B985.out.lt)
                        have B86 := Lib.hid (B85.out.below hb B85.out.lt)
                        have HE6 := Lib.hid (Eos.below HE5.out hb)
                        have HB6 := Lib.hid (HB5.out.trans (hb.mono HB5.out.size))
                        refine hK.out _ _ (HDD.out _ B36.out B56.out) (fun hHeld => ?_)
                        clear hK K
                        have B96 : Hid (Blk (v5.alloc (.cells #[.int .u64 0, .int .u64 0] 24)) v5.heap.size 24 #[.int .u64 0, .int .u64 0]) := Lib.hid (Blk.new _ _ _)
                        have P9 := Lib.hid HB5.out.size
                        have N9 := Lib.hid (show p3 < v5.heap.size ∧ p5 < v5.heap.size ∧ p98 < v5.heap.size ∧ p8 < v5.heap.size from ⟨B35.out.lt, B55.out.lt, B985.out.lt, B85.out.lt⟩)
                        clear hb
                        generalize (v5.alloc (.cells #[.int .u64 0, .int .u64 0] 24)) = v6 at *
                        generalize v5.heap.size = p9 at *
                        try simp only [Act.put, List.setIfInBounds_toArray, List.set_cons_zero, List.set_cons_succ]
                        refine wpAnyH_ready (rs := [10]) (by kernel_rfl) (by simp) ?_
                        refine AllReadyH.cons rfl (fun K hK => ?_) AllReadyH.nil
                        go_simp
                        refine (APM.out v6 p98 HE6.out B986.out).mono ?_
                        rintro e v7 ⟨Ax, nx, cx, rfl, ho, hb⟩
                        have B37 := Lib.hid (B36.out.below hb B36.out.lt)
                        have B57 := Lib.hid (B56.out.below hb B56.out.lt)
                        have B987 := Lib.hid (B986.out.below hb B986.out.lt)
                        have B87 := Lib.hid (B86.out.below hb B86.out.lt)
                        have B97 := Lib.hid (B96.out.below hb B96.out.lt)
                        have HE7 := Lib.hid (Eos.below HE6.out hb)
                        have HB7 := Lib.hid (HB6.out.trans (hb.mono HB6.out.size))
                        have HX7 := Lib.hid (ho.down HB6.out.size)
                        clear ho hb
                        refine hK.out _ _ (HDD.out _ B37.out B57.out) (fun hHeld => ?_)
                        clear hK K
                        try simp only [Act.put, List.setIfInBounds_toArray, List.set_cons_zero, List.set_cons_succ]
                        refine take_d (i := 11) (d := 89) (v := ?z42) rfl rfl (by kernel_rfl) (by kernel_rfl) (by kernel_rfl) (fun _ _ _ h => h) (Or.inl ⟨by kernel_rfl, ?z42h⟩) hHeld ?z42n
                        case z42h => (intro w hSw; (try dsimp only at hSw); go_split_ands; go_simp; (try exact rfl))
                        try simp only [Act.put, List.setIfInBounds_toArray, List.set_cons_zero, List.set_cons_succ]
                        refine take_d (i := 12) (d := 101) (v := ?z43) rfl rfl (by kernel_rfl) (by kernel_rfl) (by kernel_rfl) (fun _ _ _ h => h) (Or.inl ⟨by kernel_rfl, ?z43h⟩) hHeld ?z43n
                        case z43h => (intro w hSw; (try dsimp only at hSw); go_split_ands; go_simp; (try exact rfl))
                        try simp only [Act.put, List.setIfInBounds_toArray, List.set_cons_zero, List.set_cons_succ]
                        refine take_d (i := 13) (d := 102) (v := ?z44) rfl rfl (by kernel_rfl) (by kernel_rfl) (by kernel_rfl) (fun _ _ _ h => h) (Or.inl ⟨by kernel_rfl, ?z44h⟩) hHeld ?z44n
                        case z44h => (intro w hSw; (try dsimp only at hSw); go_split_ands; go_simp; (try exact rfl))
                        try simp only [Act.put, List.setIfInBounds_toArray, List.set_cons_zero, List.set_cons_succ]
                        refine take_d (i := 14) (d := 103) (v := ?z45) rfl rfl (by kernel_rfl) (by kernel_rfl) (by kernel_rfl) (fun _ _ _ h => h) (Or.inl ⟨by kernel_rfl, ?z45h⟩) hHeld ?z45n
                        case z45h => (intro w hSw; (try dsimp only at hSw); go_split_ands; go_simp; (try exact rfl))
                        try simp only [Act.put, List.setIfInBounds_toArray, List.set_cons_zero, List.set_cons_succ]
                        refine wpAnyH_ready (rs := [17]) (by kernel_rfl) (by simp) ?_
                        refine AllReadyH.cons rfl (fun K hK => ?_) AllReadyH.nil
                        refine wp_store_none 27 _ _ rfl rfl p8 #[.int .u64 0, .int .u64 0, .slice none 0 0] 27 [.int .u64 X.bi, .int .u64 X.bt, .slice Ax nx cx] rfl rfl B87.out rfl Try.i27 (by simp [Value.oneCell']) ?_
                        intro v8 hb ho
                        have B88 := Lib.hid hb
                        have B38 := Lib.hid (ho.keep B37.out (by have := N8.out; omega))
                        have B58 := Lib.hid (ho.keep B57.out (by have := N8.out; omega))
                        have B98 := Lib.hid (ho.keep B97.out (by have := N8.out; have := N9.out; omega))
                        have HE8 := Lib.hid (HE7.out.only B87.out (by decide) (by decide) ho)
                        have HX8 := Lib.hid (Eo.only HX7.out B87.out (by decide) (by decide) ho)
                        have HB8 := Lib.hid (HB7.out.trans (ho.below P8.out))
                        clear hb ho
                        refine hK.out _ _ (HDD.out _ B38.out B58.out) (fun hHeld => ?_)
                        clear hK K
                        try dsimp only [Act.put]
                        try simp only [Act.put, List.setIfInBounds_toArray, List.set_cons_zero, List.set_cons_succ]
                        refine wpAnyH_ready (rs := [18]) (by kernel_rfl) (by simp) ?_
                        refine AllReadyH.cons rfl (fun K hK => ?_) AllReadyH.nil
                        refine wp_store_none 24 _ _ rfl rfl p9 #[.int .u64 0, .int .u64 0] 24 [.int .u64 XI, .int .u64 XT] rfl rfl B98.out rfl Try.i24 (by simp [Value.oneCell']) ?_
                        intro v9 hb ho
                        have B99 := Lib.hid hb
                        have B39 := Lib.hid (ho.keep B38.out (by have := N9.out; omega))
                        have B59 := Lib.hid (ho.keep B58.out (by have := N9.out; omega))
                        have B89 := Lib.hid (ho.keep B88.out (by have := N8.out; have := N9.out; omega))
                        have HE9 := Lib.hid (HE8.out.only B98.out (by decide) (by decide) ho)
                        have HX9 := Lib.hid (Eo.only HX8.out B98.out (by decide) (by decide) ho)
                        have HB9 := Lib.hid (HB8.out.trans (ho.below P9.out))
                        clear hb ho
                        refine hK.out _ _ (HDD.out _ B39.out B59.out) (fun hHeld => ?_)
                        clear hK K
                        try dsimp only [Act.put]
                        try simp only [Act.put, List.setIfInBounds_toArray, List.set_cons_zero, List.set_cons_succ]
                        refine take_d (i := 19) (d := 10) (v := ?z46) rfl rfl (by kernel_rfl) (by kernel_rfl) (by kernel_rfl) (fun _ _ _ h => h) (Or.inl ⟨by kernel_rfl, ?z46h⟩) hHeld ?z46n
                        case z46h => (intro w hSw; (try dsimp only at hSw); go_split_ands; go_simp; (try exact rfl))
                        try simp only [Act.put, List.setIfInBounds_toArray, List.set_cons_zero, List.set_cons_succ]
                        refine wpAnyH_done (by kernel_rfl) ?_ _
                        refine NoPanic.normal ?_
                        clear kw kw1 APM
                        go_wp2_with fail
                        go_meet
                        case rel => exact ⟨rfl, rfl, ⟨_, rfl⟩, p8, Ax, nx, cx, rfl, B89.out, HX9.out, B39.out, B59.out, HE9.out, HB9.out⟩
                    · skip
                      go_simp
                      have hb : Below v4.heap.size v4 (v4.alloc (.cells #[.int .u64 0, .int .u64 0] 24)) := (Below.refl _ _).alloc (Nat.le_refl _) _
                      have B35 := Lib.hid (B34.out.below hb B34.out.lt)
                      have B55 := Lib.hid (B54.out.below hb B54.out.lt)
                      have B85 := Lib.hid (B84.out.below hb B84.out.lt)
                      have HE5 := Lib.hid (Eos.below HE4.out hb)
                      have HB5 := Lib.hid (HB4.out.trans (hb.mono HB4.out.size))
                      refine hK.out _ _ (HDD.out _ B35.out B55.out) (fun hHeld => ?_)
                      clear hK K
                      have B95 : Hid (Blk (v4.alloc (.cells #[.int .u64 0, .int .u64 0] 24)) v4.heap.size 24 #[.int .u64 0, .int .u64 0]) := Lib.hid (Blk.new _ _ _)
                      have P9 := Lib.hid HB4.out.size
                      have N9 := Lib.hid (show p3 < v4.heap.size ∧ p5 < v4.heap.size ∧ p8 < v4.heap.size from ⟨B34.out.lt, B54.out.lt, B84.out.lt⟩)
                      clear hb
                      generalize (v4.alloc (.cells #[.int .u64 0, .int .u64 0] 24)) = v5 at *
                      generalize v4.heap.size = p9 at *
                      try simp only [Act.put, List.setIfInBounds_toArray, List.set_cons_zero, List.set_cons_succ]
                      refine wpAnyH_ready (rs := [8]) (by kernel_rfl) (by simp) ?_
                      refine AllReadyH.cons rfl (fun K hK => ?_) AllReadyH.nil
                      go_simp
                      have hb : Below v5.heap.size v5 (v5.alloc (.cells #[.int .u8 d] 5)) := (Below.refl _ _).alloc (Nat.le_refl _) _
                      have B36 := Lib.hid (B35.out.below hb B35.out.lt)
                      have B56 := Lib.hid (B55.out.below hb B55.out.lt)
                      have B86 := Lib.hid (B85.out.below hb B85.out.lt)
                      have B96 := Lib.hid (B95.out.below hb B95.out.lt)
                      have HE6 := Lib.hid (Eos.below HE5.out hb)
                      have HB6 := Lib.hid (HB5.out.trans (hb.mono HB5.out.size))
                      refine hK.out _ _ (HDD.out _ B36.out B56.out) (fun hHeld => ?_)
                      clear hK K
                      have B986 : Hid (Blk (v5.alloc (.cells #[.int .u8 d] 5)) v5.heap.size 5 #[.int .u8 d]) := Lib.hid (Blk.new _ _ _)
                      have P98 := Lib.hid HB5.out.size
                      have N98 := Lib.hid (show p3 < v5.heap.size ∧ p5 < v5.heap.size ∧ p8 < v5.heap.size ∧ p9 < v5.heap.size from ⟨B35.out.lt, B55.out.lt, B85.out.lt, B95.out.lt⟩)
                      clear hb
                      generalize (v5.alloc (.cells #[.int .u8 d] 5)) = v6 at *
                      generalize v5.heap.size = p98 at *
                      try simp only [Act.put, List.setIfInBounds_toArray, List.set_cons_zero, List.set_cons_succ]
                      refine take_d (i := 9) (d := 99) (v := ?z47) rfl rfl (by kernel_rfl) (by kernel_rfl) (by kernel_rfl) (fun _ _ _ h => h) (Or.inl ⟨by kernel_rfl, ?z47h⟩) hHeld ?z47n
                      case z47h => (intro w hSw; (try dsimp only at hSw); go_split_ands; go_simp; (try exact rfl))
                      try simp only [Act.put, List.setIfInBounds_toArray, List.set_cons_zero, List.set_cons_succ]
                      refine wpAnyH_ready (rs := [10]) (by kernel_rfl) (by simp) ?_
                      refine AllReadyH.cons rfl (fun K hK => ?_) AllReadyH.nil
                      go_simp
                      refine (APM.out v6 p98 HE6.out B986.out).mono ?_
                      rintro e v7 ⟨Ax, nx, cx, rfl, ho, hb⟩
                      have B37 := Lib.hid (B36.out.below hb B36.out.lt)
                      have B57 := Lib.hid (B56.out.below hb B56.out.lt)
                      have B987 := Lib.hid (B986.out.below hb B986.out.lt)
                      have B87 := Lib.hid (B86.out.below hb B86.out.lt)
                      have B97 := Lib.hid (B96.out.below hb B96.out.lt)
                      have HE7 := Lib.hid (Eos.below HE6.out hb)
                      have HB7 := Lib.hid (HB6.out.trans (hb.mono HB6.out.size))
                      have HX7 := Lib.hid (ho.down HB6.out.size)
                      clear ho hb
                      refine hK.out _ _ (HDD.out _ B37.out B57.out) (fun hHeld => ?_)
                      clear hK K
                      try simp only [Act.put, List.setIfInBounds_toArray, List.set_cons_zero, List.set_cons_succ]
                      refine take_d (i := 11) (d := 89) (v := ?z48) rfl rfl (by kernel_rfl) (by kernel_rfl) (by kernel_rfl) (fun _ _ _ h => h) (Or.inl ⟨by kernel_rfl, ?z48h⟩) hHeld ?z48n
                      case z48h => (intro w hSw; (try dsimp only at hSw); go_split_ands; go_simp; (try exact rfl))
                      try simp only [Act.put, List.setIfInBounds_toArray, List.set_cons_zero, List.set_cons_succ]
                      refine take_d (i := 12) (d := 101) (v := ?z49) rfl rfl (by kernel_rfl) (by kernel_rfl) (by kernel_rfl) (fun _ _ _ h => h) (Or.inl ⟨by kernel_rfl, ?z49h⟩) hHeld ?z49n
                      case z49h => (intro w hSw; (try dsimp only at hSw); go_split_ands; go_simp; (try exact rfl))
                      try simp only [Act.put, List.setIfInBounds_toArray, List.set_cons_zero, List.set_cons_succ]
                      refine take_d (i := 13) (d := 102) (v := ?z50) rfl rfl (by kernel_rfl) (by kernel_rfl) (by kernel_rfl) (fun _ _ _ h => h) (Or.inl ⟨by kernel_rfl, ?z50h⟩) hHeld ?z50n
                      case z50h => (intro w hSw; (try dsimp only at hSw); go_split_ands; go_simp; (try exact rfl))
                      try simp only [Act.put, List.setIfInBounds_toArray, List.set_cons_zero, List.set_cons_succ]
                      refine take_d (i := 14) (d := 103) (v := ?z51) rfl rfl (by kernel_rfl) (by kernel_rfl) (by kernel_rfl) (fun _ _ _ h => h) (Or.inl ⟨by kernel_rfl, ?z51h⟩) hHeld ?z51n
                      case z51h => (intro w hSw; (try dsimp only at hSw); go_split_ands; go_simp; (try exact rfl))
                      try simp only [Act.put, List.setIfInBounds_toArray, List.set_cons_zero, List.set_cons_succ]
                      refine wpAnyH_ready (rs := [17]) (by kernel_rfl) (by simp) ?_
                      refine AllReadyH.cons rfl (fun K hK => ?_) AllReadyH.nil
                      refine wp_store_none 27 _ _ rfl rfl p8 #[.int .u64 0, .int .u64 0, .slice none 0 0] 27 [.int .u64 X.bi, .int .u64 X.bt, .slice Ax nx cx] rfl rfl B87.out rfl Try.i27 (by simp [Value.oneCell']) ?_
                      intro v8 hb ho
                      have B88 := Lib.hid hb
                      have B38 := Lib.hid (ho.keep B37.out (by have := N8.out; omega))
                      have B58 := Lib.hid (ho.keep B57.out (by have := N8.out; omega))
                      have B98 := Lib.hid (ho.keep B97.out (by have := N8.out; have := N9.out; omega))
                      have HE8 := Lib.hid (HE7.out.only B87.out (by decide) (by decide) ho)
                      have HX8 := Lib.hid (Eo.only HX7.out B87.out (by decide) (by decide) ho)
                      have HB8 := Lib.hid (HB7.out.trans (ho.below P8.out))
                      clear hb ho
                      refine hK.out _ _ (HDD.out _ B38.out B58.out) (fun hHeld => ?_)
                      clear hK K
                      try dsimp only [Act.put]
                      try simp only [Act.put, List.setIfInBounds_toArray, List.set_cons_zero, List.set_cons_succ]
                      refine wpAnyH_ready (rs := [18]) (by kernel_rfl) (by simp) ?_
                      refine AllReadyH.cons rfl (fun K hK => ?_) AllReadyH.nil
                      refine wp_store_none 24 _ _ rfl rfl p9 #[.int .u64 0, .int .u64 0] 24 [.int .u64 XI, .int .u64 XT] rfl rfl B98.out rfl Try.i24 (by simp [Value.oneCell']) ?_
                      intro v9 hb ho
                      have B99 := Lib.hid hb
                      have B39 := Lib.hid (ho.keep B38.out (by have := N9.out; omega))
                      have B59 := Lib.hid (ho.keep B58.out (by have := N9.out; omega))
                      have B89 := Lib.hid (ho.keep B88.out (by have := N8.out; have := N9.out; omega))
                      have HE9 := Lib.hid (HE8.out.only B98.out (by decide) (by decide) ho)
                      have HX9 := Lib.hid (Eo.only HX8.out B98.out (by decide) (by decide) ho)
                      have HB9 := Lib.hid (HB8.out.trans (ho.below P9.out))
                      clear hb ho
                      refine hK.out _ _ (HDD.out _ B39.out B59.out) (fun hHeld => ?_)
                      clear hK K
                      try dsimp only [Act.put]
                      try simp only [Act.put, List.setIfInBounds_toArray, List.set_cons_zero, List.set_cons_succ]
                      refine take_d (i := 19) (d := 10) (v := ?z52) rfl rfl (by kernel_rfl) (by kernel_rfl) (by kernel_rfl) (fun _ _ _ h => h) (Or.inl ⟨by kernel_rfl, ?z52h⟩) hHeld ?z52n
                      case z52h => (intro w hSw; (try dsimp only at hSw); go_split_ands; go_simp; (try exact rfl))
                      try simp only [Act.put, List.setIfInBounds_toArray, List.set_cons_zero, List.set_cons_succ]
                      refine wpAnyH_done (by kernel_rfl) ?_ _
                      refine NoPanic.normal ?_
                      clear kw kw1 APM
                      go_wp2_with fail
                      go_meet
                      case rel => exact ⟨rfl, rfl, ⟨_, rfl⟩, p8, Ax, nx, cx, rfl, B89.out, HX9.out, B39.out, B59.out, HE9.out, HB9.out⟩
                  · skip
                    go_simp
                    have hb : Below v3.heap.size v3 (v3.alloc (.cells #[.int .u64 0, .int .u64 0] 24)) := (Below.refl _ _).alloc (Nat.le_refl _) _
                    have B34 := Lib.hid (B33.out.below hb B33.out.lt)
                    have B54 := Lib.hid (B53.out.below hb B53.out.lt)
                    have HE4 := Lib.hid (Eos.below HE3.out hb)
                    have HB4 := Lib.hid (HB3.out.trans (hb.mono HB3.out.size))
                    refine hK.out _ _ (HDD.out _ B34.out B54.out) (fun hHeld => ?_)
                    clear hK K
                    have B94 : Hid (Blk (v3.alloc (.cells #[.int .u64 0, .int .u64 0] 24)) v3.heap.size 24 #[.int .u64 0, .int .u64 0]) := Lib.hid (Blk.new _ _ _)
                    have P9 := Lib.hid HB3.out.size
                    have N9 := Lib.hid (show p3 < v3.heap.size ∧ p5 < v3.heap.size from ⟨B33.out.lt, B53.out.lt⟩)
                    clear hb
                    generalize (v3.alloc (.cells #[.int .u64 0, .int .u64 0] 24)) = v4 at *
                    generalize v3.heap.size = p9 at *
                    try simp only [Act.put, List.setIfInBounds_toArray, List.set_cons_zero, List.set_cons_succ]
                    refine wpAnyH_ready (rs := [8, 15]) (by kernel_rfl) (by simp) ?_
                    refine AllReadyH.cons rfl (fun K hK => ?_) (AllReadyH.cons rfl (fun K hK => ?_) AllReadyH.nil)
                    · skip
                      go_simp
                      have hb : Below v4.heap.size v4 (v4.alloc (.cells #[.int .u8 d] 5)) := (Below.refl _ _).alloc (Nat.le_refl _) _
                      have B35 := Lib.hid (B34.out.below hb B34.out.lt)
                      have B55 := Lib.hid (B54.out.below hb B54.out.lt)
                      have B95 := Lib.hid (B94.out.below hb B94.out.lt)
                      have HE5 := Lib.hid (Eos.below HE4.out hb)
                      have HB5 := Lib.hid (HB4.out.trans (hb.mono HB4.out.size))
                      refine hK.out _ _ (HDD.out _ B35.out B55.out) (fun hHeld => ?_)
                      clear hK K
                      have B985 : Hid (Blk (v4.alloc (.cells #[.int .u8 d] 5)) v4.heap.size 5 #[.int .u8 d]) := Lib.hid (Blk.new _ _ _)
                      have P98 := Lib.hid HB4.out.size
                      have N98 := Lib.hid (show p3 < v4.heap.size ∧ p5 < v4.heap.size ∧ p9 < v4.heap.size from ⟨B34.out.lt, B54.out.lt, B94.out.lt⟩)
                      clear hb
                      generalize (v4.alloc (.cells #[.int .u8 d] 5)) = v5 at *
                      generalize v4.heap.size = p98 at *
                      try simp only [Act.put, List.setIfInBounds_toArray, List.set_cons_zero, List.set_cons_succ]
                      refine take_d (i := 9) (d := 99) (v := ?z53) rfl rfl (by kernel_rfl) (by kernel_rfl) (by kernel_rfl) (fun _ _ _ h => h) (Or.inl ⟨by kernel_rfl, ?z53h⟩) hHeld ?z53n
                      case z53h => (intro w hSw; (try dsimp only at hSw); go_split_ands; go_simp; (try exact rfl))
                      try simp only [Act.put, List.setIfInBounds_toArray, List.set_cons_zero, List.set_cons_succ]
                      refine wpAnyH_ready (rs := [10, 15]) (by kernel_rfl) (by simp) ?_
                      refine AllReadyH.cons rfl (fun K hK => ?_) (AllReadyH.cons rfl (fun K hK => ?_) AllReadyH.nil)
                      · skip
                        go_simp
                        refine (APM.out v5 p98 HE5.out B985.out).mono ?_
                        rintro e v6 ⟨Ax, nx, cx, rfl, ho, hb⟩
                        have B36 := Lib.hid (B35.out.below hb B35.out.lt)
                        have B56 := Lib.hid (B55.out.below hb B55.out.lt)
                        have B986 := Lib.hid (B985.out.below hb B985.out.lt)
                        have B96 := Lib.hid (B95.out.below hb B95.out.lt)
                        have HE6 := Lib.hid (Eos.below HE5.out hb)
                        have HB6 := Lib.hid (HB5.out.trans (hb.mono HB5.out.size))
                        have HX6 := Lib.hid (ho.down HB5.out.size)
                        clear ho hb
                        refine hK.out _ _ (HDD.out _ B36.out B56.out) (fun hHeld => ?_)
                        clear hK K
                        try simp only [Act.put, List.setIfInBounds_toArray, List.set_cons_zero, List.set_cons_succ]
                        refine take_d (i := 11) (d := 89) (v := ?z54) rfl rfl (by kernel_rfl) (by kernel_rfl) (by kernel_rfl) (fun _ _ _ h => h) (Or.inl ⟨by kernel_rfl, ?z54h⟩) hHeld ?z54n
                        case z54h => (intro w hSw; (try dsimp only at hSw); go_split_ands; go_simp; (try exact rfl))
                        try simp only [Act.put, List.setIfInBounds_toArray, List.set_cons_zero, List.set_cons_succ]
                        refine take_d (i := 12) (d := 101) (v := ?z55) rfl rfl (by kernel_rfl) (by kernel_rfl) (by kernel_rfl) (fun _ _ _ h => h) (Or.inl ⟨by kernel_rfl, ?z55h⟩) hHeld ?z55n
                        case z55h => (intro w hSw; (try dsimp only at hSw); go_split_ands; go_simp; (try exact rfl))
                        try simp only [Act.put, List.setIfInBounds_toArray, List.set_cons_zero, List.set_cons_succ]
                        refine take_d (i := 13) (d := 102) (v := ?z56) rfl rfl (by kernel_rfl) (by kernel_rfl) (by kernel_rfl) (fun _ _ _ h => h) (Or.inl ⟨by kernel_rfl, ?z56h⟩) hHeld ?z56n
                        case z56h => (intro w hSw; (try dsimp only at hSw); go_split_ands; go_simp; (try exact rfl))
                        try simp only [Act.put, List.setIfInBounds_toArray, List.set_cons_zero, List.set_cons_succ]
                        refine take_d (i := 14) (d := 103) (v := ?z57) rfl rfl (by kernel_rfl) (by kernel_rfl) (by kernel_rfl) (fun _ _ _ h => h) (Or.inl ⟨by kernel_rfl, ?z57h⟩) hHeld ?z57n
                        case z57h => (intro w hSw; (try dsimp only at hSw); go_split_ands; go_simp; (try exact rfl))
                        try simp only [Act.put, List.setIfInBounds_toArray, List.set_cons_zero, List.set_cons_succ]
                        refine wpAnyH_ready (rs := [15]) (by kernel_rfl) (by simp) ?_
                        refine AllReadyH.cons rfl (fun K hK => ?_) AllReadyH.nil
                        go_simp
                        have hb : Below v6.heap.size v6 (v6.alloc (.cells #[.int .u64 0, .int .u64 0, .slice none 0 0] 27)) := (Below.refl _ _).alloc (Nat.le_refl _) _
                        have B37 := Lib.hid (B36.out.below hb B36.out.lt)
                        have B57 := Lib.hid (B56.out.below hb B56.out.lt)
                        have B987 := Lib.hid (B986.out.below hb B986.out.lt)
                        have B97 := Lib.hid (B96.out.below hb B96.out.lt)
                        have HE7 := Lib.hid (Eos.below HE6.out hb)
                        have HX7 := Lib.hid (Eo.below HX6.out hb)
                        have HB7 := Lib.hid (HB6.out.trans (hb.mono HB6.out.size))
                        refine hK.out _ _ (HDD.out _ B37.out B57.out) (fun hHeld => ?_)
                        clear hK K
                        have B87 : Hid (Blk (v6.alloc (.cells #[.int .u64 0, .int .u64 0, .slice none 0 0] 27)) v6.heap.size 27 #[.int .u64 0, .int .u64 0, .slice none 0 0]) := Lib.hid (Blk.new _ _ _)
                        have P8 := Lib.hid HB6.out.size
                        have N8 := Lib.hid (show p3 < v6.heap.size ∧ p5 < v6.heap.size ∧ p98 < v6.heap.size ∧ p9 < v6.heap.size from ⟨B36.out.lt, B56.out.lt, B986.out.lt, B96.out.lt⟩)
                        clear hb
                        generalize (v6.alloc (.cells #[.int .u64 0, .int .u64 0, .slice none 0 0] 27)) = v7 at *
                        generalize v6.heap.size = p8 at *
                        try simp only [Act.put, List.setIfInBounds_toArray, List.set_cons_zero, List.set_cons_succ]
                        refine wpAnyH_ready (rs := [17]) (by kernel_rfl) (by simp) ?_
                        refine AllReadyH.cons rfl (fun K hK => ?_) AllReadyH.nil
                        refine wp_store_none 27 _ _ rfl rfl p8 #[.int .u64 0, .int .u64 0, .slice none 0 0] 27 [.int .u64 X.bi, .int .u64 X.bt, .slice Ax nx cx] rfl rfl B87.out rfl Try.i27 (by simp [Value.oneCell']) ?_
                        intro v8 hb ho
                        have B88 := Lib.hid hb
                        have B38 := Lib.hid (ho.keep B37.out (by have := N8.out; omega))
                        have B58 := Lib.hid (ho.keep B57.out (by have := N8.out; omega))
                        have B98 := Lib.hid (ho.keep B97.out (by have := N8.out; have := N9.out; omega))
                        have HE8 := Lib.hid (HE7.out.only B87.out (by decide) (by decide) ho)
                        have HX8 := Lib.hid (Eo.only HX7.out B87.out (by decide) (by decide) ho)
                        have HB8 := Lib.hid (HB7.out.trans (ho.below P8.out))
                        clear hb ho
                        refine hK.out _ _ (HDD.out _ B38.out B58.out) (fun hHeld => ?_)
                        clear hK K
                        try dsimp only [Act.put]
                        try simp only [Act.put, List.setIfInBounds_toArray, List.set_cons_zero, List.set_cons_succ]
                        refine wpAnyH_ready (rs := [18]) (by kernel_rfl) (by simp) ?_
                        refine AllReadyH.cons rfl (fun K hK => ?_) AllReadyH.nil
                        refine wp_store_none 24 _ _ rfl rfl p9 #[.int .u64 0, .int .u64 0] 24 [.int .u64 XI, .int .u64 XT] rfl rfl B98.out rfl Try.i24 (by simp [Value.oneCell']) ?_
                        intro v9 hb ho
                        have B99 := Lib.hid hb
                        have B39 := Lib.hid (ho.keep B38.out (by have := N9.out; omega))
                        have B59 := Lib.hid (ho.keep B58.out (by have := N9.out; omega))
                        have B89 := Lib.hid (ho.keep B88.out (by have := N8.out; have := N9.out; omega))
                        have HE9 := Lib.hid (HE8.out.only B98.out (by decide) (by decide) ho)
                        have HX9 := Lib.hid (Eo.only HX8.out B98.out (by decide) (by decide) ho)
                        have HB9 := Lib.hid (HB8.out.trans (ho.below P9.out))
                        clear hb ho
                        refine hK.out _ _ (HDD.out _ B39.out B59.out) (fun hHeld => ?_)
                        clear hK K
                        try dsimp only [Act.put]
                        try simp only [Act.put, List.setIfInBounds_toArray, List.set_cons_zero, List.set_cons_succ]
                        refine take_d (i := 19) (d := 10) (v := ?z58) rfl rfl (by kernel_rfl) (by kernel_rfl) (by kernel_rfl) (fun _ _ _ h => h) (Or.inl ⟨by kernel_rfl, ?z58h⟩) hHeld ?z58n
                        case z58h => (intro w hSw; (try dsimp only at hSw); go_split_ands; go_simp; (try exact rfl))
                        try simp only [Act.put, List.setIfInBounds_toArray, List.set_cons_zero, List.set_cons_succ]
                        refine wpAnyH_done (by kernel_rfl) ?_ _
                        refine NoPanic.normal ?_
                        clear kw kw1 APM
                        go_wp2_with fail
                        go_meet
                        case rel => exact ⟨rfl, rfl, ⟨_, rfl⟩, p8, Ax, nx, cx, rfl, B89.out, HX9.out, B39.out, B59.out, HE9.out, HB9.out⟩
                      · skip
                        go_simp
                        have hb : Below v5.heap.size v5 (v5.alloc (.cells #[.int .u64 0, .int .u64 0, .slice none 0 0] 27)) := (Below.refl _ _).alloc (Nat.le_refl _) _
                        have B36 := Lib.hid (B35.out.below hb B35.out.lt)
                        have B56 := Lib.hid (B55.out.below hb B55.out.lt)
                        have B986 := Lib.hid (B985.out.below hb B985.out.lt)
                        have B96 := Lib.hid (B95.out.below hb B95.out.lt)
                        have HE6 := Lib.hid (Eos.below HE5.out hb)
                        have HB6 := Lib.hid (HB5.out.trans (hb.mono HB5.out.size))
                        refine hK.out _ _ (HDD.out _ B36.out B56.out) (fun hHeld => ?_)
                        clear hK K
                        have B86 : Hid (Blk (v5.alloc (.cells #[.int .u64 0, .int .u64 0, .slice none 0 0] 27)) v5.heap.size 27 #[.int .u64 0, .int .u64 0, .slice none 0 0]) := Lib.hid (Blk.new _ _ _)
                        have P8 := Lib.hid HB5.out.size
                        have N8 := Lib.hid (show p3 < v5.heap.size ∧ p5 < v5.heap.size ∧ p98 < v5.heap.size ∧ p9 < v5.heap.size from ⟨B35.out.lt, B55.out.lt, B985.out.lt, B95.out.lt⟩)
                        clear hb
                        generalize (v5.alloc (.cells #[.int .u64 0, .int .u64 0, .slice none 0 0] 27)) = v6 at *
                        generalize v5.heap.size = p8 at *
                        try simp only [Act.put, List.setIfInBounds_toArray, List.set_cons_zero, List.set_cons_succ]
                        refine wpAnyH_ready (rs := [10]) (by kernel_rfl) (by simp) ?_
                        refine AllReadyH.cons rfl (fun K hK => ?_) AllReadyH.nil
                        go_simp
                        refine (APM.out v6 p98 HE6.out B986.out).mono ?_
                        rintro e v7 ⟨Ax, nx, cx, rfl, ho, hb⟩
                        have B37 := Lib.hid (B36.out.below hb B36.out.lt)
                        have B57 := Lib.hid (B56.out.below hb B56.out.lt)
                        have B987 := Lib.hid (B986.out.below hb B986.out.lt)
                        have B87 := Lib.hid (B86.out.below hb B86.out.lt)
                        have B97 := Lib.hid (B96.out.below hb B96.out.lt)
                        have HE7 := Lib.hid (Eos.below HE6.out hb)
                        have HB7 := Lib.hid (HB6.out.trans (hb.mono HB6.out.size))
                        have HX7 := Lib.hid (ho.down HB6.out.size)
                        clear ho hb
                        refine hK.out _ _ (HDD.out _ B37.out B57.out) (fun hHeld => ?_)
                        clear hK K
                        try simp only [Act.put, List.setIfInBounds_toArray, List.set_cons_zero, List.set_cons_succ]
                        refine take_d (i := 11) (d := 89) (v := ?z59) rfl rfl (by kernel_rfl) (by kernel_rfl) (by kernel_rfl) (fun _ _ _ h => h) (Or.inl ⟨by kernel_rfl, ?z59h⟩) hHeld ?z59n
                        case z59h => (intro w hSw; (try dsimp only at hSw); go_split_ands; go_simp; (try exact rfl))
                        try simp only [Act.put, List.setIfInBounds_toArray, List.set_cons_zero, List.set_cons_succ]
                        refine take_d (i := 12) (d := 101) (v := ?z60) rfl rfl (by kernel_rfl) (by kernel_rfl) (by kernel_rfl) (fun _ _ _ h => h) (Or.inl ⟨by kernel_rfl, ?z60h⟩) hHeld ?z60n
                        case z60h => (intro w hSw; (try dsimp only at hSw); go_split_ands; go_simp; (try exact rfl))
                        try simp only [Act.put, List.setIfInBounds_toArray, List.set_cons_zero, List.set_cons_succ]
                        refine take_d (i := 13) (d := 102) (v := ?z61) rfl rfl (by kernel_rfl) (by kernel_rfl) (by kernel_rfl) (fun _ _ _ h => h) (Or.inl ⟨by kernel_rfl, ?z61h⟩) hHeld ?z61n
                        case z61h => (intro w hSw; (try dsimp only at hSw); go_split_ands; go_simp; (try exact rfl))
                        try simp only [Act.put, List.setIfInBounds_toArray, List.set_cons_zero, List.set_cons_succ]
                        refine take_d (i := 14) (d := 103) (v := ?z62) rfl rfl (by kernel_rfl) (by kernel_rfl) (by kernel_rfl) (fun _ _ _ h => h) (Or.inl ⟨by kernel_rfl, ?z62h⟩) hHeld ?z62n
                        case z62h => (intro w hSw; (try dsimp only at hSw); go_split_ands; go_simp; (try exact rfl))
                        try simp only [Act.put, List.setIfInBounds_toArray, List.set_cons_zero, List.set_cons_succ]
                        refine wpAnyH_ready (rs := [17]) (by kernel_rfl) (by simp) ?_
                        refine AllReadyH.cons rfl (fun K hK => ?_) AllReadyH.nil
                        refine wp_store_none 27 _ _ rfl rfl p8 #[.int .u64 0, .int .u64 0, .slice none 0 0] 27 [.int .u64 X.bi, .int .u64 X.bt, .slice Ax nx cx] rfl rfl B87.out rfl Try.i27 (by simp [Value.oneCell']) ?_
                        intro v8 hb ho
                        have B88 := Lib.hid hb
                        have B38 := Lib.hid (ho.keep B37.out (by have := N8.out; omega))
                        have B58 := Lib.hid (ho.keep B57.out (by have := N8.out; omega))
                        have B98 := Lib.hid (ho.keep B97.out (by have := N8.out; have := N9.out; omega))
                        have HE8 := Lib.hid (HE7.out.only B87.out (by decide) (by decide) ho)
                        have HX8 := Lib.hid (Eo.only HX7.out B87.out (by decide) (by decide) ho)
                        have HB8 := Lib.hid (HB7.out.trans (ho.below P8.out))
                        clear hb ho
                        refine hK.out _ _ (HDD.out _ B38.out B58.out) (fun hHeld => ?_)
                        clear hK K
                        try dsimp only [Act.put]
                        try simp only [Act.put, List.setIfInBounds_toArray, List.set_cons_zero, List.set_cons_succ]
                        refine wpAnyH_ready (rs := [18]) (by kernel_rfl) (by simp) ?_
                        refine AllReadyH.cons rfl (fun K hK => ?_) AllReadyH.nil
                        refine wp_store_none 24 _ _ rfl rfl p9 #[.int .u64 0, .int .u64 0] 24 [.int .u64 XI, .int .u64 XT] rfl rfl B98.out rfl Try.i24 (by simp [Value.oneCell']) ?_
                        intro v9 hb ho
                        have B99 := Lib.hid hb
                        have B39 := Lib.hid (ho.keep B38.out (by have := N9.out; omega))
                        have B59 := Lib.hid (ho.keep B58.out (by have := N9.out; omega))
                        have B89 := Lib.hid (ho.keep B88.out (by have := N8.out; have := N9.out; omega))
                        have HE9 := Lib.hid (HE8.out.only B98.out (by decide) (by decide) ho)
                        have HX9 := Lib.hid (Eo.only HX8.out B98.out (by decide) (by decide) ho)
                        have HB9 := Lib.hid (HB8.out.trans (ho.below P9.out))
                        clear hb ho
                        refine hK.out _ _ (HDD.out _ B39.out B59.out) (fun hHeld => ?_)
                        clear hK K
                        try dsimp only [Act.put]
                        try simp only [Act.put, List.setIfInBounds_toArray, List.set_cons_zero, List.set_cons_succ]
                        refine take_d (i := 19) (d := 10) (v := ?z63) rfl rfl (by kernel_rfl) (by kernel_rfl) (by kernel_rfl) (fun _ _ _ h => h) (Or.inl ⟨by kernel_rfl, ?z63h⟩) hHeld ?z63n
                        case z63h => (intro w hSw; (try dsimp only at hSw); go_split_ands; go_simp; (try exact rfl))
                        try simp only [Act.put, List.setIfInBounds_toArray, List.set_cons_zero, List.set_cons_succ]
                        refine wpAnyH_done (by kernel_rfl) ?_ _
                        refine NoPanic.normal ?_
                        clear kw kw1 APM
                        go_wp2_with fail
                        go_meet
                        case rel => exact ⟨rfl, rfl, ⟨_, rfl⟩, p8, Ax, nx, cx, rfl, B89.out, HX9.out, B39.out, B59.out, HE9.out, HB9.out⟩
                    · skip
                      go_simp
                      have hb : Below v4.heap.size v4 (v4.alloc (.cells #[.int .u64 0, .int .u64 0, .slice none 0 0] 27)) := (Below.refl _ _).alloc (Nat.le_refl _) _
                      have B35 := Lib.hid (B34.out.below hb B34.out.lt)
                      have B55 := Lib.hid (B54.out.below hb B54.out.lt)
                      have B95 := Lib.hid (B94.out.below hb B94.out.lt)
                      have HE5 := Lib.hid (Eos.below HE4.out hb)
                      have HB5 := Lib.hid (HB4.out.trans (hb.mono HB4.out.size))
                      refine hK.out _ _ (HDD.out _ B35.out B55.out) (fun hHeld => ?_)
                      clear hK K
                      have B85 : Hid (Blk (v4.alloc (.cells #[.int .u64 0, .int .u64 0, .slice none 0 0] 27)) v4.heap.size 27 #[.int .u64 0, .int .u64 0, .slice none 0 0]) := Lib.hid (Blk.new _ _ _)
                      have P8 := Lib.hid HB4.out.size
                      have N8 := Lib.hid (show p3 < v4.heap.size ∧ p5 < v4.heap.size ∧ p9 < v4.heap.size from ⟨B34.out.lt, B54.out.lt, B94.out.lt⟩)
                      clear hb
                      generalize (v4.alloc (.cells #[.int .u64 0, .int .u64 0, .slice none 0 0] 27)) = v5 at *
                      generalize v4.heap.size = p8 at *
                      try simp only [Act.put, List.setIfInBounds_toArray, List.set_cons_zero, List.set_cons_succ]
                      refine wpAnyH_ready (rs := [8]) (by kernel_rfl) (by simp) ?_
                      refine AllReadyH.cons rfl (fun K hK => ?_) AllReadyH.nil
                      go_simp
                      have hb : Below v5.heap.size v5 (v5.alloc (.cells #[.int .u8 d] 5)) := (Below.refl _ _).alloc (Nat.le_refl _) _
                      have B36 := Lib.hid (B35.out.below hb B35.out.lt)
                      have B56 := Lib.hid (B55.out.below hb B55.out.lt)
                      have B86 := Lib.hid (B85.out.below hb B85.out.lt)
                      have B96 := Lib.hid (B95.out.below hb B95.out.lt)
                      have HE6 := Lib.hid (Eos.below HE5.out hb)
                      have HB6 := Lib.hid (HB5.out.trans (hb.mono HB5.out.size))
                      refine hK.out _ _ (HDD.out _ B36.out B56.out) (fun hHeld => ?_)
                      clear hK K
                      have B986 : Hid (Blk (v5.alloc (.cells #[.int .u8 d] 5)) v5.heap.size 5 #[.int .u8 d]) := Lib.hid (Blk.new _ _ _)
                      have P98 := Lib.hid HB5.out.size
                      have N98 := Lib.hid (show p3 < v5.heap.size ∧ p5 < v5.heap.size ∧ p8 < v5.heap.size ∧ p9 < v5.heap.size from ⟨B35.out.lt, B55.out.lt, B85.out.lt, B95.out.lt⟩)
                      clear hb
                      generalize (v5.alloc (.cells #[.int .u8 d] 5)) = v6 at *
                      generalize v5.heap.size = p98 at *
                      try simp only [Act.put, List.setIfInBounds_toArray, List.set_cons_zero, List.set_cons_succ]
                      refine take_d (i := 9) (d := 99) (v := ?z64) rfl rfl (by kernel_rfl) (by kernel_rfl) (by kernel_rfl) (fun _ _ _ h => h) (Or.inl ⟨by kernel_rfl, ?z64h⟩) hHeld ?z64n
                      case z64h => (intro w hSw; (try dsimp only at hSw); go_split_ands; go_simp; (try exact rfl))
                      try simp only [Act.put, List.setIfInBounds_toArray, List.set_cons_zero, List.set_cons_succ]
                      refine wpAnyH_ready (rs := [10]) (by kernel_rfl) (by simp) ?_
                      refine AllReadyH.cons rfl (fun K hK => ?_) AllReadyH.nil
                      go_simp
                      refine (APM.out v6 p98 HE6.out B986.out).mono ?_
                      rintro e v7 ⟨Ax, nx, cx, rfl, ho, hb⟩
                      have B37 := Lib.hid (B36.out.below hb B36.out.lt)
                      have B57 := Lib.hid (B56.out.below hb B56.out.lt)
                      have B987 := Lib.hid (B986.out.below hb B986.out.lt)
                      have B87 := Lib.hid (B86.out.below hb B86.out.lt)
                      have B97 := Lib.hid (B96.out.below hb B96.out.lt)
                      have HE7 := Lib.hid (Eos.below HE6.out hb)
                      have HB7 := Lib.hid (HB6.out.trans (hb.mono HB6.out.size))
                      have HX7 := Lib.hid (ho.down HB6.out.size)
                      clear ho hb
                      refine hK.out _ _ (HDD.out _ B37.out B57.out) (fun hHeld => ?_)
                      clear hK K
                      try simp only [Act.put, List.setIfInBounds_toArray, List.set_cons_zero, List.set_cons_succ]
                      refine take_d (i := 11) (d := 89) (v := ?z65) rfl rfl (by kernel_rfl) (by kernel_rfl) (by kernel_rfl) (fun _ _ _ h => h) (Or.inl ⟨by kernel_rfl, ?z65h⟩) hHeld ?z65n
                      case z65h => (intro w hSw; (try dsimp only at hSw); go_split_ands; go_simp; (try exact rfl))
                      try simp only [Act.put, List.setIfInBounds_toArray, List.set_cons_zero, List.set_cons_succ]
                      refine take_d (i := 12) (d := 101) (v := ?z66) rfl rfl (by kernel_rfl) (by kernel_rfl) (by kernel_rfl) (fun _ _ _ h => h) (Or.inl ⟨by kernel_rfl, ?z66h⟩) hHeld ?z66n
                      case z66h => (intro w hSw; (try dsimp only at hSw); go_split_ands; go_simp; (try exact rfl))
                      try simp only [Act.put, List.setIfInBounds_toArray, List.set_cons_zero, List.set_cons_succ]
                      refine take_d (i := 13) (d := 102) (v := ?z67) rfl rfl (by kernel_rfl) (by kernel_rfl) (by kernel_rfl) (fun _ _ _ h => h) (Or.inl ⟨by kernel_rfl, ?z67h⟩) hHeld ?z67n
                      case z67h => (intro w hSw; (try dsimp only at hSw); go_split_ands; go_simp; (try exact rfl))
                      try simp only [Act.put, List.setIfInBounds_toArray, List.set_cons_zero, List.set_cons_succ]
                      refine take_d (i := 14) (d := 103) (v := ?z68) rfl rfl (by kernel_rfl) (by kernel_rfl) (by kernel_rfl) (fun _ _ _ h => h) (Or.inl ⟨by kernel_rfl, ?z68h⟩) hHeld ?z68n
                      case z68h => (intro w hSw; (try dsimp only at hSw); go_split_ands; go_simp; (try exact rfl))
                      try simp only [Act.put, List.setIfInBounds_toArray, List.set_cons_zero, List.set_cons_succ]
                      refine wpAnyH_ready (rs := [17]) (by kernel_rfl) (by simp) ?_
                      refine AllReadyH.cons rfl (fun K hK => ?_) AllReadyH.nil
                      refine wp_store_none 27 _ _ rfl rfl p8 #[.int .u64 0, .int .u64 0, .slice none 0 0] 27 [.int .u64 X.bi, .int .u64 X.bt, .slice Ax nx cx] rfl rfl B87.out rfl Try.i27 (by simp [Value.oneCell']) ?_
                      intro v8 hb ho
                      have B88 := Lib.hid hb
                      have B38 := Lib.hid (ho.keep B37.out (by have := N8.out; omega))
                      have B58 := Lib.hid (ho.keep B57.out (by have := N8.out; omega))
                      have B98 := Lib.hid (ho.keep B97.out (by have := N8.out; have := N9.out; omega))
                      have HE8 := Lib.hid (HE7.out.only B87.out (by decide) (by decide) ho)
                      have HX8 := Lib.hid (Eo.only HX7.out B87.out (by decide) (by decide) ho)
                      have HB8 := Lib.hid (HB7.out.trans (ho.below P8.out))
                      clear hb ho
                      refine hK.out _ _ (HDD.out _ B38.out B58.out) (fun hHeld => ?_)
                      clear hK K
                      try dsimp only [Act.put]
                      try simp only [Act.put, List.setIfInBounds_toArray, List.set_cons_zero, List.set_cons_succ]
                      refine wpAnyH_ready (rs := [18]) (by kernel_rfl) (by simp) ?_
                      refine AllReadyH.cons rfl (fun K hK => ?_) AllReadyH.nil
                      refine wp_store_none 24 _ _ rfl rfl p9 #[.int .u64 0, .int .u64 0] 24 [.int .u64 XI, .int .u64 XT] rfl rfl B98.out rfl Try.i24 (by simp [Value.oneCell']) ?_
                      intro v9 hb ho
                      have B99 := Lib.hid hb
                      have B39 := Lib.hid (ho.keep B38.out (by have := N9.out; omega))
                      have B59 := Lib.hid (ho.keep B58.out (by have := N9.out; omega))
                      have B89 := Lib.hid (ho.keep B88.out (by have := N8.out; have := N9.out; omega))
                      have HE9 := Lib.hid (HE8.out.only B98.out (by decide) (by decide) ho)
                      have HX9 := Lib.hid (Eo.only HX8.out B98.out (by decide) (by decide) ho)
                      have HB9 := Lib.hid (HB8.out.trans (ho.below P9.out))
                      clear hb ho
                      refine hK.out _ _ (HDD.out _ B39.out B59.out) (fun hHeld => ?_)
                      clear hK K
                      try dsimp only [Act.put]
                      try simp only [Act.put, List.setIfInBounds_toArray, List.set_cons_zero, List.set_cons_succ]
                      refine take_d (i := 19) (d := 10) (v := ?z69) rfl rfl (by kernel_rfl) (by kernel_rfl) (by kernel_rfl) (fun _ _ _ h => h) (Or.inl ⟨by kernel_rfl, ?z69h⟩) hHeld ?z69n
                      case z69h => (intro w hSw; (try dsimp only at hSw); go_split_ands; go_simp; (try exact rfl))
                      try simp only [Act.put, List.setIfInBounds_toArray, List.set_cons_zero, List.set_cons_succ]
                      refine wpAnyH_done (by kernel_rfl) ?_ _
                      refine NoPanic.normal ?_
                      clear kw kw1 APM
                      go_wp2_with fail
                      go_meet
                      case rel => exact ⟨rfl, rfl, ⟨_, rfl⟩, p8, Ax, nx, cx, rfl, B89.out, HX9.out, B39.out, B59.out, HE9.out, HB9.out⟩
              case rest =>
                obtain ⟨rfl, rfl, ⟨y9, rfl⟩, p8, Ax, nx, cx, rfl, g8, gX, g3, g5, gE, gB⟩ := hcut
                generalize wc = v4 at *
                have B84 := Lib.hid g8
                have HX4 := Lib.hid gX
                have B34 := Lib.hid g3
                have B54 := Lib.hid g5
                have HE4 := Lib.hid gE
                have HB4 := Lib.hid gB
                clear g8 gX g3 g5 gE gB APM HDD hS0 kw kw1 B33 B53 HE3 HB3
                by_cases hXE : XE = 0
                · subst hXE
                  have HMN := Lib.hid (AP1.out rfl)
                  clear AP1
                  obtain ⟨x0, x1, x2⟩ := B84.out.three
                  obtain ⟨y0, y1, y2⟩ := arr_at B34.out hw3
                  have z0 := B34.out.frozen (who * 3)
                  have z1 := B34.out.frozen (who * 3 + 1)
                  have z2 := B34.out.frozen (who * 3 + 2)
                  have ho : Only p3 v4 (((v4.setCell ⟨p3, who * 3, none⟩ (.int .u64 X.bi)).setCell ⟨p3, who * 3 + 1, none⟩ (.int .u64 X.bt)).setCell ⟨p3, who * 3 + 2, none⟩ (.slice Ax nx cx)) := ((setCell_only _ _ _ _).two (setCell_only _ _ _ _)).two (setCell_only _ _ _ _)
                  have B35 := Lib.hid (arr_set B34.out hw3 X Ax nx cx)
                  have HE5 := Lib.hid ((HE4.out.only B34.out (by decide) (by decide) ho).put (who := who) (X := X) (HX4.out.only B34.out (by decide) (by decide) ho))
                  have HB5 := Lib.hid (HB4.out.trans (ho.below HP3.out))
                  clear ho
                  go_wp2_with fail
                  go_meet
                  case rel => exact ⟨rfl, rfl, rfl, rfl, rfl, upd L who X, upd A who Ax, upd n who nx, upd c who cx, HMN.out, B35.out, HE5.out, HB5.out⟩
                · have hXE' : (XE == 0) = false := by simp [hXE]
                  have HMN := Lib.hid (HM.out.mono (show (k : Int) ≤ (k : Int) + 1 by omega))
                  clear hXE AP1
                  go_wp2_with fail
                  go_meet
                  case rel => exact ⟨rfl, rfl, rfl, rfl, rfl, L, A, n, c, HMN.out, B34.out, HE4.out, HB4.out⟩
          · by_cases h3 : km = 3
            · have e0 : ((km : Int) == 0) = false := by simp; omega
              have e3 : ((km : Int) == 3) = true := by simp; omega
              clear h0 h3
              go_wp2_with fail
              clear x0 x1 x2 x3 x4 x5 e0 e3
              as_aux_lemma =>
                have hw3' : (who : Int) < 3 := by omega
                have hw0 : (0 : Int) ≤ (who : Int) := by omega
                have hb : Below v2.heap.size v2 v2.drew := (Below.refl _ _).drew
                have B33 := Lib.hid (B32.out.below hb B32.out.lt)
                have B53 := Lib.hid (B52.out.below hb B52.out.lt)
                have HE3 := Lib.hid (Eos.below HE2.out hb)
                have HB3 := Lib.hid (HB2.out.trans (hb.mono HB2.out.size))
                clear hb
                have hS0 := And.intro (arr_at B33.out hw3) (Blk.six B53.out)
                refine wp_region_noPanic ?_
                refine wp_region_held_drew (S := fun w' => (w'.cell? ⟨p3, who * 3, none⟩ = some (.int .u64 (L who).bi) ∧ w'.cell? ⟨p3, who * 3 + 1, none⟩ = some (.int .u64 (L who).bt) ∧ w'.cell? ⟨p3, who * 3 + 2, none⟩ = some (.slice (A who) (n who) (c who))) ∧ (w'.cell? ⟨p5, 0, none⟩ = some (.int .i64 kd) ∧ w'.cell? ⟨p5, 1, none⟩ = some (.int .i64 wo) ∧ w'.cell? ⟨p5, 2, none⟩ = some (.int .i64 wm) ∧ w'.cell? ⟨p5, 3, none⟩ = some (.int .i64 nn) ∧ w'.cell? ⟨p5, 4, none⟩ = some (.int .u64 ix) ∧ w'.cell? ⟨p5, 5, none⟩ = some (.int .u8 d))) (by kernel_rfl) hS0 (fun hHeld => ?_)
                generalize v2.drew = v3 at *
                refine take_d (i := 0) (d := 111) (v := ?b111) rfl rfl (by kernel_rfl) (by kernel_rfl) (by kernel_rfl) (fun _ _ _ h => h) (Or.inl ⟨by kernel_rfl, ?b111h⟩) hHeld ?b111n
                case b111h => (intro w hSw; (try dsimp only at hSw); go_split_ands; go_simp; (try exact rfl))
                try simp only [Act.put, List.setIfInBounds_toArray, List.set_cons_zero, List.set_cons_succ]
                refine take_d (i := 1) (d := 112) (v := ?b112) rfl rfl (by kernel_rfl) (by kernel_rfl) (by kernel_rfl) (fun _ _ _ h => h) (Or.inl ⟨by kernel_rfl, ?b112h⟩) hHeld ?b112n
                case b112h => (intro w hSw; (try dsimp only at hSw); go_split_ands; go_simp; (try exact rfl))
                try simp only [Act.put, List.setIfInBounds_toArray, List.set_cons_zero, List.set_cons_succ]
                refine take_d (i := 2) (d := 113) (v := ?b113) rfl rfl (by kernel_rfl) (by kernel_rfl) (by kernel_rfl) (fun _ _ _ h => h) (Or.inl ⟨by kernel_rfl, ?b113h⟩) hHeld ?b113n
                case b113h => (intro w hSw; (try dsimp only at hSw); go_split_ands; go_simp; (try exact rfl))
                try simp only [Act.put, List.setIfInBounds_toArray, List.set_cons_zero, List.set_cons_succ]
                refine take_d (i := 3) (d := 114) (v := ?b114) rfl rfl (by kernel_rfl) (by kernel_rfl) (by kernel_rfl) (fun _ _ _ h => h) (Or.inl ⟨by kernel_rfl, ?b114h⟩) hHeld ?b114n
                case b114h => (intro w hSw; (try dsimp only at hSw); go_split_ands; go_simp; (try exact rfl))
                try simp only [Act.put, List.setIfInBounds_toArray, List.set_cons_zero, List.set_cons_succ]
                refine take_d (i := 4) (d := 115) (v := ?b115) rfl rfl (by kernel_rfl) (by kernel_rfl) (by kernel_rfl) (fun _ _ _ h => h) (Or.inl ⟨by kernel_rfl, ?b115h⟩) hHeld ?b115n
                case b115h => (intro w hSw; (try dsimp only at hSw); go_split_ands; go_simp; (try exact rfl))
                try simp only [Act.put, List.setIfInBounds_toArray, List.set_cons_zero, List.set_cons_succ]
                refine take_d (i := 5) (d := 116) (v := ?b116) rfl rfl (by kernel_rfl) (by kernel_rfl) (by kernel_rfl) (fun _ _ _ h => h) (Or.inl ⟨by kernel_rfl, ?b116h⟩) hHeld ?b116n
                case b116h => (intro w hSw; (try dsimp only at hSw); go_split_ands; go_simp; (try exact rfl))
                try simp only [Act.put, List.setIfInBounds_toArray, List.set_cons_zero, List.set_cons_succ]
                refine take_d (i := 6) (d := 117) (v := ?b117) rfl rfl (by kernel_rfl) (by kernel_rfl) (by kernel_rfl) (fun _ _ _ h => h) (Or.inl ⟨by kernel_rfl, ?b117h⟩) hHeld ?b117n
                case b117h => (intro w hSw; (try dsimp only at hSw); go_split_ands; go_simp; (try exact rfl))
                try simp only [Act.put, List.setIfInBounds_toArray, List.set_cons_zero, List.set_cons_succ]
                refine take_d (i := 7) (d := 118) (v := ?b118) rfl rfl (by kernel_rfl) (by kernel_rfl) (by kernel_rfl) (fun _ _ _ h => h) (Or.inl ⟨by kernel_rfl, ?b118h⟩) hHeld ?b118n
                case b118h => (intro w hSw; (try dsimp only at hSw); go_split_ands; go_simp; (try exact rfl))
                try simp only [Act.put, List.setIfInBounds_toArray, List.set_cons_zero, List.set_cons_succ]
                refine take_d (i := 8) (d := 119) (v := ?b119) rfl rfl (by kernel_rfl) (by kernel_rfl) (by kernel_rfl) (fun _ _ _ h => h) (Or.inl ⟨by kernel_rfl, ?b119h⟩) hHeld ?b119n
                case b119h => (intro w hSw; (try dsimp only at hSw); go_split_ands; go_simp; (try exact rfl))
                try simp only [Act.put, List.setIfInBounds_toArray, List.set_cons_zero, List.set_cons_succ]
                refine take_d (i := 9) (d := 11) (v := ?b11) rfl rfl (by kernel_rfl) (by kernel_rfl) (by kernel_rfl) (fun _ _ _ h => h) (Or.inl ⟨by kernel_rfl, ?b11h⟩) hHeld ?b11n
                case b11h => (intro w hSw; (try dsimp only at hSw); go_split_ands; go_simp; (try exact rfl))
                try simp only [Act.put, List.setIfInBounds_toArray, List.set_cons_zero, List.set_cons_succ]
                refine wpAnyH_done (by kernel_rfl) ?_ _
                refine NoPanic.normal ?_
                clear hS0
                have hidx : 0 ≤ IntKind.u64.wrap ((L who).bi + ix.tmod 17) ∧ IntKind.u64.wrap ((L who).bi + ix.tmod 17) < 18446744073709551616 := by
                  rw [IntKind.wrap_u64]
                  omega
                have HI := Lib.hid hidx
                clear hidx
                generalize IntKind.u64.wrap ((L who).bi + ix.tmod 17) = idx at *
                have TMM := Lib.hid (fun W (he : Eos W w.heap.size A n c L) => Term_any (L who) (A who) (n who) (c who) _ W ((HM.out.ok hw3).lr (he who hw3)) (Nat.le_refl _) idx HI.out.1 HI.out.2)
                generalize spotT (L who) idx = TT at *
                generalize (spotE (L who) idx == 0) = TB at *
                obtain ⟨x0, x1, x2⟩ := arr_at B33.out hw3
                go_wp2_with fail
                clear x0 x1 x2
                refine (TMM.out v3 HE3.out).mono ?_
                rintro e v4 ⟨rfl, hb⟩
                have B34 := Lib.hid (B33.out.below hb B33.out.lt)
                have B54 := Lib.hid (B53.out.below hb B53.out.lt)
                have HE4 := Lib.hid (Eos.below HE3.out hb)
                have HB4 := Lib.hid (HB3.out.trans (hb.mono HB3.out.size))
                clear hb TMM
                cases TB with
                | false =>
                  have HMN := Lib.hid (HM.out.mono (show (k : Int) ≤ (k : Int) + 1 by omega))
                  have j64 := next64 HK.out.1
                  go_wp2
                  go_roundw
                  case rel => exact ⟨k + 1, L, A, n, c, HK.out.2, HK.out.1, (by first | (rw [j64]; rfl) | go_num), (show MI ((k + 1 : Nat) : Int) (L) from HMN.out), B34.out, HE4.out, HB4.out⟩
                  case measure => (try rw [j64]); clear j64; simp [intOf]; have := HK.out.2; omega
                | true =>
                  obtain ⟨Q, hQ⟩ : ∃ Q, (hasB (L 0) idx TT && (hasB (L 1) idx TT && hasB (L 2) idx TT)) = Q := ⟨_, rfl⟩
                  have CMM : Hid (∀ W, Eos W w.heap.size A n c L → Calls Try.prog 43 #[.agg #[.int .u64 (L 0).bi, .int .u64 (L 0).bt, .slice (A 0) (n 0) (c 0), .int .u64 (L 1).bi, .int .u64 (L 1).bt, .slice (A 1) (n 1) (c 1), .int .u64 (L 2).bi, .int .u64 (L 2).bt, .slice (A 2) (n 2) (c 2)], .agg #[.int .u64 idx, .int .u64 TT]] W fun e w' => e = .returned (.bool Q) ∧ Below W.heap.size W w') := Lib.hid (fun W he => by
                    have := common_any L A n c W (fun k hk => (HM.out.ok hk).lr (he k hk)) idx TT HI.out.1 HI.out.2
                    rw [hQ] at this
                    exact this)
                  have HQ := Lib.hid hQ
                  clear hQ
                  have x0 : v4.cell? ⟨p3, 0, none⟩ = some (.int .u64 (L 0).bi) := B34.out.cell 0
                  have x1 : v4.cell? ⟨p3, 1, none⟩ = some (.int .u64 (L 0).bt) := B34.out.cell 1
                  have x2 : v4.cell? ⟨p3, 2, none⟩ = some (.slice (A 0) (n 0) (c 0)) := B34.out.cell 2
                  have x3 : v4.cell? ⟨p3, 3, none⟩ = some (.int .u64 (L 1).bi) := B34.out.cell 3
                  have x4 : v4.cell? ⟨p3, 4, none⟩ = some (.int .u64 (L 1).bt) := B34.out.cell 4
                  have x5 : v4.cell? ⟨p3, 5, none⟩ = some (.slice (A 1) (n 1) (c 1)) := B34.out.cell 5
                  have x6 : v4.cell? ⟨p3, 6, none⟩ = some (.int .u64 (L 2).bi) := B34.out.cell 6
                  have x7 : v4.cell? ⟨p3, 7, none⟩ = some (.int .u64 (L 2).bt) := B34.out.cell 7
                  have x8 : v4.cell? ⟨p3, 8, none⟩ = some (.slice (A 2) (n 2) (c 2)) := B34.out.cell 8
                  go_wp2_with fail
                  clear x0 x1 x2 x3 x4 x5 x6 x7 x8
                  refine (CMM.out v4 HE4.out).mono ?_
                  rintro e v5 ⟨rfl, hb⟩
                  have B35 := Lib.hid (B34.out.below hb B34.out.lt)
                  have B55 := Lib.hid (B54.out.below hb B54.out.lt)
                  have HE5 := Lib.hid (Eos.below HE4.out hb)
                  have HB5 := Lib.hid (HB4.out.trans (hb.mono HB4.out.size))
                  clear hb CMM
                  cases Q with
                  | false =>
                    have HMN := Lib.hid (HM.out.mono (show (k : Int) ≤ (k : Int) + 1 by omega))
                    have j64 := next64 HK.out.1
                    go_wp2
                    go_roundw
                    case rel => exact ⟨k + 1, L, A, n, c, HK.out.2, HK.out.1, (by first | (rw [j64]; rfl) | go_num), (show MI ((k + 1 : Nat) : Int) (L) from HMN.out), B35.out, HE5.out, HB5.out⟩
                    case measure => (try rw [j64]); clear j64; simp [intOf]; have := HK.out.2; omega
                  | true =>
                    have hC : ∀ k, k < 3 → hasB (L k) idx TT = true := fun k hk => by
                      have := HQ.out
                      simp only [Bool.and_eq_true] at this
                      rcases (by omega : k = 0 ∨ k = 1 ∨ k = 2) with rfl | rfl | rfl
                      · exact this.1
                      · exact this.2.1
                      · exact this.2.2
                    obtain ⟨hS, hMC⟩ := HM.out.com HKB.out HI.out.1 HI.out.2 hC
                    have HS := Lib.hid hS
                    have HMC := Lib.hid hMC
                    clear hC hS hMC HQ
                    go_wp2_with fail
                    go_loopw [138] (fun ix wr => ∃ (j : Nat) (A' : Nat → Option Addr) (n' c' : Nat → Nat), j ≤ 3 ∧ ix = .int .i64 j ∧ Blk wr p3 50 (arr (cmp L idx j) A' n' c') ∧ Eos wr w.heap.size A' n' c' (cmp L idx j) ∧ Below w.heap.size w wr) (fun ix _ => 3 - (intOf ix).toNat)
                    case atStart => exact ⟨0, A, n, c, by omega, rfl, (by rw [cmp_zero]; exact B35.out), (by rw [cmp_zero]; exact HE5.out), HB5.out⟩
                    case round =>
                      obtain ⟨j, A', n', c', hj, rfl, g3, gE, gB⟩ := hrel
                      generalize wr = y0 at *
                      have B3a := Lib.hid g3
                      have HEa := Lib.hid gE
                      have HBa := Lib.hid gB
                      clear g3 gE gB
                      by_cases hj3 : j < 3
                      · obtain ⟨_, _, _, jw0, _⟩ := next3 hj3
                        have HJW := Lib.hid jw0
                        clear jw0
                        have jI : (j : Int) < 3 := by omega
                        have j0 : (0 : Int) ≤ (j : Int) := by omega
                        have HJ := Lib.hid hj3
                        have CPM : Hid (∀ W, Eo W w.heap.size (A' j) (n' j) (c' j) (L j).es → Calls Try.prog 23 #[.agg #[.int .u64 (L j).bi, .int .u64 (L j).bt, .slice (A' j) (n' j) (c' j)], .int .u64 idx] W (Lge W (pComL (L j) idx) (.int .i64 0))) := Lib.hid (fun W ho => by
                          have := Compact_any (L j) (A' j) (n' j) (c' j) _ W ((HM.out.ok hj3).lr ho) (Nat.le_refl _) idx HI.out.1 HI.out.2
                          rw [HS.out j hj3] at this
                          exact this)
                        have hA := arr_at B3a.out hj3
                        rw [cmp_at] at hA
                        obtain ⟨x0, x1, x2⟩ := hA
                        have hEj := HEa.out j hj3
                        rw [cmp_at] at hEj
                        have HEj := Lib.hid hEj
                        clear hEj hj
                        go_wp2_with fail
                        clear x0 x1 x2
                        refine (CPM.out y0 HEj.out).mono ?_
                        rintro e y1 ⟨Ax, nx, cx, rfl, ho, hb⟩
                        have B3b := Lib.hid (B3a.out.below hb B3a.out.lt)
                        have HEb := Lib.hid (Eos.below HEa.out hb)
                        have HBb := Lib.hid (HBa.out.trans (hb.mono HBa.out.size))
                        have HOb := Lib.hid (ho.down HBa.out.size)
                        clear ho hb
                        have CS := Lib.hid (cmp_succ L idx j)
                        generalize pComL (L j) idx = X at *
                        have ho : Only p3 y1 (((y1.setCell ⟨p3, j * 3, none⟩ (.int .u64 X.bi)).setCell ⟨p3, j * 3 + 1, none⟩ (.int .u64 X.bt)).setCell ⟨p3, j * 3 + 2, none⟩ (.slice Ax nx cx)) := ((setCell_only _ _ _ _).two (setCell_only _ _ _ _)).two (setCell_only _ _ _ _)
                        have B3c := Lib.hid (arr_set B3b.out hj3 X Ax nx cx)
                        have HEc := Lib.hid ((HEb.out.only B3b.out (by decide) (by decide) ho).put (who := j) (X := X) (HOb.out.only B3b.out (by decide) (by decide) ho))
                        have HBc := Lib.hid (HBb.out.trans (ho.below HP3.out))
                        clear ho
                        have hb2 : Below (((y1.setCell ⟨p3, j * 3, none⟩ (.int .u64 X.bi)).setCell ⟨p3, j * 3 + 1, none⟩ (.int .u64 X.bt)).setCell ⟨p3, j * 3 + 2, none⟩ (.slice Ax nx cx)).heap.size (((y1.setCell ⟨p3, j * 3, none⟩ (.int .u64 X.bi)).setCell ⟨p3, j * 3 + 1, none⟩ (.int .u64 X.bt)).setCell ⟨p3, j * 3 + 2, none⟩ (.slice Ax nx cx)) ((((y1.setCell ⟨p3, j * 3, none⟩ (.int .u64 X.bi)).setCell ⟨p3, j * 3 + 1, none⟩ (.int .u64 X.bt)).setCell ⟨p3, j * 3 + 2, none⟩ (.slice Ax nx cx)).alloc (.cells #[.int .u64 X.bi, .int .u64 X.bt, .slice Ax nx cx] 27)) := (Below.refl _ _).alloc (Nat.le_refl _) _
                        have B3d := Lib.hid (B3c.out.below hb2 B3c.out.lt)
                        have HEd := Lib.hid (Eos.below HEc.out hb2)
                        have HBd := Lib.hid (HBc.out.trans (hb2.mono HBc.out.size))
                        clear hb2
                        rw [CS.out] at B3d HEd
                        have hz := B3b.out.lt
                        obtain ⟨x0, x1, x2⟩ := arr_at B3b.out hj3
                        have z0 := B3b.out.frozen (j * 3)
                        have z1 := B3b.out.frozen (j * 3 + 1)
                        have z2 := B3b.out.frozen (j * 3 + 2)
                        have HJ1 := HJW.out
                        go_wp2
                        go_roundw
                        case rel => exact ⟨j + 1, upd A' j Ax, upd n' j nx, upd c' j cx, HJ.out, (by first | (rw [HJ1]; rfl) | go_num), B3d.out, HEd.out, HBd.out⟩
                        case measure => (try rw [HJ1]); clear HJ1; simp [intOf]; have := HJ.out; omega
                      · obtain rfl : j = 3 := by omega
                        have jI : ¬ (((3 : Nat) : Int) < 3) := by omega
                        have HMN := Lib.hid ((HMC.out.congr (L' := cmp L idx 3) (fun k hk => if_pos hk)).mono (show (k : Int) ≤ (k : Int) + 1 by omega))
                        clear hj hj3 HMC
                        go_wp2_with fail
                        go_meet
                        case rel => exact ⟨rfl, rfl, rfl, rfl, rfl, cmp L idx 3, A', n', c', HMN.out, B3a.out, HEa.out, HBa.out⟩
            · have e0 : ((km : Int) == 0) = false := by simp; omega
              have e3 : ((km : Int) == 3) = false := by simp; omega
              clear h0 h3
              go_wp2_with fail
              clear x0 x1 x2 x3 x4 x5 e0 e3
              as_aux_lemma =>
                have hb : Below v2.heap.size v2 v2.drew := (Below.refl _ _).drew
                have B33 := Lib.hid (B32.out.below hb B32.out.lt)
                have B53 := Lib.hid (B52.out.below hb B52.out.lt)
                have HE3 := Lib.hid (Eos.below HE2.out hb)
                have HB3 := Lib.hid (HB2.out.trans (hb.mono HB2.out.size))
                clear hb
                have hS0 := And.intro (arr_at B33.out hm3) (Blk.six B53.out)
                have hm3' : (whom : Int) < 3 := by omega
                have hm0 : (0 : Int) ≤ (whom : Int) := by omega
                refine wp_region_noPanic ?_
                refine wp_region_held_drew (S := fun w' => (w'.cell? ⟨p3, whom * 3, none⟩ = some (.int .u64 (L whom).bi) ∧ w'.cell? ⟨p3, whom * 3 + 1, none⟩ = some (.int .u64 (L whom).bt) ∧ w'.cell? ⟨p3, whom * 3 + 2, none⟩ = some (.slice (A whom) (n whom) (c whom))) ∧ (w'.cell? ⟨p5, 0, none⟩ = some (.int .i64 kd) ∧ w'.cell? ⟨p5, 1, none⟩ = some (.int .i64 wo) ∧ w'.cell? ⟨p5, 2, none⟩ = some (.int .i64 wm) ∧ w'.cell? ⟨p5, 3, none⟩ = some (.int .i64 nn) ∧ w'.cell? ⟨p5, 4, none⟩ = some (.int .u64 ix) ∧ w'.cell? ⟨p5, 5, none⟩ = some (.int .u8 d))) (by kernel_rfl) hS0 (fun hHeld => ?_)
                generalize v2.drew = v3 at *
                refine take_d (i := 0) (d := 48) (v := ?c48) rfl rfl (by kernel_rfl) (by kernel_rfl) (by kernel_rfl) (fun _ _ _ h => h) (Or.inl ⟨by kernel_rfl, ?c48h⟩) hHeld ?c48n
                case c48h => (intro w hSw; (try dsimp only at hSw); go_split_ands; go_simp; (try exact rfl))
                try simp only [Act.put, List.setIfInBounds_toArray, List.set_cons_zero, List.set_cons_succ]
                refine take_d (i := 1) (d := 49) (v := ?c49) rfl rfl (by kernel_rfl) (by kernel_rfl) (by kernel_rfl) (fun _ _ _ h => h) (Or.inl ⟨by kernel_rfl, ?c49h⟩) hHeld ?c49n
                case c49h => (intro w hSw; (try dsimp only at hSw); go_split_ands; go_simp; (try exact rfl))
                try simp only [Act.put, List.setIfInBounds_toArray, List.set_cons_zero, List.set_cons_succ]
                refine take_d (i := 2) (d := 50) (v := ?c50) rfl rfl (by kernel_rfl) (by kernel_rfl) (by kernel_rfl) (fun _ _ _ h => h) (Or.inl ⟨by kernel_rfl, ?c50h⟩) hHeld ?c50n
                case c50h => (intro w hSw; (try dsimp only at hSw); go_split_ands; go_simp; (try exact rfl))
                try simp only [Act.put, List.setIfInBounds_toArray, List.set_cons_zero, List.set_cons_succ]
                refine take_d (i := 3) (d := 51) (v := ?c51) rfl rfl (by kernel_rfl) (by kernel_rfl) (by kernel_rfl) (fun _ _ _ h => h) (Or.inl ⟨by kernel_rfl, ?c51h⟩) hHeld ?c51n
                case c51h => (intro w hSw; (try dsimp only at hSw); go_split_ands; go_simp; (try exact rfl))
                try simp only [Act.put, List.setIfInBounds_toArray, List.set_cons_zero, List.set_cons_succ]
                refine take_d (i := 4) (d := 52) (v := ?c52) rfl rfl (by kernel_rfl) (by kernel_rfl) (by kernel_rfl) (fun _ _ _ h => h) (Or.inl ⟨by kernel_rfl, ?c52h⟩) hHeld ?c52n
                case c52h => (intro w hSw; (try dsimp only at hSw); go_split_ands; go_simp; (try exact rfl))
                try simp only [Act.put, List.setIfInBounds_toArray, List.set_cons_zero, List.set_cons_succ]
                refine take_d (i := 5) (d := 53) (v := ?c53) rfl rfl (by kernel_rfl) (by kernel_rfl) (by kernel_rfl) (fun _ _ _ h => h) (Or.inl ⟨by kernel_rfl, ?c53h⟩) hHeld ?c53n
                case c53h => (intro w hSw; (try dsimp only at hSw); go_split_ands; go_simp; (try exact rfl))
                try simp only [Act.put, List.setIfInBounds_toArray, List.set_cons_zero, List.set_cons_succ]
                refine take_d (i := 6) (d := 54) (v := ?c54) rfl rfl (by kernel_rfl) (by kernel_rfl) (by kernel_rfl) (fun _ _ _ h => h) (Or.inl ⟨by kernel_rfl, ?c54h⟩) hHeld ?c54n
                case c54h => (intro w hSw; (try dsimp only at hSw); go_split_ands; go_simp; (try exact rfl))
                try simp only [Act.put, List.setIfInBounds_toArray, List.set_cons_zero, List.set_cons_succ]
                refine take_d (i := 7) (d := 55) (v := ?c55) rfl rfl (by kernel_rfl) (by kernel_rfl) (by kernel_rfl) (fun _ _ _ h => h) (Or.inl ⟨by kernel_rfl, ?c55h⟩) hHeld ?c55n
                case c55h => (intro w hSw; (try dsimp only at hSw); go_split_ands; go_simp; (try exact rfl))
                try simp only [Act.put, List.setIfInBounds_toArray, List.set_cons_zero, List.set_cons_succ]
                refine take_d (i := 8) (d := 56) (v := ?c56) rfl rfl (by kernel_rfl) (by kernel_rfl) (by kernel_rfl) (fun _ _ _ h => h) (Or.inl ⟨by kernel_rfl, ?c56h⟩) hHeld ?c56n
                case c56h => (intro w hSw; (try dsimp only at hSw); go_split_ands; go_simp; (try exact rfl))
                try simp only [Act.put, List.setIfInBounds_toArray, List.set_cons_zero, List.set_cons_succ]
                refine take_d (i := 9) (d := 57) (v := ?c57) rfl rfl (by kernel_rfl) (by kernel_rfl) (by kernel_rfl) (fun _ _ _ h => h) (Or.inl ⟨by kernel_rfl, ?c57h⟩) hHeld ?c57n
                case c57h => (intro w hSw; (try dsimp only at hSw); go_split_ands; go_simp; (try exact rfl))
                try simp only [Act.put, List.setIfInBounds_toArray, List.set_cons_zero, List.set_cons_succ]
                refine take_d (i := 10) (d := 17) (v := ?c17) rfl rfl (by kernel_rfl) (by kernel_rfl) (by kernel_rfl) (fun _ _ _ h => h) (Or.inl ⟨by kernel_rfl, ?c17h⟩) hHeld ?c17n
                case c17h => (intro w hSw; (try dsimp only at hSw); go_split_ands; go_simp; (try exact rfl))
                try simp only [Act.put, List.setIfInBounds_toArray, List.set_cons_zero, List.set_cons_succ]
                refine wpAnyH_done (by kernel_rfl) ?_ _
                refine NoPanic.normal ?_
                clear hS0
                generalize IntKind.u64.wrap (IntKind.u64.wrap ((L whom).bi + 1) + ix.tmod 17) = idx at *
                go_wp2_with fail
                obtain ⟨nq, hnq⟩ : ∃ nq, max nn 0 = nq := ⟨_, rfl⟩
                have FRM : Hid (∀ W, Eos W w.heap.size A n c L → Calls Try.prog 32 #[.agg #[.int .u64 (L whom).bi, .int .u64 (L whom).bt, .slice (A whom) (n whom) (c whom)], .int .u64 idx, .int .i64 nq] W (Lfr W (fromI (L whom) idx nq) (fromT (L whom) idx nq) (fromE (L whom) idx nq) (fromL (L whom) idx nq))) := Lib.hid (fun W he => From_any (L whom) (A whom) (n whom) (c whom) _ W ((HM.out.ok hm3).lr (he whom hm3)) (Nat.le_refl _) idx nq)
                have hFLN : (fromL (L whom) idx nq).length ≤ 16 := by
                  have h1 := (right_parts (HM.out.r whom hm3)).2.1
                  unfold fromL
                  split <;> simp <;> omega
                have FLN := Lib.hid hFLN
                clear hFLN
                have TK := Lib.hid (fun hF hE => HM.out.take hw3 hm3 (i := idx) (q := nq) hF hE)
                have FTB : Hid ((0 ≤ fromI (L whom) idx nq ∧ fromI (L whom) idx nq < 18446744073709551616) ∧ (0 ≤ fromT (L whom) idx nq ∧ fromT (L whom) idx nq < 18446744073709551616)) := Lib.hid (from_bounds (HM.out.ok hm3) (HM.out.T hm3 HKB.out) idx nq)
                generalize fromI (L whom) idx nq = FI at *
                generalize fromT (L whom) idx nq = FT at *
                generalize fromE (L whom) idx nq = FE at *
                generalize fromL (L whom) idx nq = FL at *
                have HD : Hid (∀ W, Blk W p3 50 (arr L A n c) → Blk W p5 74 #[.int .i64 kd, .int .i64 wo, .int .i64 wm, .int .i64 nn, .int .u64 ix, .int .u8 d] → (W.cell? ⟨p3, whom * 3, none⟩ = some (.int .u64 (L whom).bi) ∧ W.cell? ⟨p3, whom * 3 + 1, none⟩ = some (.int .u64 (L whom).bt) ∧ W.cell? ⟨p3, whom * 3 + 2, none⟩ = some (.slice (A whom) (n whom) (c whom))) ∧ (W.cell? ⟨p5, 0, none⟩ = some (.int .i64 kd) ∧ W.cell? ⟨p5, 1, none⟩ = some (.int .i64 wo) ∧ W.cell? ⟨p5, 2, none⟩ = some (.int .i64 wm) ∧ W.cell? ⟨p5, 3, none⟩ = some (.int .i64 nn) ∧ W.cell? ⟨p5, 4, none⟩ = some (.int .u64 ix) ∧ W.cell? ⟨p5, 5, none⟩ = some (.int .u8 d))) := Lib.hid (fun W h1 h2 => And.intro (arr_at h1 hm3) (Blk.six h2))
                have hb : Below v3.heap.size v3 v3.drew := (Below.refl _ _).drew
                have B34 := Lib.hid (B33.out.below hb B33.out.lt)
                have B54 := Lib.hid (B53.out.below hb B53.out.lt)
                have HE4 := Lib.hid (Eos.below HE3.out hb)
                have HB4 := Lib.hid (HB3.out.trans (hb.mono HB3.out.size))
                clear hb
                have hS0 := HD.out _ B34.out B54.out
                go_cut [18, 19, 20, 29] from 29 to 176 (fun v18 v19 v20 v29 wx => v29 = .int .i64 (k : Int) ∧ v20 = .int .i64 FE ∧ ∃ p18 Af nf cf, v18 = .pointer (some ⟨p18, 0, none⟩) ∧ v19 = .slice Af nf cf ∧ Blk wx p18 24 #[.int .u64 FI, .int .u64 FT] ∧ Eo wx w.heap.size Af nf cf FL ∧ Blk wx p3 50 (arr L A n c) ∧ Blk wx p5 74 #[.int .i64 kd, .int .i64 wo, .int .i64 wm, .int .i64 nn, .int .u64 ix, .int .u8 d] ∧ Eos wx w.heap.size A n c L ∧ Below w.heap.size w wx)
                case first =>
                  refine wp_region_noPanic ?_
                  refine wp_region_held_drew (S := fun w' => (w'.cell? ⟨p3, whom * 3, none⟩ = some (.int .u64 (L whom).bi) ∧ w'.cell? ⟨p3, whom * 3 + 1, none⟩ = some (.int .u64 (L whom).bt) ∧ w'.cell? ⟨p3, whom * 3 + 2, none⟩ = some (.slice (A whom) (n whom) (c whom))) ∧ (w'.cell? ⟨p5, 0, none⟩ = some (.int .i64 kd) ∧ w'.cell? ⟨p5, 1, none⟩ = some (.int .i64 wo) ∧ w'.cell? ⟨p5, 2, none⟩ = some (.int .i64 wm) ∧ w'.cell? ⟨p5, 3, none⟩ = some (.int .i64 nn) ∧ w'.cell? ⟨p5, 4, none⟩ = some (.int .u64 ix) ∧ w'.cell? ⟨p5, 5, none⟩ = some (.int .u8 d))) (by kernel_rfl) hS0 (fun hHeld => ?_)
                  generalize v3.drew = v4 at *
                  refine take_d (i := 0) (d := 59) (v := ?z70) rfl rfl (by kernel_rfl) (by kernel_rfl) (by kernel_rfl) (fun _ _ _ h => h) (Or.inl ⟨by kernel_rfl, ?z70h⟩) hHeld ?z70n
                  case z70h => (intro w hSw; (try dsimp only at hSw); go_split_ands; go_simp; (try exact rfl))
                  try simp only [Act.put, List.setIfInBounds_toArray, List.set_cons_zero, List.set_cons_succ]
                  refine take_d (i := 1) (d := 60) (v := ?z71) rfl rfl (by kernel_rfl) (by kernel_rfl) (by kernel_rfl) (fun _ _ _ h => h) (Or.inl ⟨by kernel_rfl, ?z71h⟩) hHeld ?z71n
                  case z71h => (intro w hSw; (try dsimp only at hSw); go_split_ands; go_simp; (try exact rfl))
                  try simp only [Act.put, List.setIfInBounds_toArray, List.set_cons_zero, List.set_cons_succ]
                  refine take_d (i := 2) (d := 61) (v := ?z72) rfl rfl (by kernel_rfl) (by kernel_rfl) (by kernel_rfl) (fun _ _ _ h => h) (Or.inl ⟨by kernel_rfl, ?z72h⟩) hHeld ?z72n
                  case z72h => (intro w hSw; (try dsimp only at hSw); go_split_ands; go_simp; (try exact rfl))
                  try simp only [Act.put, List.setIfInBounds_toArray, List.set_cons_zero, List.set_cons_succ]
                  refine take_d (i := 3) (d := 62) (v := ?z73) rfl rfl (by kernel_rfl) (by kernel_rfl) (by kernel_rfl) (fun _ _ _ h => h) (Or.inl ⟨by kernel_rfl, ?z73h⟩) hHeld ?z73n
                  case z73h => (intro w hSw; (try dsimp only at hSw); go_split_ands; go_simp; (try exact rfl))
                  try simp only [Act.put, List.setIfInBounds_toArray, List.set_cons_zero, List.set_cons_succ]
                  refine take_d (i := 4) (d := 63) (v := ?z74) rfl rfl (by kernel_rfl) (by kernel_rfl) (by kernel_rfl) (fun _ _ _ h => h) (Or.inl ⟨by kernel_rfl, ?z74h⟩) hHeld ?z74n
                  case z74h => (intro w hSw; (try dsimp only at hSw); go_split_ands; go_simp; (try exact rfl))
                  try simp only [Act.put, List.setIfInBounds_toArray, List.set_cons_zero, List.set_cons_succ]
                  refine take_d (i := 5) (d := 64) (v := ?z75) rfl rfl (by kernel_rfl) (by kernel_rfl) (by kernel_rfl) (fun _ _ _ h => h) (Or.inl ⟨by kernel_rfl, ?z75h⟩) hHeld ?z75n
                  case z75h => (intro w hSw; (try dsimp only at hSw); go_split_ands; go_simp; (try exact rfl))
                  try simp only [Act.put, List.setIfInBounds_toArray, List.set_cons_zero, List.set_cons_succ]
                  refine take_d (i := 6) (d := 65) (v := .int .i64 nq) rfl rfl (by kernel_rfl) (by kernel_rfl) (by kernel_rfl) (fun _ _ _ h => h) (Or.inl ⟨by kernel_rfl, ?z76h⟩) hHeld ?_
                  case z76h => (intro w hSw; (try dsimp only at hSw); go_split_ands; go_simp; (try exact rfl))
                  try simp only [Act.put, List.setIfInBounds_toArray, List.set_cons_zero, List.set_cons_succ]
                  refine wpAnyH_ready (rs := [7, 12]) (by kernel_rfl) (by simp) ?_
                  refine AllReadyH.cons rfl (fun K hK => ?_) (AllReadyH.cons rfl (fun K hK => ?_) AllReadyH.nil)
                  · skip
                    go_simp
                    refine (FRM.out v4 HE4.out).mono ?_
                    rintro e v5 ⟨Af, nf, cf, rfl, ho, hb⟩
                    have B35 := Lib.hid (B34.out.below hb B34.out.lt)
                    have B55 := Lib.hid (B54.out.below hb B54.out.lt)
                    have HE5 := Lib.hid (Eos.below HE4.out hb)
                    have HB5 := Lib.hid (HB4.out.trans (hb.mono HB4.out.size))
                    have HN5 := Lib.hid (ho.down HB4.out.size)
                    clear ho hb
                    refine hK.out _ _ (HD.out _ B35.out B55.out) (fun hHeld => ?_)
                    clear hK K
                    try simp only [Act.put, List.setIfInBounds_toArray, List.set_cons_zero, List.set_cons_succ]
                    refine take_d (i := 8) (d := 58) (v := ?z77) rfl rfl (by kernel_rfl) (by kernel_rfl) (by kernel_rfl) (fun _ _ _ h => h) (Or.inl ⟨by kernel_rfl, ?z77h⟩) hHeld ?z77n
                    case z77h => (intro w hSw; (try dsimp only at hSw); go_split_ands; go_simp; (try exact rfl))
                    try simp only [Act.put, List.setIfInBounds_toArray, List.set_cons_zero, List.set_cons_succ]
                    refine take_d (i := 9) (d := 67) (v := ?z78) rfl rfl (by kernel_rfl) (by kernel_rfl) (by kernel_rfl) (fun _ _ _ h => h) (Or.inl ⟨by kernel_rfl, ?z78h⟩) hHeld ?z78n
                    case z78h => (intro w hSw; (try dsimp only at hSw); go_split_ands; go_simp; (try exact rfl))
                    try simp only [Act.put, List.setIfInBounds_toArray, List.set_cons_zero, List.set_cons_succ]
                    refine take_d (i := 10) (d := 68) (v := ?z79) rfl rfl (by kernel_rfl) (by kernel_rfl) (by kernel_rfl) (fun _ _ _ h => h) (Or.inl ⟨by kernel_rfl, ?z79h⟩) hHeld ?z79n
                    case z79h => (intro w hSw; (try dsimp only at hSw); go_split_ands; go_simp; (try exact rfl))
                    try simp only [Act.put, List.setIfInBounds_toArray, List.set_cons_zero, List.set_cons_succ]
                    refine take_d (i := 11) (d := 69) (v := ?z80) rfl rfl (by kernel_rfl) (by kernel_rfl) (by kernel_rfl) (fun _ _ _ h => h) (Or.inl ⟨by kernel_rfl, ?z80h⟩) hHeld ?z80n
                    case z80h => (intro w hSw; (try dsimp only at hSw); go_split_ands; go_simp; (try exact rfl))
                    try simp only [Act.put, List.setIfInBounds_toArray, List.set_cons_zero, List.set_cons_succ]
                    refine wpAnyH_ready (rs := [12]) (by kernel_rfl) (by simp) ?_
                    refine AllReadyH.cons rfl (fun K hK => ?_) AllReadyH.nil
                    go_simp
                    have hb : Below v5.heap.size v5 (v5.alloc (.cells #[.int .u64 0, .int .u64 0] 24)) := (Below.refl _ _).alloc (Nat.le_refl _) _
                    have B36 := Lib.hid (B35.out.below hb B35.out.lt)
                    have B56 := Lib.hid (B55.out.below hb B55.out.lt)
                    have HE6 := Lib.hid (Eos.below HE5.out hb)
                    have HN6 := Lib.hid (Eo.below HN5.out hb)
                    have HB6 := Lib.hid (HB5.out.trans (hb.mono HB5.out.size))
                    refine hK.out _ _ (HD.out _ B36.out B56.out) (fun hHeld => ?_)
                    clear hK K
                    have B186 : Hid (Blk (v5.alloc (.cells #[.int .u64 0, .int .u64 0] 24)) v5.heap.size 24 #[.int .u64 0, .int .u64 0]) := Lib.hid (Blk.new _ _ _)
                    have P18 := Lib.hid HB5.out.size
                    have N18 := Lib.hid (show p3 < v5.heap.size ∧ p5 < v5.heap.size from ⟨B35.out.lt, B55.out.lt⟩)
                    clear hb
                    generalize (v5.alloc (.cells #[.int .u64 0, .int .u64 0] 24)) = v6 at *
                    generalize v5.heap.size = p18 at *
                    try simp only [Act.put, List.setIfInBounds_toArray, List.set_cons_zero, List.set_cons_succ]
                    refine wpAnyH_ready (rs := [13]) (by kernel_rfl) (by simp) ?_
                    refine AllReadyH.cons rfl (fun K hK => ?_) AllReadyH.nil
                    refine wp_store_none 24 _ _ rfl rfl p18 #[.int .u64 0, .int .u64 0] 24 [.int .u64 FI, .int .u64 FT] rfl rfl B186.out rfl Try.i24 (by simp [Value.oneCell']) ?_
                    intro v7 hb ho
                    have B187 := Lib.hid hb
                    have B37 := Lib.hid (ho.keep B36.out (by have := N18.out; omega))
                    have B57 := Lib.hid (ho.keep B56.out (by have := N18.out; omega))
                    have HE7 := Lib.hid (HE6.out.only B186.out (by decide) (by decide) ho)
                    have HN7 := Lib.hid (Eo.only HN6.out B186.out (by decide) (by decide) ho)
                    have HB7 := Lib.hid (HB6.out.trans (ho.below P18.out))
                    clear hb ho
                    refine hK.out _ _ (HD.out _ B37.out B57.out) (fun hHeld => ?_)
                    clear hK K
                    try dsimp only [Act.put]
                    try simp only [Act.put, List.setIfInBounds_toArray, List.set_cons_zero, List.set_cons_succ]
                    refine take_d (i := 14) (d := 19) (v := ?z81) rfl rfl (by kernel_rfl) (by kernel_rfl) (by kernel_rfl) (fun _ _ _ h => h) (Or.inl ⟨by kernel_rfl, ?z81h⟩) hHeld ?z81n
                    case z81h => (intro w hSw; (try dsimp only at hSw); go_split_ands; go_simp; (try exact rfl))
                    try simp only [Act.put, List.setIfInBounds_toArray, List.set_cons_zero, List.set_cons_succ]
                    refine take_d (i := 15) (d := 20) (v := ?z82) rfl rfl (by kernel_rfl) (by kernel_rfl) (by kernel_rfl) (fun _ _ _ h => h) (Or.inl ⟨by kernel_rfl, ?z82h⟩) hHeld ?z82n
                    case z82h => (intro w hSw; (try dsimp only at hSw); go_split_ands; go_simp; (try exact rfl))
                    try simp only [Act.put, List.setIfInBounds_toArray, List.set_cons_zero, List.set_cons_succ]
                    refine wpAnyH_done (by kernel_rfl) ?_ _
                    refine NoPanic.normal ?_
                    clear hnq FRM
                    go_wp2_with fail
                    go_meet
                    case rel => exact ⟨rfl, rfl, p18, Af, nf, cf, rfl, rfl, B187.out, HN7.out, B37.out, B57.out, HE7.out, HB7.out⟩
                  · skip
                    go_simp
                    have hb : Below v4.heap.size v4 (v4.alloc (.cells #[.int .u64 0, .int .u64 0] 24)) := (Below.refl _ _).alloc (Nat.le_refl _) _
                    have B35 := Lib.hid (B34.out.below hb B34.out.lt)
                    have B55 := Lib.hid (B54.out.below hb B54.out.lt)
                    have HE5 := Lib.hid (Eos.below HE4.out hb)
                    have HB5 := Lib.hid (HB4.out.trans (hb.mono HB4.out.size))
                    refine hK.out _ _ (HD.out _ B35.out B55.out) (fun hHeld => ?_)
                    clear hK K
                    have B185 : Hid (Blk (v4.alloc (.cells #[.int .u64 0, .int .u64 0] 24)) v4.heap.size 24 #[.int .u64 0, .int .u64 0]) := Lib.hid (Blk.new _ _ _)
                    have P18 := Lib.hid HB4.out.size
                    have N18 := Lib.hid (show p3 < v4.heap.size ∧ p5 < v4.heap.size from ⟨B34.out.lt, B54.out.lt⟩)
                    clear hb
                    generalize (v4.alloc (.cells #[.int .u64 0, .int .u64 0] 24)) = v5 at *
                    generalize v4.heap.size = p18 at *
                    try simp only [Act.put, List.setIfInBounds_toArray, List.set_cons_zero, List.set_cons_succ]
                    refine wpAnyH_ready (rs := [7]) (by kernel_rfl) (by simp) ?_
                    refine AllReadyH.cons rfl (fun K hK => ?_) AllReadyH.nil
                    go_simp
                    refine (FRM.out v5 HE5.out).mono ?_
                    rintro e v6 ⟨Af, nf, cf, rfl, ho, hb⟩
                    have B36 := Lib.hid (B35.out.below hb B35.out.lt)
                    have B56 := Lib.hid (B55.out.below hb B55.out.lt)
                    have B186 := Lib.hid (B185.out.below hb B185.out.lt)
                    have HE6 := Lib.hid (Eos.below HE5.out hb)
                    have HB6 := Lib.hid (HB5.out.trans (hb.mono HB5.out.size))
                    have HN6 := Lib.hid (ho.down HB5.out.size)
                    clear ho hb
                    refine hK.out _ _ (HD.out _ B36.out B56.out) (fun hHeld => ?_)
                    clear hK K
                    try simp only [Act.put, List.setIfInBounds_toArray, List.set_cons_zero, List.set_cons_succ]
                    refine take_d (i := 8) (d := 58) (v := ?z83) rfl rfl (by kernel_rfl) (by kernel_rfl) (by kernel_rfl) (fun _ _ _ h => h) (Or.inl ⟨by kernel_rfl, ?z83h⟩) hHeld ?z83n
                    case z83h => (intro w hSw; (try dsimp only at hSw); go_split_ands; go_simp; (try exact rfl))
                    try simp only [Act.put, List.setIfInBounds_toArray, List.set_cons_zero, List.set_cons_succ]
                    refine take_d (i := 9) (d := 67) (v := ?z84) rfl rfl (by kernel_rfl) (by kernel_rfl) (by kernel_rfl) (fun _ _ _ h => h) (Or.inl ⟨by kernel_rfl, ?z84h⟩) hHeld ?z84n
                    case z84h => (intro w hSw; (try dsimp only at hSw); go_split_ands; go_simp; (try exact rfl))
                    try simp only [Act.put, List.setIfInBounds_toArray, List.set_cons_zero, List.set_cons_succ]
                    refine take_d (i := 10) (d := 68) (v := ?z85) rfl rfl (by kernel_rfl) (by kernel_rfl) (by kernel_rfl) (fun _ _ _ h => h) (Or.inl ⟨by kernel_rfl, ?z85h⟩) hHeld ?z85n
                    case z85h => (intro w hSw; (try dsimp only at hSw); go_split_ands; go_simp; (try exact rfl))
                    try simp only [Act.put, List.setIfInBounds_toArray, List.set_cons_zero, List.set_cons_succ]
                    refine take_d (i := 11) (d := 69) (v := ?z86) rfl rfl (by kernel_rfl) (by kernel_rfl) (by kernel_rfl) (fun _ _ _ h => h) (Or.inl ⟨by kernel_rfl, ?z86h⟩) hHeld ?z86n
                    case z86h => (intro w hSw; (try dsimp only at hSw); go_split_ands; go_simp; (try exact rfl))
                    try simp only [Act.put, List.setIfInBounds_toArray, List.set_cons_zero, List.set_cons_succ]
                    refine wpAnyH_ready (rs := [13]) (by kernel_rfl) (by simp) ?_
                    refine AllReadyH.cons rfl (fun K hK => ?_) AllReadyH.nil
                    refine wp_store_none 24 _ _ rfl rfl p18 #[.int .u64 0, .int .u64 0] 24 [.int .u64 FI, .int .u64 FT] rfl rfl B186.out rfl Try.i24 (by simp [Value.oneCell']) ?_
                    intro v7 hb ho
                    have B187 := Lib.hid hb
                    have B37 := Lib.hid (ho.keep B36.out (by have := N18.out; omega))
                    have B57 := Lib.hid (ho.keep B56.out (by have := N18.out; omega))
                    have HE7 := Lib.hid (HE6.out.only B186.out (by decide) (by decide) ho)
                    have HN7 := Lib.hid (Eo.only HN6.out B186.out (by decide) (by decide) ho)
                    have HB7 := Lib.hid (HB6.out.trans (ho.below P18.out))
                    clear hb ho
                    refine hK.out _ _ (HD.out _ B37.out B57.out) (fun hHeld => ?_)
                    clear hK K
                    try dsimp only [Act.put]
                    try simp only [Act.put, List.setIfInBounds_toArray, List.set_cons_zero, List.set_cons_succ]
                    refine take_d (i := 14) (d := 19) (v := ?z87) rfl rfl (by kernel_rfl) (by kernel_rfl) (by kernel_rfl) (fun _ _ _ h => h) (Or.inl ⟨by kernel_rfl, ?z87h⟩) hHeld ?z87n
                    case z87h => (intro w hSw; (try dsimp only at hSw); go_split_ands; go_simp; (try exact rfl))
                    try simp only [Act.put, List.setIfInBounds_toArray, List.set_cons_zero, List.set_cons_succ]
                    refine take_d (i := 15) (d := 20) (v := ?z88) rfl rfl (by kernel_rfl) (by kernel_rfl) (by kernel_rfl) (fun _ _ _ h => h) (Or.inl ⟨by kernel_rfl, ?z88h⟩) hHeld ?z88n
                    case z88h => (intro w hSw; (try dsimp only at hSw); go_split_ands; go_simp; (try exact rfl))
                    try simp only [Act.put, List.setIfInBounds_toArray, List.set_cons_zero, List.set_cons_succ]
                    refine wpAnyH_done (by kernel_rfl) ?_ _
                    refine NoPanic.normal ?_
                    clear hnq FRM
                    go_wp2_with fail
                    go_meet
                    case rel => exact ⟨rfl, rfl, p18, Af, nf, cf, rfl, rfl, B187.out, HN7.out, B37.out, B57.out, HE7.out, HB7.out⟩
                case rest =>
                  obtain ⟨rfl, rfl, p18, Af, nf, cf, rfl, rfl, g18, gN, g3, g5, gE, gB⟩ := hcut
                  generalize wc = v0 at *
                  have B180 := Lib.hid g18
                  have HN0 := Lib.hid gN
                  have B30 := Lib.hid g3
                  have B50 := Lib.hid g5
                  have HE0 := Lib.hid gE
                  have HB0 := Lib.hid gB
                  clear g18 gN g3 g5 gE gB FRM HD hnq hS0 B32 B52 HE2 HB2 B33 B53 HE3 HB3 B34 B54 HE4 HB4
                  by_cases hFE : FE = 0
                  · subst hFE
                    have TK1 := Lib.hid (TK.out rfl)
                    clear TK
                    go_wp2_with fail
                    have TKM : Hid (∀ W, Eos W w.heap.size A n c L → Eo W w.heap.size Af nf cf FL → Calls Try.prog 16 #[.agg #[.int .u64 (L who).bi, .int .u64 (L who).bt, .slice (A who) (n who) (c who)], .agg #[.int .u64 FI, .int .u64 FT], .slice Af nf cf] W (Ltk W (pTakeL (L who) FI FT FL) (pTakeI (L who) FI FT FL) (pTakeE (L who) FI FT FL))) := Lib.hid (fun W he ho => Take_any (L who) ⟨FI, FT, FL⟩ (A who) Af (n who) (c who) nf cf _ W ((HM.out.ok hw3).lr (he who hw3)) (Eo.lr (l := ⟨FI, FT, FL⟩) ho (by show FL.length ≤ 1000; have := FLN.out; omega) FTB.out.1.1 FTB.out.1.2 FTB.out.2.1 FTB.out.2.2) (Nat.le_refl _) (by have := ho.len; have := FLN.out; omega))
                    have HD : Hid (∀ W, Blk W p3 50 (arr L A n c) → Blk W p18 24 #[.int .u64 FI, .int .u64 FT] → (W.cell? ⟨p3, who * 3, none⟩ = some (.int .u64 (L who).bi) ∧ W.cell? ⟨p3, who * 3 + 1, none⟩ = some (.int .u64 (L who).bt) ∧ W.cell? ⟨p3, who * 3 + 2, none⟩ = some (.slice (A who) (n who) (c who))) ∧ (W.cell? ⟨p18, 0, none⟩ = some (.int .u64 FI) ∧ W.cell? ⟨p18, 1, none⟩ = some (.int .u64 FT))) := Lib.hid (fun W h1 h2 => And.intro (arr_at h1 hw3) h2.two)
                    generalize pTakeL (L who) FI FT FL = X at *
                    generalize pTakeI (L who) FI FT FL = XI at *
                    generalize pTakeE (L who) FI FT FL = XE at *
                    have hw3' : (who : Int) < 3 := by omega
                    have hw0 : (0 : Int) ≤ (who : Int) := by omega
                    have hb : Below v0.heap.size v0 v0.drew := (Below.refl _ _).drew
                    have B31 := Lib.hid (B30.out.below hb B30.out.lt)
                    have B51 := Lib.hid (B50.out.below hb B50.out.lt)
                    have B181 := Lib.hid (B180.out.below hb B180.out.lt)
                    have HE1 := Lib.hid (Eos.below HE0.out hb)
                    have HB1 := Lib.hid (HB0.out.trans (hb.mono HB0.out.size))
                    have HN1 := Lib.hid (Eo.below HN0.out hb)
                    clear hb
                    have hS0 := HD.out _ B31.out B181.out
                    go_cut [21, 22, 23, 29] from 29 to 176 (fun v21 v22 v23 v29 wx => v29 = .int .i64 (k : Int) ∧ v23 = .int .i64 XE ∧ (∃ xi, v22 = .int .u64 xi) ∧ ∃ p21 Ax nx cx, v21 = .pointer (some ⟨p21, 0, none⟩) ∧ Blk wx p21 27 #[.int .u64 X.bi, .int .u64 X.bt, .slice Ax nx cx] ∧ Eo wx w.heap.size Ax nx cx X.es ∧ Blk wx p3 50 (arr L A n c) ∧ Blk wx p5 74 #[.int .i64 kd, .int .i64 wo, .int .i64 wm, .int .i64 nn, .int .u64 ix, .int .u8 d] ∧ Eos wx w.heap.size A n c L ∧ Below w.heap.size w wx)
                    case first =>
                      refine wp_region_noPanic ?_
                      refine wp_region_held_drew (S := fun w' => (w'.cell? ⟨p3, who * 3, none⟩ = some (.int .u64 (L who).bi) ∧ w'.cell? ⟨p3, who * 3 + 1, none⟩ = some (.int .u64 (L who).bt) ∧ w'.cell? ⟨p3, who * 3 + 2, none⟩ = some (.slice (A who) (n who) (c who))) ∧ (w'.cell? ⟨p18, 0, none⟩ = some (.int .u64 FI) ∧ w'.cell? ⟨p18, 1, none⟩ = some (.int .u64 FT))) (by kernel_rfl) hS0 (fun hHeld => ?_)
                      generalize v0.drew = v1 at *
                      refine take_d (i := 0) (d := 73) (v := ?z89) rfl rfl (by kernel_rfl) (by kernel_rfl) (by kernel_rfl) (fun _ _ _ h => h) (Or.inl ⟨by kernel_rfl, ?z89h⟩) hHeld ?z89n
                      case z89h => (intro w hSw; (try dsimp only at hSw); go_split_ands; go_simp; (try exact rfl))
                      try simp only [Act.put, List.setIfInBounds_toArray, List.set_cons_zero, List.set_cons_succ]
                      refine take_d (i := 1) (d := 74) (v := ?z90) rfl rfl (by kernel_rfl) (by kernel_rfl) (by kernel_rfl) (fun _ _ _ h => h) (Or.inl ⟨by kernel_rfl, ?z90h⟩) hHeld ?z90n
                      case z90h => (intro w hSw; (try dsimp only at hSw); go_split_ands; go_simp; (try exact rfl))
                      try simp only [Act.put, List.setIfInBounds_toArray, List.set_cons_zero, List.set_cons_succ]
                      refine take_d (i := 2) (d := 75) (v := ?z91) rfl rfl (by kernel_rfl) (by kernel_rfl) (by kernel_rfl) (fun _ _ _ h => h) (Or.inl ⟨by kernel_rfl, ?z91h⟩) hHeld ?z91n
                      case z91h => (intro w hSw; (try dsimp only at hSw); go_split_ands; go_simp; (try exact rfl))
                      try simp only [Act.put, List.setIfInBounds_toArray, List.set_cons_zero, List.set_cons_succ]
                      refine take_d (i := 3) (d := 76) (v := ?z92) rfl rfl (by kernel_rfl) (by kernel_rfl) (by kernel_rfl) (fun _ _ _ h => h) (Or.inl ⟨by kernel_rfl, ?z92h⟩) hHeld ?z92n
                      case z92h => (intro w hSw; (try dsimp only at hSw); go_split_ands; go_simp; (try exact rfl))
                      try simp only [Act.put, List.setIfInBounds_toArray, List.set_cons_zero, List.set_cons_succ]
                      refine take_d (i := 4) (d := 77) (v := ?z93) rfl rfl (by kernel_rfl) (by kernel_rfl) (by kernel_rfl) (fun _ _ _ h => h) (Or.inl ⟨by kernel_rfl, ?z93h⟩) hHeld ?z93n
                      case z93h => (intro w hSw; (try dsimp only at hSw); go_split_ands; go_simp; (try exact rfl))
                      try simp only [Act.put, List.setIfInBounds_toArray, List.set_cons_zero, List.set_cons_succ]
                      refine wpAnyH_ready (rs := [5, 10]) (by kernel_rfl) (by simp) ?_
                      refine AllReadyH.cons rfl (fun K hK => ?_) (AllReadyH.cons rfl (fun K hK => ?_) AllReadyH.nil)
                      · skip
                        go_simp
                        refine (TKM.out v1 HE1.out HN1.out).mono ?_
                        rintro e v2 ⟨Ax, nx, cx, rfl, ho, hb⟩
                        have B32 := Lib.hid (B31.out.below hb B31.out.lt)
                        have B52 := Lib.hid (B51.out.below hb B51.out.lt)
                        have B182 := Lib.hid (B181.out.below hb B181.out.lt)
                        have HE2 := Lib.hid (Eos.below HE1.out hb)
                        have HN2 := Lib.hid (Eo.below HN1.out hb)
                        have HB2 := Lib.hid (HB1.out.trans (hb.mono HB1.out.size))
                        have HX2 := Lib.hid (ho.down HB1.out.size)
                        clear ho hb
                        refine hK.out _ _ (HD.out _ B32.out B182.out) (fun hHeld => ?_)
                        clear hK K
                        try simp only [Act.put, List.setIfInBounds_toArray, List.set_cons_zero, List.set_cons_succ]
                        refine take_d (i := 6) (d := 72) (v := ?z94) rfl rfl (by kernel_rfl) (by kernel_rfl) (by kernel_rfl) (fun _ _ _ h => h) (Or.inl ⟨by kernel_rfl, ?z94h⟩) hHeld ?z94n
                        case z94h => (intro w hSw; (try dsimp only at hSw); go_split_ands; go_simp; (try exact rfl))
                        try simp only [Act.put, List.setIfInBounds_toArray, List.set_cons_zero, List.set_cons_succ]
                        refine take_d (i := 7) (d := 79) (v := ?z95) rfl rfl (by kernel_rfl) (by kernel_rfl) (by kernel_rfl) (fun _ _ _ h => h) (Or.inl ⟨by kernel_rfl, ?z95h⟩) hHeld ?z95n
                        case z95h => (intro w hSw; (try dsimp only at hSw); go_split_ands; go_simp; (try exact rfl))
                        try simp only [Act.put, List.setIfInBounds_toArray, List.set_cons_zero, List.set_cons_succ]
                        refine take_d (i := 8) (d := 80) (v := ?z96) rfl rfl (by kernel_rfl) (by kernel_rfl) (by kernel_rfl) (fun _ _ _ h => h) (Or.inl ⟨by kernel_rfl, ?z96h⟩) hHeld ?z96n
                        case z96h => (intro w hSw; (try dsimp only at hSw); go_split_ands; go_simp; (try exact rfl))
                        try simp only [Act.put, List.setIfInBounds_toArray, List.set_cons_zero, List.set_cons_succ]
                        refine take_d (i := 9) (d := 81) (v := ?z97) rfl rfl (by kernel_rfl) (by kernel_rfl) (by kernel_rfl) (fun _ _ _ h => h) (Or.inl ⟨by kernel_rfl, ?z97h⟩) hHeld ?z97n
                        case z97h => (intro w hSw; (try dsimp only at hSw); go_split_ands; go_simp; (try exact rfl))
                        try simp only [Act.put, List.setIfInBounds_toArray, List.set_cons_zero, List.set_cons_succ]
                        refine wpAnyH_ready (rs := [10]) (by kernel_rfl) (by simp) ?_
                        refine AllReadyH.cons rfl (fun K hK => ?_) AllReadyH.nil
                        go_simp
                        have hb : Below v2.heap.size v2 (v2.alloc (.cells #[.int .u64 0, .int .u64 0, .slice none 0 0] 27)) := (Below.refl _ _).alloc (Nat.le_refl _) _
                        have B33 := Lib.hid (B32.out.below hb B32.out.lt)
                        have B53 := Lib.hid (B52.out.below hb B52.out.lt)
                        have B183 := Lib.hid (B182.out.below hb B182.out.lt)
                        have HE3 := Lib.hid (Eos.below HE2.out hb)
                        have HN3 := Lib.hid (Eo.below HN2.out hb)
                        have HX3 := Lib.hid (Eo.below HX2.out hb)
                        have HB3 := Lib.hid (HB2.out.trans (hb.mono HB2.out.size))
                        refine hK.out _ _ (HD.out _ B33.out B183.out) (fun hHeld => ?_)
                        clear hK K
                        have B213 : Hid (Blk (v2.alloc (.cells #[.int .u64 0, .int .u64 0, .slice none 0 0] 27)) v2.heap.size 27 #[.int .u64 0, .int .u64 0, .slice none 0 0]) := Lib.hid (Blk.new _ _ _)
                        have P21 := Lib.hid HB2.out.size
                        have N21 := Lib.hid (show p3 < v2.heap.size ∧ p5 < v2.heap.size ∧ p18 < v2.heap.size from ⟨B32.out.lt, B52.out.lt, B182.out.lt⟩)
                        clear hb
                        generalize (v2.alloc (.cells #[.int .u64 0, .int .u64 0, .slice none 0 0] 27)) = v3 at *
                        generalize v2.heap.size = p21 at *
                        try simp only [Act.put, List.setIfInBounds_toArray, List.set_cons_zero, List.set_cons_succ]
                        refine wpAnyH_ready (rs := [11]) (by kernel_rfl) (by simp) ?_
                        refine AllReadyH.cons rfl (fun K hK => ?_) AllReadyH.nil
                        refine wp_store_none 27 _ _ rfl rfl p21 #[.int .u64 0, .int .u64 0, .slice none 0 0] 27 [.int .u64 X.bi, .int .u64 X.bt, .slice Ax nx cx] rfl rfl B213.out rfl Try.i27 (by simp [Value.oneCell']) ?_
                        intro v4 hb ho
                        have B214 := Lib.hid hb
                        have B34 := Lib.hid (ho.keep B33.out (by have := N21.out; omega))
                        have B54 := Lib.hid (ho.keep B53.out (by have := N21.out; omega))
                        have B184 := Lib.hid (ho.keep B183.out (by have := N21.out; omega))
                        have HE4 := Lib.hid (HE3.out.only B213.out (by decide) (by decide) ho)
                        have HN4 := Lib.hid (Eo.only HN3.out B213.out (by decide) (by decide) ho)
                        have HX4 := Lib.hid (Eo.only HX3.out B213.out (by decide) (by decide) ho)
                        have HB4 := Lib.hid (HB3.out.trans (ho.below P21.out))
                        clear hb ho
                        refine hK.out _ _ (HD.out _ B34.out B184.out) (fun hHeld => ?_)
                        clear hK K
                        try dsimp only [Act.put]
                        try simp only [Act.put, List.setIfInBounds_toArray, List.set_cons_zero, List.set_cons_succ]
                        refine take_d (i := 12) (d := 22) (v := ?z98) rfl rfl (by kernel_rfl) (by kernel_rfl) (by kernel_rfl) (fun _ _ _ h => h) (Or.inl ⟨by kernel_rfl, ?z98h⟩) hHeld ?z98n
                        case z98h => (intro w hSw; (try dsimp only at hSw); go_split_ands; go_simp; (try exact rfl))
                        try simp only [Act.put, List.setIfInBounds_toArray, List.set_cons_zero, List.set_cons_succ]
                        refine take_d (i := 13) (d := 23) (v := ?z99) rfl rfl (by kernel_rfl) (by kernel_rfl) (by kernel_rfl) (fun _ _ _ h => h) (Or.inl ⟨by kernel_rfl, ?z99h⟩) hHeld ?z99n
                        case z99h => (intro w hSw; (try dsimp only at hSw); go_split_ands; go_simp; (try exact rfl))
                        try simp only [Act.put, List.setIfInBounds_toArray, List.set_cons_zero, List.set_cons_succ]
                        refine wpAnyH_done (by kernel_rfl) ?_ _
                        refine NoPanic.normal ?_
                        go_wp2_with fail
                        go_meet
                        case rel => exact ⟨rfl, rfl, ⟨_, rfl⟩, p21, Ax, nx, cx, rfl, B214.out, HX4.out, B34.out, B54.out, HE4.out, HB4.out⟩
                      · skip
                        go_simp
                        have hb : Below v1.heap.size v1 (v1.alloc (.cells #[.int .u64 0, .int .u64 0, .slice none 0 0] 27)) := (Below.refl _ _).alloc (Nat.le_refl _) _
                        have B32 := Lib.hid (B31.out.below hb B31.out.lt)
                        have B52 := Lib.hid (B51.out.below hb B51.out.lt)
                        have B182 := Lib.hid (B181.out.below hb B181.out.lt)
                        have HE2 := Lib.hid (Eos.below HE1.out hb)
                        have HN2 := Lib.hid (Eo.below HN1.out hb)
                        have HB2 := Lib.hid (HB1.out.trans (hb.mono HB1.out.size))
                        refine hK.out _ _ (HD.out _ B32.out B182.out) (fun hHeld => ?_)
                        clear hK K
                        have B212 : Hid (Blk (v1.alloc (.cells #[.int .u64 0, .int .u64 0, .slice none 0 0] 27)) v1.heap.size 27 #[.int .u64 0, .int .u64 0, .slice none 0 0]) := Lib.hid (Blk.new _ _ _)
                        have P21 := Lib.hid HB1.out.size
                        have N21 := Lib.hid (show p3 < v1.heap.size ∧ p5 < v1.heap.size ∧ p18 < v1.heap.size from ⟨B31.out.lt, B51.out.lt, B181.out.lt⟩)
                        clear hb
                        generalize (v1.alloc (.cells #[.int .u64 0, .int .u64 0, .slice none 0 0] 27)) = v2 at *
                        generalize v1.heap.size = p21 at *
                        try simp only [Act.put, List.setIfInBounds_toArray, List.set_cons_zero, List.set_cons_succ]
                        refine wpAnyH_ready (rs := [5]) (by kernel_rfl) (by simp) ?_
                        refine AllReadyH.cons rfl (fun K hK => ?_) AllReadyH.nil
                        go_simp
                        refine (TKM.out v2 HE2.out HN2.out).mono ?_
                        rintro e v3 ⟨Ax, nx, cx, rfl, ho, hb⟩
                        have B33 := Lib.hid (B32.out.below hb B32.out.lt)
                        have B53 := Lib.hid (B52.out.below hb B52.out.lt)
                        have B183 := Lib.hid (B182.out.below hb B182.out.lt)
                        have B213 := Lib.hid (B212.out.below hb B212.out.lt)
                        have HE3 := Lib.hid (Eos.below HE2.out hb)
                        have HN3 := Lib.hid (Eo.below HN2.out hb)
                        have HB3 := Lib.hid (HB2.out.trans (hb.mono HB2.out.size))
                        have HX3 := Lib.hid (ho.down HB2.out.size)
                        clear ho hb
                        refine hK.out _ _ (HD.out _ B33.out B183.out) (fun hHeld => ?_)
                        clear hK K
                        try simp only [Act.put, List.setIfInBounds_toArray, List.set_cons_zero, List.set_cons_succ]
                        refine take_d (i := 6) (d := 72) (v := ?z100) rfl rfl (by kernel_rfl) (by kernel_rfl) (by kernel_rfl) (fun _ _ _ h => h) (Or.inl ⟨by kernel_rfl, ?z100h⟩) hHeld ?z100n
                        case z100h => (intro w hSw; (try dsimp only at hSw); go_split_ands; go_simp; (try exact rfl))
                        try simp only [Act.put, List.setIfInBounds_toArray, List.set_cons_zero, List.set_cons_succ]
                        refine take_d (i := 7) (d := 79) (v := ?z101) rfl rfl (by kernel_rfl) (by kernel_rfl) (by kernel_rfl) (fun _ _ _ h => h) (Or.inl ⟨by kernel_rfl, ?z101h⟩) hHeld ?z101n
                        case z101h => (intro w hSw; (try dsimp only at hSw); go_split_ands; go_simp; (try exact rfl))
                        try simp only [Act.put, List.setIfInBounds_toArray, List.set_cons_zero, List.set_cons_succ]
                        refine take_d (i := 8) (d := 80) (v := ?z102) rfl rfl (by kernel_rfl) (by kernel_rfl) (by kernel_rfl) (fun _ _ _ h => h) (Or.inl ⟨by kernel_rfl, ?z102h⟩) hHeld ?z102n
                        case z102h => (intro w hSw; (try dsimp only at hSw); go_split_ands; go_simp; (try exact rfl))
                        try simp only [Act.put, List.setIfInBounds_toArray, List.set_cons_zero, List.set_cons_succ]
                        refine take_d (i := 9) (d := 81) (v := ?z103) rfl rfl (by kernel_rfl) (by kernel_rfl) (by kernel_rfl) (fun _ _ _ h => h) (Or.inl ⟨by kernel_rfl, ?z103h⟩) hHeld ?z103n
                        case z103h => (intro w hSw; (try dsimp only at hSw); go_split_ands; go_simp; (try exact rfl))
                        try simp only [Act.put, List.setIfInBounds_toArray, List.set_cons_zero, List.set_cons_succ]
                        refine wpAnyH_ready (rs := [11]) (by kernel_rfl) (by simp) ?_
                        refine AllReadyH.cons rfl (fun K hK => ?_) AllReadyH.nil
                        refine wp_store_none 27 _ _ rfl rfl p21 #[.int .u64 0, .int .u64 0, .slice none 0 0] 27 [.int .u64 X.bi, .int .u64 X.bt, .slice Ax nx cx] rfl rfl B213.out rfl Try.i27 (by simp [Value.oneCell']) ?_
                        intro v4 hb ho
                        have B214 := Lib.hid hb
                        have B34 := Lib.hid (ho.keep B33.out (by have := N21.out; omega))
                        have B54 := Lib.hid (ho.keep B53.out (by have := N21.out; omega))
                        have B184 := Lib.hid (ho.keep B183.out (by have := N21.out; omega))
                        have HE4 := Lib.hid (HE3.out.only B213.out (by decide) (by decide) ho)
                        have HN4 := Lib.hid (Eo.only HN3.out B213.out (by decide) (by decide) ho)
                        have HX4 := Lib.hid (Eo.only HX3.out B213.out (by decide) (by decide) ho)
                        have HB4 := Lib.hid (HB3.out.trans (ho.below P21.out))
                        clear hb ho
                        refine hK.out _ _ (HD.out _ B34.out B184.out) (fun hHeld => ?_)
                        clear hK K
                        try dsimp only [Act.put]
                        try simp only [Act.put, List.setIfInBounds_toArray, List.set_cons_zero, List.set_cons_succ]
                        refine take_d (i := 12) (d := 22) (v := ?z104) rfl rfl (by kernel_rfl) (by kernel_rfl) (by kernel_rfl) (fun _ _ _ h => h) (Or.inl ⟨by kernel_rfl, ?z104h⟩) hHeld ?z104n
                        case z104h => (intro w hSw; (try dsimp only at hSw); go_split_ands; go_simp; (try exact rfl))
                        try simp only [Act.put, List.setIfInBounds_toArray, List.set_cons_zero, List.set_cons_succ]
                        refine take_d (i := 13) (d := 23) (v := ?z105) rfl rfl (by kernel_rfl) (by kernel_rfl) (by kernel_rfl) (fun _ _ _ h => h) (Or.inl ⟨by kernel_rfl, ?z105h⟩) hHeld ?z105n
                        case z105h => (intro w hSw; (try dsimp only at hSw); go_split_ands; go_simp; (try exact rfl))
                        try simp only [Act.put, List.setIfInBounds_toArray, List.set_cons_zero, List.set_cons_succ]
                        refine wpAnyH_done (by kernel_rfl) ?_ _
                        refine NoPanic.normal ?_
                        go_wp2_with fail
                        go_meet
                        case rel => exact ⟨rfl, rfl, ⟨_, rfl⟩, p21, Ax, nx, cx, rfl, B214.out, HX4.out, B34.out, B54.out, HE4.out, HB4.out⟩
                    case rest =>
                      obtain ⟨rfl, rfl, ⟨xi, rfl⟩, p21, Ax, nx, cx, rfl, g21, gX, g3, g5, gE, gB⟩ := hcut
                      generalize wc = v2 at *
                      have B212 := Lib.hid g21
                      have HX2 := Lib.hid gX
                      have B32 := Lib.hid g3
                      have B52 := Lib.hid g5
                      have HE2 := Lib.hid gE
                      have HB2 := Lib.hid gB
                      clear g21 gX g3 g5 gE gB TKM HD hS0 B30 B50 HE0 HB0 B180 HN0 B31 B51 HE1 HB1 B181 HN1
                      by_cases hXE : XE = 0
                      · subst hXE
                        have HMN := Lib.hid ((TK1.out rfl).mono (show (k : Int) ≤ (k : Int) + 1 by omega))
                        clear TK1
                        obtain ⟨x0, x1, x2⟩ := B212.out.three
                        obtain ⟨y0, y1, y2⟩ := arr_at B32.out hw3
                        have z0 := B32.out.frozen (who * 3)
                        have z1 := B32.out.frozen (who * 3 + 1)
                        have z2 := B32.out.frozen (who * 3 + 2)
                        have ho : Only p3 v2 (((v2.setCell ⟨p3, who * 3, none⟩ (.int .u64 X.bi)).setCell ⟨p3, who * 3 + 1, none⟩ (.int .u64 X.bt)).setCell ⟨p3, who * 3 + 2, none⟩ (.slice Ax nx cx)) := ((setCell_only _ _ _ _).two (setCell_only _ _ _ _)).two (setCell_only _ _ _ _)
                        have B33 := Lib.hid (arr_set B32.out hw3 X Ax nx cx)
                        have HE3 := Lib.hid ((HE2.out.only B32.out (by decide) (by decide) ho).put (who := who) (X := X) (HX2.out.only B32.out (by decide) (by decide) ho))
                        have HB3 := Lib.hid (HB2.out.trans (ho.below HP3.out))
                        clear ho
                        go_wp2_with fail
                        go_meet
                        case rel => exact ⟨rfl, rfl, rfl, rfl, rfl, upd L who X, upd A who Ax, upd n who nx, upd c who cx, HMN.out, B33.out, HE3.out, HB3.out⟩
                      · have hXE' : (XE == 0) = false := by simp [hXE]
                        have HMN := Lib.hid (HM.out.mono (show (k : Int) ≤ (k : Int) + 1 by omega))
                        clear hXE TK1
                        go_wp2_with fail
                        go_meet
                        case rel => exact ⟨rfl, rfl, rfl, rfl, rfl, L, A, n, c, HMN.out, B32.out, HE2.out, HB2.out⟩
                  · have hFE' : (FE != 0) = true := by simp [hFE]
                    have HMN := Lib.hid (HM.out.mono (show (k : Int) ≤ (k : Int) + 1 by omega))
                    clear hFE TK
                    have j64 := next64 HK.out.1
                    go_wp2
                    go_roundw
                    case rel => exact ⟨k + 1, L, A, n, c, HK.out.2, HK.out.1, (by first | (rw [j64]; rfl) | go_num), (show MI ((k + 1 : Nat) : Int) (L) from HMN.out), B30.out, HE0.out, HB0.out⟩
                    case measure => (try rw [j64]); clear j64; simp [intOf]; have := HK.out.2; omega
        case rest =>
          obtain ⟨rfl, rfl, rfl, rfl, rfl, L9, A9, n9, c9, hM9, g3, gE, gB⟩ := hcut
          generalize wc = v9 at *
          have B39 := Lib.hid g3
          have HE9 := Lib.hid gE
          have HB9 := Lib.hid gB
          have HMN := Lib.hid hM9
          clear hM9 g3 gE gB HM hwo hwm hkm hkm' hw3 hm3 hk4 B31 HE1 HB1 B32 HE2 HB2 B51 B52
          as_aux_lemma =>
            have HP := Lib.hid (show (∀ j, j < 3 → right ((L9) j) = true ∧ Lok ((L9) j)) ∧ ∀ j j', j < 3 → j' < 3 → ((L9) j').bi = ((L9) j).bi ∧ Agree ((L9) j).es ((L9) j').es from ⟨fun j hj => ⟨HMN.out.r j hj, HMN.out.ok hj⟩, fun j j' hj hj' => ⟨(HMN.out.base j' hj').1.trans (HMN.out.base j hj).1.symm, HMN.out.agr j j' hj hj'⟩⟩)
            have QMN : Hid (∃ L', L' = (L9) ∧ MI ((k : Int) + 1) L') := Lib.hid ⟨_, rfl, HMN.out⟩
            obtain ⟨L2, hL2⟩ : ∃ L2, L2 = (L9) := ⟨_, rfl⟩
            obtain ⟨A2, hA2⟩ : ∃ A2, A2 = (A9) := ⟨_, rfl⟩
            obtain ⟨n2, hn2⟩ : ∃ n2, n2 = (n9) := ⟨_, rfl⟩
            obtain ⟨c2, hc2⟩ : ∃ c2, c2 = (c9) := ⟨_, rfl⟩
            clear QMN
            rw [← hL2] at HMN HP HE9 B39
            rw [← hA2, ← hn2, ← hc2] at HE9 B39
            clear hL2 hA2 hn2 hc2
            go_wp2_with fail
            go_loopw [155] (fun ix wr => ∃ j : Nat, j ≤ 3 ∧ ix = .int .i64 j ∧ Blk wr p3 50 (arr L2 A2 n2 c2) ∧ Eos wr w.heap.size A2 n2 c2 L2 ∧ Below w.heap.size w wr) (fun ix _ => 3 - (intOf ix).toNat)
            case atStart => exact ⟨0, by omega, rfl, B39.out, HE9.out, HB9.out⟩
            case round =>
              obtain ⟨j, hj, rfl, g3, gE, gB⟩ := hrel
              generalize wr = y0 at *
              have B3a := Lib.hid g3
              have HEa := Lib.hid gE
              have HBa := Lib.hid gB
              clear g3 gE gB
              by_cases hj3 : j < 3
              · have jI : (j : Int) < 3 := by omega
                have j0 : (0 : Int) ≤ (j : Int) := by omega
                obtain ⟨j', hj3', hjj, jw0, jw⟩ := next3 hj3
                have HJW := Lib.hid jw0
                clear jw0
                have jI' : (j' : Int) < 3 := by omega
                have j0' : (0 : Int) ≤ (j' : Int) := by omega
                have HJ := Lib.hid hj3
                have MY : Hid (∀ W, Eos W w.heap.size A2 n2 c2 L2 → Calls Try.prog 42 #[.agg #[.int .u64 (L2 j).bi, .int .u64 (L2 j).bt, .slice (A2 j) (n2 j) (c2 j)]] W fun e w' => e = .returned (.bool true) ∧ Below W.heap.size W w') := Lib.hid (fun W he => by
                  have := may_any (L2 j) (A2 j) (n2 j) (c2 j) _ W ((HP.out.1 j hj3).2.lr (he j hj3)) (Nat.le_refl _)
                  rw [(HP.out.1 j hj3).1] at this
                  exact this)
                have MA : Hid (∀ W, Eos W w.heap.size A2 n2 c2 L2 → Calls Try.prog 44 #[.agg #[.int .u64 (L2 j).bi, .int .u64 (L2 j).bt, .slice (A2 j) (n2 j) (c2 j)], .agg #[.int .u64 (L2 j').bi, .int .u64 (L2 j').bt, .slice (A2 j') (n2 j') (c2 j')]] W fun e w' => e = .returned (.bool true) ∧ Below W.heap.size W w') := Lib.hid (fun W he => matches_any (L2 j) (L2 j') (A2 j) (A2 j') (n2 j) (c2 j) (n2 j') (c2 j') W ((HP.out.1 j hj3).2.lr (he j hj3)) ((HP.out.1 j' hj3').2.lr (he j' hj3')) (HP.out.1 j hj3).1 (HP.out.1 j' hj3').1 (HP.out.2 j j' hj3 hj3').1 (HP.out.2 j j' hj3 hj3').2)
                clear hj
                go_wp2_with fail
                have hb : Below y0.heap.size y0 y0.drew := (Below.refl _ _).drew
                have B3b := Lib.hid (B3a.out.below hb B3a.out.lt)
                have HEb := Lib.hid (Eos.below HEa.out hb)
                have HBb := Lib.hid (HBa.out.trans (hb.mono HBa.out.size))
                clear hb
                have HD2 : Hid (∀ W, Blk W p3 50 (arr L2 A2 n2 c2) → (W.cell? ⟨p3, j * 3, none⟩ = some (.int .u64 (L2 j).bi) ∧ W.cell? ⟨p3, j * 3 + 1, none⟩ = some (.int .u64 (L2 j).bt) ∧ W.cell? ⟨p3, j * 3 + 2, none⟩ = some (.slice (A2 j) (n2 j) (c2 j))) ∧ (W.cell? ⟨p3, j' * 3, none⟩ = some (.int .u64 (L2 j').bi) ∧ W.cell? ⟨p3, j' * 3 + 1, none⟩ = some (.int .u64 (L2 j').bt) ∧ W.cell? ⟨p3, j' * 3 + 2, none⟩ = some (.slice (A2 j') (n2 j') (c2 j')))) := Lib.hid (fun W h1 => And.intro (arr_at h1 hj3) (arr_at h1 hj3'))
                have hS0 := HD2.out _ B3b.out
                refine wp_region_noPanic ?_
                refine wp_region_held_drew (S := fun w' => (w'.cell? ⟨p3, j * 3, none⟩ = some (.int .u64 (L2 j).bi) ∧ w'.cell? ⟨p3, j * 3 + 1, none⟩ = some (.int .u64 (L2 j).bt) ∧ w'.cell? ⟨p3, j * 3 + 2, none⟩ = some (.slice (A2 j) (n2 j) (c2 j))) ∧ (w'.cell? ⟨p3, j' * 3, none⟩ = some (.int .u64 (L2 j').bi) ∧ w'.cell? ⟨p3, j' * 3 + 1, none⟩ = some (.int .u64 (L2 j').bt) ∧ w'.cell? ⟨p3, j' * 3 + 2, none⟩ = some (.slice (A2 j') (n2 j') (c2 j')))) (by kernel_rfl) hS0 (fun hHeld => ?_)
                generalize y0.drew = y1 at *
                refine take_d (i := 0) (d := 158) (v := ?t106x158) rfl rfl (by kernel_rfl) (by kernel_rfl) (by kernel_rfl) (fun _ _ _ h => h) (Or.inl ⟨by kernel_rfl, ?t106x158h⟩) hHeld ?t106x158n
                case t106x158h => (intro w hSw; (try dsimp only at hSw); go_split_ands; go_simp; (try exact rfl))
                try simp only [Act.put, List.setIfInBounds_toArray, List.set_cons_zero, List.set_cons_succ]
                refine take_d (i := 1) (d := 159) (v := ?t106x159) rfl rfl (by kernel_rfl) (by kernel_rfl) (by kernel_rfl) (fun _ _ _ h => h) (Or.inl ⟨by kernel_rfl, ?t106x159h⟩) hHeld ?t106x159n
                case t106x159h => (intro w hSw; (try dsimp only at hSw); go_split_ands; go_simp; (try exact rfl))
                try simp only [Act.put, List.setIfInBounds_toArray, List.set_cons_zero, List.set_cons_succ]
                refine take_d (i := 2) (d := 160) (v := ?t106x160) rfl rfl (by kernel_rfl) (by kernel_rfl) (by kernel_rfl) (fun _ _ _ h => h) (Or.inl ⟨by kernel_rfl, ?t106x160h⟩) hHeld ?t106x160n
                case t106x160h => (intro w hSw; (try dsimp only at hSw); go_split_ands; go_simp; (try exact rfl))
                try simp only [Act.put, List.setIfInBounds_toArray, List.set_cons_zero, List.set_cons_succ]
                refine wpAnyH_ready (rs := [3]) (by kernel_rfl) (by simp) ?_
                refine AllReadyH.cons rfl (fun K hK => ?_) AllReadyH.nil
                go_simp
                refine (MY.out y1 HEb.out).mono ?_
                rintro e y2 ⟨rfl, hb⟩
                have B3c := Lib.hid (B3b.out.below hb B3b.out.lt)
                have HEc := Lib.hid (Eos.below HEb.out hb)
                have HBc := Lib.hid (HBb.out.trans (hb.mono HBb.out.size))
                clear hb
                refine hK.out _ _ (HD2.out _ B3c.out) (fun hHeld => ?_)
                clear hK K
                try simp only [Act.put, List.setIfInBounds_toArray, List.set_cons_zero, List.set_cons_succ]
                refine take_d (i := 4) (d := 162) (v := .bool false) rfl rfl (by kernel_rfl) (by kernel_rfl) (by kernel_rfl) (fun _ _ _ h => h) (Or.inl ⟨by kernel_rfl, ?t106x162h⟩) hHeld ?_
                case t106x162h => (intro w hSw; (try dsimp only at hSw); go_split_ands; go_simp)
                try simp only [Act.put, List.setIfInBounds_toArray, List.set_cons_zero, List.set_cons_succ]
                refine take_d (i := 5) (d := 163) (v := ?t106x163) rfl rfl (by kernel_rfl) (by kernel_rfl) (by kernel_rfl) (fun _ _ _ h => h) (Or.inl ⟨by kernel_rfl, ?t106x163h⟩) hHeld ?t106x163n
                case t106x163h => (intro w hSw; (try dsimp only at hSw); go_split_ands; go_simp; (try exact rfl))
                try simp only [Act.put, List.setIfInBounds_toArray, List.set_cons_zero, List.set_cons_succ]
                refine take_d (i := 6) (d := 164) (v := ?t106x164) rfl rfl (by kernel_rfl) (by kernel_rfl) (by kernel_rfl) (fun _ _ _ h => h) (Or.inl ⟨by kernel_rfl, ?t106x164h⟩) hHeld ?t106x164n
                case t106x164h => (intro w hSw; (try dsimp only at hSw); go_split_ands; go_simp; (try exact rfl))
                try simp only [Act.put, List.setIfInBounds_toArray, List.set_cons_zero, List.set_cons_succ]
                refine take_d (i := 7) (d := 165) (v := ?t106x165) rfl rfl (by kernel_rfl) (by kernel_rfl) (by kernel_rfl) (fun _ _ _ h => h) (Or.inl ⟨by kernel_rfl, ?t106x165h⟩) hHeld ?t106x165n
                case t106x165h => (intro w hSw; (try dsimp only at hSw); go_split_ands; go_simp; (try exact rfl))
                try simp only [Act.put, List.setIfInBounds_toArray, List.set_cons_zero, List.set_cons_succ]
                refine take_d (i := 8) (d := 166) (v := ?t106x166) rfl rfl (by kernel_rfl) (by kernel_rfl) (by kernel_rfl) (fun _ _ _ h => h) (Or.inl ⟨by kernel_rfl, ?t106x166h⟩) hHeld ?t106x166n
                case t106x166h => (intro w hSw; (try dsimp only at hSw); go_split_ands; go_simp; (try exact rfl))
                try simp only [Act.put, List.setIfInBounds_toArray, List.set_cons_zero, List.set_cons_succ]
                refine take_d (i := 9) (d := 167) (v := ?t106x167) rfl rfl (by kernel_rfl) (by kernel_rfl) (by kernel_rfl) (fun _ _ _ h => h) (Or.inl ⟨by kernel_rfl, ?t106x167h⟩) hHeld ?t106x167n
                case t106x167h => (intro w hSw; (try dsimp only at hSw); go_split_ands; go_simp; (try exact rfl))
                try simp only [Act.put, List.setIfInBounds_toArray, List.set_cons_zero, List.set_cons_succ]
                refine take_d (i := 10) (d := 168) (v := .int .i64 ((j : Int) + 1)) rfl rfl (by kernel_rfl) (by kernel_rfl) (by kernel_rfl) (fun _ _ _ h => h) (Or.inl ⟨by kernel_rfl, ?t106x168h⟩) hHeld ?_
                case t106x168h => (intro w hSw; (try dsimp only at hSw); go_split_ands; go_simp)
                try simp only [Act.put, List.setIfInBounds_toArray, List.set_cons_zero, List.set_cons_succ]
                refine take_d (i := 11) (d := 169) (v := .int .i64 (j' : Int)) rfl rfl (by kernel_rfl) (by kernel_rfl) (by kernel_rfl) (fun _ _ _ h => h) (Or.inl ⟨by kernel_rfl, ?t106x169h⟩) hHeld ?_
                case t106x169h => (intro w hSw; (try dsimp only at hSw); go_split_ands; go_simp)
                try simp only [Act.put, List.setIfInBounds_toArray, List.set_cons_zero, List.set_cons_succ]
                refine take_d (i := 12) (d := 170) (v := ?t106x170) rfl rfl (by kernel_rfl) (by kernel_rfl) (by kernel_rfl) (fun _ _ _ h => h) (Or.inl ⟨by kernel_rfl, ?t106x170h⟩) hHeld ?t106x170n
                case t106x170h => (intro w hSw; (try dsimp only at hSw); go_split_ands; go_simp; (try exact rfl))
                try simp only [Act.put, List.setIfInBounds_toArray, List.set_cons_zero, List.set_cons_succ]
                refine take_d (i := 13) (d := 171) (v := ?t106x171) rfl rfl (by kernel_rfl) (by kernel_rfl) (by kernel_rfl) (fun _ _ _ h => h) (Or.inl ⟨by kernel_rfl, ?t106x171h⟩) hHeld ?t106x171n
                case t106x171h => (intro w hSw; (try dsimp only at hSw); go_split_ands; go_simp; (try exact rfl))
                try simp only [Act.put, List.setIfInBounds_toArray, List.set_cons_zero, List.set_cons_succ]
                refine wpAnyH_ready (rs := [14]) (by kernel_rfl) (by simp) ?_
                refine AllReadyH.cons rfl (fun K hK => ?_) AllReadyH.nil
                go_simp
                refine (MA.out y2 HEc.out).mono ?_
                rintro e y3 ⟨rfl, hb⟩
                have B3d := Lib.hid (B3c.out.below hb B3c.out.lt)
                have HEd := Lib.hid (Eos.below HEc.out hb)
                have HBd := Lib.hid (HBc.out.trans (hb.mono HBc.out.size))
                clear hb
                refine hK.out _ _ (HD2.out _ B3d.out) (fun hHeld => ?_)
                clear hK K
                try simp only [Act.put, List.setIfInBounds_toArray, List.set_cons_zero, List.set_cons_succ]
                refine take_d (i := 15) (d := 173) (v := .bool false) rfl rfl (by kernel_rfl) (by kernel_rfl) (by kernel_rfl) (fun _ _ _ h => h) (Or.inl ⟨by kernel_rfl, ?t106x173h⟩) hHeld ?_
                case t106x173h => (intro w hSw; (try dsimp only at hSw); go_split_ands; go_simp)
                try simp only [Act.put, List.setIfInBounds_toArray, List.set_cons_zero, List.set_cons_succ]
                refine take_d (i := 16) (d := 174) (v := .bool false) rfl rfl (by kernel_rfl) (by kernel_rfl) (by kernel_rfl) (fun _ _ _ h => h) (Or.inl ⟨by kernel_rfl, ?t106x174h⟩) hHeld ?_
                case t106x174h => (intro w hSw; (try dsimp only at hSw); go_split_ands; go_simp)
                try simp only [Act.put, List.setIfInBounds_toArray, List.set_cons_zero, List.set_cons_succ]
                refine wpAnyH_done (by kernel_rfl) ?_ _
                refine NoPanic.normal ?_
                clear jw hjj
                have HJ1 := HJW.out
                go_wp2
                go_roundw
                case rel => exact ⟨j + 1, HJ.out, (by first | (rw [HJ1]; rfl) | go_num), B3d.out, HEd.out, HBd.out⟩
                case measure => (try rw [HJ1]); clear HJ1; simp [intOf]; have := HJ.out; omega
              · have jI : ¬ ((j : Int) < 3) := by omega
                clear hj3
                have j64 := next64 HK.out.1
                go_wp2
                go_roundw
                case rel => exact ⟨k + 1, L2, A2, n2, c2, HK.out.2, HK.out.1, (by first | (rw [j64]; rfl) | go_num), (show MI ((k + 1 : Nat) : Int) (L2) from HMN.out), B3a.out, HEa.out, HBa.out⟩
                case measure => (try rw [j64]); clear j64; simp [intOf]; have := HK.out.2; omega
    · have kI : ¬ ((k : Int) < (an : Int)) := by omega
      go_wp2
      go_ret
      exact ⟨rfl, HB0.out⟩

end Go.Proofs.Ytmgaihdepglahaa
