/-
  Which tokens may be: the program's mayBe; a token's text: its textOf.
-/
import Derived.Test.YtblcfjliabeaiaaDoorL13
namespace Go.Proofs.YtblcfjliabeaiaaDoor
open Go.RowKit Go.Shelf

theorem ba_beq (a b : List UInt8) : ((⟨a.toArray⟩ : ByteArray) == ⟨b.toArray⟩) = (a == b) := by
  show (a.toArray == b.toArray) = (a == b)
  simp
/-- A token as it may be given: its places may be any. -/
structure Tq where
  kind : Int
  text : List UInt8
  num : Int
  at_ : Int
  to_ : Int
def Tq.cells (t : Tq) : List Value := [.int .i64 t.kind, tx t.text, .int .i64 t.num, .int .i64 t.at_, .int .i64 t.to_]
def tqV (t : Tq) : Value := .agg t.cells.toArray
def errQ : Tq := ⟨0, [], 0, 0, 0⟩
def Tk.q (t : Tk) : Tq := ⟨t.kind, t.text, t.num, (t.at_ : Int), (t.to_ : Int)⟩
/-- Which tokens may be. -/
def tokB (t : Tq) : Bool :=
  if (t.num != 0) = true ∧ (t.kind != 3) = true then false
  else if (t.kind == 1) = true then (match keyF t.text with | some k => t.text == k | none => false)
  else if (t.kind == 2) = true then nameB t.text
  else if (t.kind == 3) = true then (t.text == []) && decide (0 ≤ t.num)
  else if (t.kind == 4) = true then decide ((t.text.length : Int) ≤ 64) && (((runE plnB t.text 0 : Nat) : Int) == (t.text.length : Int))
  else if (t.kind == 5) = true then decide (0 < ((sgnN t.text : Nat) : Int)) && (((sgnN t.text : Nat) : Int) == (t.text.length : Int))
  else false
/-- A token's text. -/
def txtF (t : Tq) : List UInt8 := if (t.kind == 3) = true then Lib.itoa t.num else if (t.kind == 4) = true then quoteF t.text else t.text

set_option maxRecDepth 100000 in
set_option maxHeartbeats 8000000 in
theorem maybe_any (t : Tq) (hl : t.text.length ≤ 1000000) (w : World) (hG : Gl w) : Calls Tryd.prog 29 #[tqV t] w fun e w' => e = .returned (.bool (tokB t)) ∧ Below w.heap.size w w' := by
  obtain ⟨kind, text, num, aa, to_⟩ := t
  obtain ⟨g, hg⟩ : ∃ g, w.heap.size = g := ⟨_, rfl⟩
  obtain ⟨w1, hw1⟩ : ∃ w1, w.alloc (.cells #[.int .i64 kind, tx text, .int .i64 num, .int .i64 (aa : Int), .int .i64 (to_ : Int)] 47) = w1 := ⟨_, rfl⟩
  have hb0 : Blk w1 g 47 #[.int .i64 kind, tx text, .int .i64 num, .int .i64 (aa : Int), .int .i64 (to_ : Int)] := by rw [← hw1, ← hg]; exact Blk.new _ _ _
  have b1 : Below g w w1 := by rw [← hw1, ← hg]; exact (Below.refl _ _).alloc (Nat.le_refl _) _
  have gl1 : Gl w1 := hG.below b1 (by rw [← hg]; exact hG.lt)
  have g1 : g < w1.heap.size := hb0.lt
  have HG := Lib.hid hg
  clear hG
  show Calls Tryd.prog 29 #[.agg #[.int .i64 kind, tx text, .int .i64 num, .int .i64 (aa : Int), .int .i64 (to_ : Int)]] w _
  rw [hg]
  simp only at hl
  have KY := Lib.hid (fun W hW => key_any text hl W hW)
  have NM := Lib.hid (fun W hW => name_any text hl W hW)
  have RU := Lib.hid (fun W => run47_any text 0 hl (Nat.zero_le _) W)
  have SG := Lib.hid (fun W => sign_any text W)
  have BQ := Lib.hid (fun b => ba_beq text b)
  unfold tokB
  simp only
  cases hn : (num != 0) with
  | true =>
    cases h3 : (kind != 3) with
    | true =>
      rw [if_pos ⟨rfl, rfl⟩]
      subst hw1
      go_enter Tryd.func29, Tryd.ntmps29
      go_wp2
      go_ret
      exact ⟨rfl, by first | exact b1 | (rw [HG.out] at b1; exact b1)⟩
    | false =>
      have hk3 : kind = 3 := by simpa using h3
      subst hk3
      rw [if_neg (fun h => by cases h.2), if_neg (by decide), if_neg (by decide), if_pos (show ((3 : Int) == 3) = true from rfl)]
      subst hw1
      clear KY NM RU SG BQ
      cases text with
      | nil =>
        by_cases hnn : 0 ≤ num
        · have dn : decide (0 ≤ num) = true := decide_eq_true hnn
          rw [dn]
          go_enter Tryd.func29, Tryd.ntmps29
          go_wp2
          go_ret
          exact ⟨rfl, b1⟩
        · have dn : decide (0 ≤ num) = false := decide_eq_false hnn
          rw [dn]
          go_enter Tryd.func29, Tryd.ntmps29
          go_wp2
          go_ret
          exact ⟨rfl, b1⟩
      | cons x r =>
        have hs : ((⟨(x :: r).toArray⟩ : ByteArray) == ⟨#[]⟩) = false := by first | rfl | kernel_rfl
        go_enter Tryd.func29, Tryd.ntmps29
        go_wp2
        go_ret
        exact ⟨by simp, b1⟩
  | false =>
    rw [if_neg (fun h => by cases h.1)]
    by_cases k1 : kind = 1
    · subst k1
      rw [if_pos (show ((1 : Int) == 1) = true from rfl)]
      cases hk : keyF text with
      | some k =>
        have KR : keyR text = .tuple #[tx k, .bool true] := by unfold keyR; rw [hk]
        rw [KR] at KY
        have be := BQ.out k
        clear hk KR
        simp only
        clear be
        subst hw1
        go_enter Tryd.func29, Tryd.ntmps29
        go_wp2_with (go_at_call 19; refine (KY.out _ gl1).mono ?_; rintro e w2 ⟨rfl, hb⟩; have B2 := Lib.hid (Below.trans b1 (hb.mono (by omega))); have e2 : w2.cell? ⟨g, 1, none⟩ = some (.string ⟨text.toArray⟩) := (hb0.below hb hb0.lt).cell 1; clear hb)
        go_ret
        exact ⟨by simp [ba_beq], B2.out⟩
      | none =>
        have KR : keyR text = .tuple #[tx [], .bool false] := by unfold keyR; rw [hk]
        rw [KR] at KY
        clear hk KR
        simp only
        subst hw1
        go_enter Tryd.func29, Tryd.ntmps29
        go_wp2_with (go_at_call 19; refine (KY.out _ gl1).mono ?_; rintro e w2 ⟨rfl, hb⟩; have B2 := Lib.hid (Below.trans b1 (hb.mono (by omega))); have e2 : w2.cell? ⟨g, 1, none⟩ = some (.string ⟨text.toArray⟩) := (hb0.below hb hb0.lt).cell 1; clear hb)
        go_ret
        exact ⟨by simp, B2.out⟩
    · have k1f : (kind == 1) = false := by simpa using k1
      rw [if_neg (by rw [k1f]; decide)]
      by_cases k2 : kind = 2
      · subst k2
        rw [if_pos (show ((2 : Int) == 2) = true from rfl)]
        subst hw1
        go_enter Tryd.func29, Tryd.ntmps29
        go_wp2_with (go_at_call 21; refine (NM.out _ gl1).mono ?_; rintro e w2 ⟨rfl, hb⟩; have B2 := Lib.hid (Below.trans b1 (hb.mono (by omega))); clear hb)
        go_ret
        exact ⟨by simp, B2.out⟩
      · have k2f : (kind == 2) = false := by simpa using k2
        rw [if_neg (by rw [k2f]; decide)]
        by_cases k3 : kind = 3
        · subst k3
          rw [if_pos (show ((3 : Int) == 3) = true from rfl)]
          subst hw1
          clear KY NM RU SG BQ
          cases text with
          | nil =>
            by_cases hnn : 0 ≤ num
            · have dn : decide (0 ≤ num) = true := decide_eq_true hnn
              rw [dn]
              go_enter Tryd.func29, Tryd.ntmps29
              go_wp2
              go_ret
              exact ⟨rfl, b1⟩
            · have dn : decide (0 ≤ num) = false := decide_eq_false hnn
              rw [dn]
              go_enter Tryd.func29, Tryd.ntmps29
              go_wp2
              go_ret
              exact ⟨rfl, b1⟩
          | cons x r =>
            have hs : ((⟨(x :: r).toArray⟩ : ByteArray) == ⟨#[]⟩) = false := by first | rfl | kernel_rfl
            go_enter Tryd.func29, Tryd.ntmps29
            go_wp2
            go_ret
            exact ⟨by simp, b1⟩
        · have k3f : (kind == 3) = false := by simpa using k3
          rw [if_neg (by rw [k3f]; decide)]
          by_cases k4 : kind = 4
          · subst k4
            rw [if_pos (show ((4 : Int) == 4) = true from rfl)]
            have e1 : w1.cell? ⟨g, 1, none⟩ = some (.string ⟨text.toArray⟩) := hb0.cell 1
            have e1d : w1.drew.cell? ⟨g, 1, none⟩ = some (.string ⟨text.toArray⟩) := hb0.cell 1
            have b1 : Below g w w1.drew := b1.drew
            have hb0 : Blk w1.drew g 47 #[.int .i64 4, tx text, .int .i64 num, .int .i64 (aa : Int), .int .i64 (to_ : Int)] := hb0
            have g1 : g < w1.drew.heap.size := g1
            generalize hRR : runE plnB text 0 = RR at *
            subst hw1
            by_cases h64 : text.length ≤ 64
            · have d64 : decide ((text.length : Int) ≤ 64) = true := decide_eq_true (by omega)
              rw [d64]
              go_enter Tryd.func29, Tryd.ntmps29
              go_upto_region 12 with fail
              refine wp_region_noPanic ?_
              refine wp_region_held_drew (S := fun w' => w'.cell? ⟨g, 1, none⟩ = some (.string ⟨text.toArray⟩)) (by kernel_rfl) e1d (fun hHeld => ?_)
              refine take_d (i := 0) (d := 48) (v := ?v48) rfl rfl (by kernel_rfl) (by kernel_rfl) (by kernel_rfl) (fun _ _ _ h => h) (Or.inl ⟨by kernel_rfl, ?v48h⟩) hHeld ?v48n
              case v48h => (intro w hSw; (try dsimp only at hSw); go_split_ands; go_simp; (try exact rfl))
              try simp only [Act.put, List.setIfInBounds_toArray, List.set_cons_zero, List.set_cons_succ]
              refine take_d (i := 1) (d := 49) (v := ?v49) rfl rfl (by kernel_rfl) (by kernel_rfl) (by kernel_rfl) (fun _ _ _ h => h) (Or.inl ⟨by kernel_rfl, ?v49h⟩) hHeld ?v49n
              case v49h => (intro w hSw; (try dsimp only at hSw); go_split_ands; go_simp; (try exact rfl))
              try simp only [Act.put, List.setIfInBounds_toArray, List.set_cons_zero, List.set_cons_succ]
              refine take_d (i := 2) (d := 50) (v := ?v50) rfl rfl (by kernel_rfl) (by kernel_rfl) (by kernel_rfl) (fun _ _ _ h => h) (Or.inl ⟨by kernel_rfl, ?v50h⟩) hHeld ?v50n
              case v50h => (intro w hSw; (try dsimp only at hSw); go_split_ands; go_simp; (try exact rfl))
              try simp only [Act.put, List.setIfInBounds_toArray, List.set_cons_zero, List.set_cons_succ]
              refine take_d (i := 3) (d := 51) (v := .bool true) rfl rfl (by kernel_rfl) (by kernel_rfl) (by kernel_rfl) (fun _ _ _ h => h) (Or.inl ⟨by kernel_rfl, ?v51h⟩) hHeld ?_
              case v51h => (intro w hSw; (try dsimp only at hSw); go_split_ands; go_simp)
              try simp only [Act.put, List.setIfInBounds_toArray, List.set_cons_zero, List.set_cons_succ]
              refine take_d (i := 4) (d := 52) (v := .bool true) rfl rfl (by kernel_rfl) (by kernel_rfl) (by kernel_rfl) (fun _ _ _ h => h) (Or.inl ⟨by kernel_rfl, ?v52h⟩) hHeld ?_
              case v52h => (intro w hSw; (try dsimp only at hSw); go_split_ands; go_simp)
              try simp only [Act.put, List.setIfInBounds_toArray, List.set_cons_zero, List.set_cons_succ]
              refine take_d (i := 5) (d := 53) (v := ?v53) rfl rfl (by kernel_rfl) (by kernel_rfl) (by kernel_rfl) (fun _ _ _ h => h) (Or.inl ⟨by kernel_rfl, ?v53h⟩) hHeld ?v53n
              case v53h => (intro w hSw; (try dsimp only at hSw); go_split_ands; go_simp; (try exact rfl))
              try simp only [Act.put, List.setIfInBounds_toArray, List.set_cons_zero, List.set_cons_succ]
              refine take_d (i := 6) (d := 54) (v := ?v54) rfl rfl (by kernel_rfl) (by kernel_rfl) (by kernel_rfl) (fun _ _ _ h => h) (Or.inl ⟨by kernel_rfl, ?v54h⟩) hHeld ?v54n
              case v54h => (intro w hSw; (try dsimp only at hSw); go_split_ands; go_simp; (try exact rfl))
              try simp only [Act.put, List.setIfInBounds_toArray, List.set_cons_zero, List.set_cons_succ]
              refine take_d (i := 8) (d := 56) (v := ?v56) rfl rfl (by kernel_rfl) (by kernel_rfl) (by kernel_rfl) (fun _ _ _ h => h) (Or.inl ⟨by kernel_rfl, ?v56h⟩) hHeld ?v56n
              case v56h => (intro w hSw; (try dsimp only at hSw); go_split_ands; go_simp; (try exact rfl))
              try simp only [Act.put, List.setIfInBounds_toArray, List.set_cons_zero, List.set_cons_succ]
              refine take_d (i := 9) (d := 57) (v := ?v57) rfl rfl (by kernel_rfl) (by kernel_rfl) (by kernel_rfl) (fun _ _ _ h => h) (Or.inl ⟨by kernel_rfl, ?v57h⟩) hHeld ?v57n
              case v57h => (intro w hSw; (try dsimp only at hSw); go_split_ands; go_simp; (try exact rfl))
              try simp only [Act.put, List.setIfInBounds_toArray, List.set_cons_zero, List.set_cons_succ]
              refine take_d (i := 10) (d := 58) (v := ?v58) rfl rfl (by kernel_rfl) (by kernel_rfl) (by kernel_rfl) (fun _ _ _ h => h) (Or.inl ⟨by kernel_rfl, ?v58h⟩) hHeld ?v58n
              case v58h => (intro w hSw; (try dsimp only at hSw); go_split_ands; go_simp; (try exact rfl))
              try simp only [Act.put, List.setIfInBounds_toArray, List.set_cons_zero, List.set_cons_succ]
              refine wpAnyH_ready (rs := [7]) (by kernel_rfl) (by simp) ?_
              refine AllReadyH.cons rfl (fun K hK => ?_) AllReadyH.nil
              go_simp
              refine (RU.out _).mono ?_
              rintro e w2 ⟨rfl, hb⟩
              have B2 := Lib.hid (Below.trans b1 (hb.mono (by omega)))
              have e2 : w2.cell? ⟨g, 1, none⟩ = some (.string ⟨text.toArray⟩) := (hb0.below hb hb0.lt).cell 1
              clear hb
              refine hK.out _ _ (e2) (fun hHeld => ?_)
              clear hK K
              try simp only [Act.put, List.setIfInBounds_toArray, List.set_cons_zero, List.set_cons_succ]
              refine take_d (i := 11) (d := 59) (v := ?v59) rfl rfl (by kernel_rfl) (by kernel_rfl) (by kernel_rfl) (fun _ _ _ h => h) (Or.inl ⟨by kernel_rfl, ?v59h⟩) hHeld ?v59n
              case v59h => (intro w hSw; (try dsimp only at hSw); go_split_ands; go_simp; (try exact rfl))
              try simp only [Act.put, List.setIfInBounds_toArray, List.set_cons_zero, List.set_cons_succ]
              refine take_d (i := 12) (d := 60) (v := ?v60) rfl rfl (by kernel_rfl) (by kernel_rfl) (by kernel_rfl) (fun _ _ _ h => h) (Or.inl ⟨by kernel_rfl, ?v60h⟩) hHeld ?v60n
              case v60h => (intro w hSw; (try dsimp only at hSw); go_split_ands; go_simp; (try exact rfl))
              try simp only [Act.put, List.setIfInBounds_toArray, List.set_cons_zero, List.set_cons_succ]
              refine take_d (i := 13) (d := 2) (v := ?v2) rfl rfl (by kernel_rfl) (by kernel_rfl) (by kernel_rfl) (fun _ _ _ h => h) (Or.inl ⟨by kernel_rfl, ?v2h⟩) hHeld ?v2n
              case v2h => (intro w hSw; (try dsimp only at hSw); go_split_ands; go_simp; (try exact rfl))
              try simp only [Act.put, List.setIfInBounds_toArray, List.set_cons_zero, List.set_cons_succ]
              refine wpAnyH_done (by kernel_rfl) ?_ _
              refine NoPanic.normal ?_
              go_wp2_with fail
              go_ret
              exact ⟨by simp, B2.out⟩
            · have d64 : decide ((text.length : Int) ≤ 64) = false := decide_eq_false (by omega)
              rw [d64]
              go_enter Tryd.func29, Tryd.ntmps29
              go_upto_region 12 with fail
              refine wp_region_noPanic ?_
              refine wp_region_held_drew (S := fun w' => w'.cell? ⟨g, 1, none⟩ = some (.string ⟨text.toArray⟩)) (by kernel_rfl) e1d (fun hHeld => ?_)
              refine take_d (i := 0) (d := 48) (v := ?u48) rfl rfl (by kernel_rfl) (by kernel_rfl) (by kernel_rfl) (fun _ _ _ h => h) (Or.inl ⟨by kernel_rfl, ?u48h⟩) hHeld ?u48n
              case u48h => (intro w hSw; (try dsimp only at hSw); go_split_ands; go_simp; (try exact rfl))
              try simp only [Act.put, List.setIfInBounds_toArray, List.set_cons_zero, List.set_cons_succ]
              refine take_d (i := 1) (d := 49) (v := ?u49) rfl rfl (by kernel_rfl) (by kernel_rfl) (by kernel_rfl) (fun _ _ _ h => h) (Or.inl ⟨by kernel_rfl, ?u49h⟩) hHeld ?u49n
              case u49h => (intro w hSw; (try dsimp only at hSw); go_split_ands; go_simp; (try exact rfl))
              try simp only [Act.put, List.setIfInBounds_toArray, List.set_cons_zero, List.set_cons_succ]
              refine take_d (i := 2) (d := 50) (v := ?u50) rfl rfl (by kernel_rfl) (by kernel_rfl) (by kernel_rfl) (fun _ _ _ h => h) (Or.inl ⟨by kernel_rfl, ?u50h⟩) hHeld ?u50n
              case u50h => (intro w hSw; (try dsimp only at hSw); go_split_ands; go_simp; (try exact rfl))
              try simp only [Act.put, List.setIfInBounds_toArray, List.set_cons_zero, List.set_cons_succ]
              refine take_d (i := 3) (d := 51) (v := .bool false) rfl rfl (by kernel_rfl) (by kernel_rfl) (by kernel_rfl) (fun _ _ _ h => h) (Or.inl ⟨by kernel_rfl, ?u51h⟩) hHeld ?_
              case u51h => (intro w hSw; (try dsimp only at hSw); go_split_ands; go_simp)
              try simp only [Act.put, List.setIfInBounds_toArray, List.set_cons_zero, List.set_cons_succ]
              refine take_d (i := 4) (d := 52) (v := .bool false) rfl rfl (by kernel_rfl) (by kernel_rfl) (by kernel_rfl) (fun _ _ _ h => h) (Or.inl ⟨by kernel_rfl, ?u52h⟩) hHeld ?_
              case u52h => (intro w hSw; (try dsimp only at hSw); go_split_ands; go_simp)
              try simp only [Act.put, List.setIfInBounds_toArray, List.set_cons_zero, List.set_cons_succ]
              refine take_d (i := 5) (d := 53) (v := undef) rfl rfl (by kernel_rfl) (by kernel_rfl) (by kernel_rfl) (fun _ _ _ h => h) (Or.inr ⟨by kernel_rfl, rfl⟩) hHeld ?_
              try simp only [Act.put, List.setIfInBounds_toArray, List.set_cons_zero, List.set_cons_succ]
              refine take_d (i := 6) (d := 54) (v := undef) rfl rfl (by kernel_rfl) (by kernel_rfl) (by kernel_rfl) (fun _ _ _ h => h) (Or.inr ⟨by kernel_rfl, rfl⟩) hHeld ?_
              try simp only [Act.put, List.setIfInBounds_toArray, List.set_cons_zero, List.set_cons_succ]
              refine take_d (i := 7) (d := 55) (v := undef) rfl rfl (by kernel_rfl) (by kernel_rfl) (by kernel_rfl) (fun _ _ _ h => h) (Or.inr ⟨by kernel_rfl, rfl⟩) hHeld ?_
              try simp only [Act.put, List.setIfInBounds_toArray, List.set_cons_zero, List.set_cons_succ]
              refine take_d (i := 8) (d := 56) (v := undef) rfl rfl (by kernel_rfl) (by kernel_rfl) (by kernel_rfl) (fun _ _ _ h => h) (Or.inr ⟨by kernel_rfl, rfl⟩) hHeld ?_
              try simp only [Act.put, List.setIfInBounds_toArray, List.set_cons_zero, List.set_cons_succ]
              refine take_d (i := 9) (d := 57) (v := undef) rfl rfl (by kernel_rfl) (by kernel_rfl) (by kernel_rfl) (fun _ _ _ h => h) (Or.inr ⟨by kernel_rfl, rfl⟩) hHeld ?_
              try simp only [Act.put, List.setIfInBounds_toArray, List.set_cons_zero, List.set_cons_succ]
              refine take_d (i := 10) (d := 58) (v := undef) rfl rfl (by kernel_rfl) (by kernel_rfl) (by kernel_rfl) (fun _ _ _ h => h) (Or.inr ⟨by kernel_rfl, rfl⟩) hHeld ?_
              try simp only [Act.put, List.setIfInBounds_toArray, List.set_cons_zero, List.set_cons_succ]
              refine take_d (i := 11) (d := 59) (v := undef) rfl rfl (by kernel_rfl) (by kernel_rfl) (by kernel_rfl) (fun _ _ _ h => h) (Or.inr ⟨by kernel_rfl, rfl⟩) hHeld ?_
              try simp only [Act.put, List.setIfInBounds_toArray, List.set_cons_zero, List.set_cons_succ]
              refine take_d (i := 12) (d := 60) (v := ?u60) rfl rfl (by kernel_rfl) (by kernel_rfl) (by kernel_rfl) (fun _ _ _ h => h) (Or.inl ⟨by kernel_rfl, ?u60h⟩) hHeld ?u60n
              case u60h => (intro w hSw; (try dsimp only at hSw); go_split_ands; go_simp; (try exact rfl))
              try simp only [Act.put, List.setIfInBounds_toArray, List.set_cons_zero, List.set_cons_succ]
              refine take_d (i := 13) (d := 2) (v := ?u2) rfl rfl (by kernel_rfl) (by kernel_rfl) (by kernel_rfl) (fun _ _ _ h => h) (Or.inl ⟨by kernel_rfl, ?u2h⟩) hHeld ?u2n
              case u2h => (intro w hSw; (try dsimp only at hSw); go_split_ands; go_simp; (try exact rfl))
              try simp only [Act.put, List.setIfInBounds_toArray, List.set_cons_zero, List.set_cons_succ]
              refine wpAnyH_done (by kernel_rfl) ?_ _
              refine NoPanic.normal ?_
              go_wp2_with fail
              go_ret
              exact ⟨by simp, b1⟩
          · have k4f : (kind == 4) = false := by simpa using k4
            rw [if_neg (by rw [k4f]; decide)]
            by_cases k5 : kind = 5
            · subst k5
              rw [if_pos (show ((5 : Int) == 5) = true from rfl)]
              subst hw1
              generalize sgnN text = z at *
              by_cases hz : 0 < z
              · have dz : decide (0 < (z : Int)) = true := decide_eq_true (by omega)
                rw [dz]
                go_enter Tryd.func29, Tryd.ntmps29
                go_wp2_with (go_at_call 48; refine (SG.out _).mono ?_; rintro e w2 ⟨rfl, rfl⟩)
                go_ret
                exact ⟨by simp, b1⟩
              · have dz : decide (0 < (z : Int)) = false := decide_eq_false (by omega)
                rw [dz]
                go_enter Tryd.func29, Tryd.ntmps29
                go_wp2_with (go_at_call 48; refine (SG.out _).mono ?_; rintro e w2 ⟨rfl, rfl⟩)
                go_ret
                exact ⟨by simp, b1⟩
            · have k5f : (kind == 5) = false := by simpa using k5
              rw [if_neg (by rw [k5f]; decide)]
              subst hw1
              go_enter Tryd.func29, Tryd.ntmps29
              go_wp2
              go_ret
              exact ⟨rfl, b1⟩
end Go.Proofs.YtblcfjliabeaiaaDoor
