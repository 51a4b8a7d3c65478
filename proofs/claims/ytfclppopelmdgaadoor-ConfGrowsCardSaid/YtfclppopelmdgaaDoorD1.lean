/-
  The document's Has, Same, of, Right, Majority.
-/
import Derived.Test.YtfclppopelmdgaaDoorCR
namespace Go.Proofs.YtfclppopelmdgaaDoor
open Go.RowKit
attribute [local go_sem ↓] field27

theorem Ios.onlyNe {w w' : World} {base n c g : Nat} {A : Option Addr} {xs : List Int} (h : Ios w base A n c xs) (ho : Only g w w') (hg : ∀ k, (Value.slice A n c).ownBlock = some k → k ≠ g) : Ios w' base A n c xs := by
  refine ⟨h.1, ?_⟩
  rcases h.2 with hv | ⟨g', cap, cur, hv, hbs, hh, r⟩
  · exact .inl hv
  · exact .inr ⟨g', cap, cur, hv, hbs, (ho.block g' (hg g' (by rw [hv]; rfl))).trans hh, r⟩
theorem Ios.apart {w : World} {base n c g : Nat} {A : Option Addr} {xs : List Int} {t : TypeId} {cs : Array Value} (h : Ios w base A n c xs) (hb : Blk w g t cs) (ht : t ≠ 3) : ∀ k, (Value.slice A n c).ownBlock = some k → k ≠ g := fun k hk e => by
  rcases h.2 with ⟨hv, _⟩ | ⟨g', cap, cur, hv, hbs, hh, r⟩
  · rw [hv] at hk; cases hk
  · rw [hv] at hk
    injection hk with hk
    subst hk
    subst e
    unfold Blk at hb
    rw [hb] at hh
    injection hh with hh
    injection hh with _ h2 _
    exact ht h2
theorem cont_take {xs : List Int} {k : Nat} (h : k < xs.length) (m : Int) : (xs.take (k + 1)).contains m = ((xs.take k).contains m || xs.getD k 0 == m) := by
  rw [List.take_succ_eq_append_getElem h]
  have e : xs.getD k 0 = xs[k] := by simp [List.getD, h]
  rw [e, Bool.eq_iff_iff, List.contains_iff_mem, List.mem_append, List.mem_singleton, Bool.or_eq_true, List.contains_iff_mem, beq_iff_eq]
  exact ⟨fun h => h.elim .inl (fun h => .inr h.symm), fun h => h.elim .inl (fun h => .inr h.symm)⟩
set_option maxHeartbeats 1000000 in
theorem refhas_any (m : Int) (A : Option Addr) (n c B : Nat) (xs : List Int) (w : World) (h : Is w B A n xs) (hn : n ≤ 1000000) (hB : B ≤ w.heap.size) :
    Calls Tryd.prog 16 #[.agg #[.slice A n c], .int .i64 m] w fun e w' => e = .returned (.bool (xs.contains m)) ∧ Below w.heap.size w w' := by
  have HB : Hid (Below w.heap.size w (w.alloc (.cells #[.slice A n c] 27))) := Lib.hid ((Below.refl _ _).alloc (Nat.le_refl _) _)
  have HL := Lib.hid h.1
  have H := Lib.hid (h.below (HB.out.mono hB)).2
  have E : Hid ((xs.take n).contains m = xs.contains m) := Lib.hid (by rw [List.take_of_length_le (by rw [h.1]; omega)])
  clear h
  go_enter Tryd.func16, Tryd.ntmps16
  go_wp2
  go_loopw [5, 11] (fun v i wr => ∃ (k cn : Nat), k ≤ n ∧ i = .int .i64 k ∧ v = .int .i64 cn ∧ cn ≤ k ∧ Hid ((xs.take k).contains m = decide (0 < cn)) ∧ wr = w.alloc (.cells #[.slice A n c] 27)) (fun _ i _ => n - (intOf i).toNat)
  case atStart => exact ⟨0, 0, Nat.zero_le _, rfl, rfl, Nat.le_refl _, rfl, rfl⟩
  case round =>
    obtain ⟨k, cn, hk, rfl, rfl, hcn, hz, rfl⟩ := hrel
    by_cases hlt : k < n
    · obtain ⟨b, o, rfl, hb, hc⟩ := H.out (by omega)
      have c1 := hc k hlt
      have k0 : (0 : Int) ≤ (k : Int) := by omega
      have CT := Lib.hid (cont_take (xs := xs) (by rw [HL.out]; exact hlt) m)
      rw [hz.out] at CT
      clear hc hz
      generalize xs.getD k 0 = z at *
      by_cases he : z = m
      · subst he
        have hq : (z == z) = true := by simp
        have cc : (cn : Int) ≤ 1000000 := by omega
        have c0 : (0 : Int) ≤ (cn : Int) := by omega
        go_wp2
        go_roundw
        case rel => exact ⟨k + 1, cn + 1, by omega, by go_num, by go_num, by omega, Lib.hid (by rw [CT.out]; simp), by first | rfl | trivial⟩
        case measure => simp [intOf]; omega
      · have hq : (z == m) = false := by simpa using he
        clear he
        go_wp2
        go_roundw
        case rel => exact ⟨k + 1, cn, by omega, by go_num, rfl, by omega, Lib.hid (by rw [CT.out, hq, Bool.or_false]), by first | rfl | trivial⟩
        case measure => simp [intOf]; omega
    · obtain rfl : k = n := by omega
      have ht : Hid (xs.contains m = decide (0 < cn)) := Lib.hid (by rw [← E.out, hz.out])
      clear hz
      go_wp2
      go_ret
      exact ⟨ret_bool ht.out.symm, HB.out⟩

set_option maxHeartbeats 1000000 in
theorem refsame_any (A A2 : Option Addr) (n c n2 c2 B B2 : Nat) (xs ys : List Int) (w : World) (h : Is w B A n xs) (h2 : Is w B2 A2 n2 ys) (hn : n ≤ 1000000) (hn2 : n2 ≤ 1000000) (hB : B ≤ w.heap.size) (hB2 : B2 ≤ w.heap.size) :
    Calls Tryd.prog 18 #[.agg #[.slice A n c], .agg #[.slice A2 n2 c2]] w fun e w' => e = .returned (.bool (xs == ys)) ∧ Below w.heap.size w w' := by
  have HB : Hid (Below w.heap.size w ((w.alloc (.cells #[.slice A n c] 27)).alloc (.cells #[.slice A2 n2 c2] 27))) := Lib.hid (((Below.refl _ _).alloc (Nat.le_refl _) _).alloc (by simp) _)
  by_cases hl : n = n2
  · subst hl
    have HL := Lib.hid h.1
    have HL2 := Lib.hid h2.1
    have H := Lib.hid (h.below (HB.out.mono hB)).2
    have H2 := Lib.hid (h2.below (HB.out.mono hB2)).2
    clear h h2
    have hne : ((n : Int) != (n : Int)) = false := by simp
    go_enter Tryd.func18, Tryd.ntmps18
    go_wp2
    go_loopw [17] (fun i wr => ∃ k : Nat, k ≤ n ∧ i = .int .i64 k ∧ Hid (xs.take k = ys.take k) ∧ wr = (w.alloc (.cells #[.slice A n c] 27)).alloc (.cells #[.slice A2 n c2] 27)) (fun i _ => n - (intOf i).toNat)
    case atStart => exact ⟨0, Nat.zero_le _, rfl, rfl, rfl⟩
    case round =>
      obtain ⟨k, hk, rfl, hs, rfl⟩ := hrel
      by_cases hlt : k < n
      · obtain ⟨b, o, rfl, hb, hc⟩ := H.out (by omega)
        obtain ⟨b', o', rfl, hb', hc'⟩ := H2.out (by omega)
        have c1 := hc k hlt
        have c2 := hc' k hlt
        have k0 : (0 : Int) ≤ k := by omega
        clear hc hc'
        by_cases he : xs.getD k 0 = ys.getD k 0
        · have hst := Lib.hid (take_more (by rw [HL.out]; exact hlt) (by rw [HL2.out]; exact hlt) hs.out he)
          rw [he] at c1
          generalize ys.getD k 0 = z at c1 c2
          clear he
          have hz : (z != z) = false := by simp
          go_wp2
          go_roundw
          case rel => exact ⟨k + 1, by omega, by go_num, hst, by first | rfl | trivial⟩
          case measure => simp [intOf]; omega
        · have hf : (xs == ys) = false := by
            rw [beq_eq_false_iff_ne]
            rintro rfl
            exact he rfl
          have hz : (ys.getD k 0 != xs.getD k 0) = true := by simpa using fun e => he (Eq.symm e)
          have HF := Lib.hid hf
          generalize xs.getD k 0 = z at c1 hz
          generalize ys.getD k 0 = y at c2 hz
          clear he hf
          go_wp2
          go_ret
          exact ⟨ret_bool HF.out.symm, HB.out⟩
      · have ht : Hid ((xs == ys) = true) := by
          have := hs.out
          rw [List.take_of_length_le (by rw [HL.out]; omega), List.take_of_length_le (by rw [HL2.out]; omega)] at this
          exact beq_iff_eq.2 this
        go_wp2
        go_ret
        exact ⟨ret_bool ht.out.symm, HB.out⟩
  · have h1 := h.1
    have h3 := h2.1
    have hf : Hid ((xs == ys) = false) := Lib.hid (by
      rw [beq_eq_false_iff_ne]
      rintro rfl
      exact hl (h1.symm.trans h3))
    have hne : ((n : Int) != (n2 : Int)) = true := by simp; omega
    clear h h2 h1 h3
    go_enter Tryd.func18, Tryd.ntmps18
    go_wp2
    go_ret
    exact ⟨ret_bool hf.out.symm, HB.out⟩

/-- The first k of those that there may be. -/
def ofK (xs : List Int) (k : Nat) : List Int := (([1, 2, 3, 4, 5] : List Int).take k).filter fun m => xs.contains m
theorem ofK_end (xs : List Int) : ofK xs 5 = row (amg xs) := by
  unfold ofK row
  rw [List.take_of_length_le (by simp)]
  refine List.filter_congr fun m hm => ?_
  rw [inG_amg]
  have : 1 ≤ m ∧ m ≤ 5 := by simp at hm; omega
  rw [decide_eq_true this.1, decide_eq_true this.2]
  rfl
theorem ofK_succ (xs : List Int) {k : Nat} (h : k < 5) : ofK xs (k + 1) = ofK xs k ++ if xs.contains ((k : Int) + 1) = true then [(k : Int) + 1] else [] := by
  unfold ofK
  have : k = 0 ∨ k = 1 ∨ k = 2 ∨ k = 3 ∨ k = 4 := by omega
  rw [List.take_succ_eq_append_getElem (by simpa using h), List.filter_append]
  rcases this with rfl | rfl | rfl | rfl | rfl <;> simp [List.filter_cons] <;> rfl
theorem ofK_len (xs : List Int) (k : Nat) : (ofK xs k).length ≤ 5 := by
  unfold ofK
  refine Nat.le_trans (List.length_filter_le _ _) ?_
  rw [List.length_take]
  exact Nat.min_le_right _ _

set_option maxRecDepth 100000 in
set_option maxHeartbeats 4000000 in
theorem of_any (A : Option Addr) (n c B : Nat) (xs : List Int) (w : World) (h : Is w B A n xs) (hn : n ≤ 1000000) (hB : B ≤ w.heap.size) :
    Calls Tryd.prog 39 #[.agg #[.slice A n c]] w (Cfd w (row (amg xs))) := by
  have RH := Lib.hid (fun m W (hW : Below w.heap.size w W) => refhas_any m A n c B xs W (h.below (hW.mono hB)) hn (Nat.le_trans hB hW.size))
  clear h
  obtain ⟨W1, hW1⟩ : ∃ W1, ((w.alloc (.cells #[.slice A n c] 27)).alloc (.cells #[.slice none 0 0] 27)).alloc (.cells #[.slice none 0 0] 27) = W1 := ⟨_, rfl⟩
  have B0 : Hid (Blk W1 w.heap.size 27 #[.slice A n c]) := Lib.hid (by rw [← hW1]; exact ((Blk.new _ _ _).alloc _).alloc _)
  have B1 : Hid (Blk W1 (w.heap.size + 1) 27 #[.slice none 0 0]) := Lib.hid (by rw [← hW1]; exact (Blk.fresh (by simp)).alloc _)
  have B2 : Hid (Blk W1 (w.heap.size + 2) 27 #[.slice none 0 0]) := Lib.hid (by rw [← hW1]; exact Blk.fresh (by simp))
  have HB : Hid (Below w.heap.size w W1) := Lib.hid (by rw [← hW1]; exact (((Below.refl _ _).alloc (Nat.le_refl _) _).alloc (by simp) _).alloc (by simp; omega) _)
  have O0 : Hid (Ios W1 (w.heap.size + 3) none 0 0 (ofK xs 0)) := Lib.hid (World.ownsRow_nil _ _ _ _)
  have OS := Lib.hid (fun k (hk : k < 5) => ofK_succ xs hk)
  have OE := Lib.hid (ofK_end xs)
  have OL := Lib.hid (fun k => ofK_len xs k)
  subst hW1
  go_enter Tryd.func39, Tryd.ntmps39
  go_upto_region 2 with (fail)
  generalize ((w.alloc (.cells #[.slice A n c] 27)).alloc (.cells #[.slice none 0 0] 27)).alloc (.cells #[.slice none 0 0] 27) = W1 at *
  go_wp2
  go_loopw [4] (fun i wr => ∃ (k j : Nat) (A3 : Option Addr) (c3 : Nat), k ≤ 5 ∧ i = .int .i64 ((k : Int) + 1) ∧ j ≤ 5 ∧ Hid (Blk wr w.heap.size 27 #[.slice A n c]) ∧ Hid (Blk wr (w.heap.size + 1) 27 #[.slice none 0 0]) ∧ Hid (Blk wr (w.heap.size + 2) 27 #[.slice A3 j c3]) ∧ Hid (Ios wr (w.heap.size + 3) A3 j c3 (ofK xs k)) ∧ Hid (Below w.heap.size w wr)) (fun i _ => 6 - (intOf i).toNat)
  case atStart => exact ⟨0, 0, none, 0, Nat.zero_le _, rfl, Nat.zero_le _, B0, B1, B2, O0, HB⟩
  case round =>
    obtain ⟨k, j, A3, c3, hk, rfl, hj, I0, I1, I2, IO, IB⟩ := hrel
    have x0 : wr.cell? ⟨w.heap.size, 0, none⟩ = some (.slice A n c) := I0.out.cell 0
    by_cases hlt : k < 5
    · have SU := Lib.hid (OS.out k hlt)
      have HK := Lib.hid (RH.out ((k : Int) + 1) wr IB.out)
      have k0 : (0 : Int) ≤ (k : Int) := by omega
      have k5 : (k : Int) < 5 := by omega
      generalize xs.contains ((k : Int) + 1) = b at *
      cases b with
      | false =>
        have SE : Hid (ofK xs (k + 1) = ofK xs k) := Lib.hid (by rw [SU.out]; simp)
        go_wp2_with (go_at_call 16; refine HK.out.mono ?_; rintro e w2 ⟨rfl, hb⟩; have J0 := Lib.hid (I0.out.below hb I0.out.lt); have J1 := Lib.hid (I1.out.below hb I1.out.lt); have J2 := Lib.hid (I2.out.below hb I2.out.lt); have JO := Lib.hid (IO.out.below hb); have JB := Lib.hid (IB.out.trans (hb.mono IB.out.size)); clear hb)
        go_roundw
        case rel => exact ⟨k + 1, j, A3, c3, by omega, by go_num, hj, J0, J1, J2, Lib.hid (by rw [SE.out]; exact JO.out), JB⟩
        case measure => simp [intOf]; omega
      | true =>
        have SE : Hid (ofK xs (k + 1) = ofK xs k ++ [(k : Int) + 1]) := Lib.hid (by rw [SU.out]; simp)
        have JL : Hid (j < 5) := Lib.hid (by
          have h1 := IO.out.is_.1.1
          have h2 := OL.out (k + 1)
          rw [SE.out, List.length_append, h1] at h2
          simp at h2
          omega)
        have jj : j + 1 ≤ 1000000 := by omega
        go_wp2_with (first
          | (go_at_call 16; refine HK.out.mono ?_; rintro e w2 ⟨rfl, hb⟩; have J0 := Lib.hid (I0.out.below hb I0.out.lt); have J1 := Lib.hid (I1.out.below hb I1.out.lt); have J2 := Lib.hid (I2.out.below hb I2.out.lt); have JO := Lib.hid (IO.out.below hb); have JB := Lib.hid (IB.out.trans (hb.mono IB.out.size)); have WS : Hid (w.heap.size + 3 ≤ w2.heap.size) := Lib.hid (by have := J2.out.lt; omega); have x2 : w2.cell? ⟨w.heap.size + 2, 0, none⟩ = some (.slice A3 j c3) := J2.out.cell 0; have OA : Hid (Ios (w2.alloc (.cells #[.int .i64 ((k : Int) + 1)] 3)) (w.heap.size + 3) A3 j c3 (ofK xs k)) := Lib.hid (JO.out.below ((Below.refl _ _).alloc (Nat.le_refl _) _)); have LT : Hid (Is (w2.alloc (.cells #[.int .i64 ((k : Int) + 1)] 3)) (w2.heap.size + 1) (some ⟨w2.heap.size, 0, none⟩) 1 [(k : Int) + 1]) := Lib.hid (Is.lit rfl rfl); clear hb)
          | (at_builtin; refine append_is rfl (.tmp 13) (.tmp 15) rfl (w.heap.size + 3) A3 j c3 (ofK xs k) rfl OA.out (w2.heap.size + 1) (some ⟨w2.heap.size, 0, none⟩) 1 1 [(k : Int) + 1] rfl LT.out (fun e => by cases e) jj (by have := WS.out; simp; omega) ?_; intro A5 c5 w5 ho5 hg5; have O5 := Lib.hid ho5; have G5 := Lib.hid hg5; have B5 : Hid (Blk w5 (w.heap.size + 2) 27 #[.slice A3 j c3]) := Lib.hid ((hg5.block (w.heap.size + 2) (by have := WS.out; simp; omega) (fun e => by have := (OA.out.lt _ e.symm).1; omega)).trans (J2.out.alloc _)); have B6 : Hid (Blk w5 (w.heap.size + 1) 27 #[.slice none 0 0]) := Lib.hid ((hg5.block (w.heap.size + 1) (by have := WS.out; simp; omega) (fun e => by have := (OA.out.lt _ e.symm).1; omega)).trans (J1.out.alloc _)); have B7 : Hid (Blk w5 w.heap.size 27 #[.slice A n c]) := Lib.hid ((hg5.block w.heap.size (by have := WS.out; simp; omega) (fun e => by have := (OA.out.lt _ e.symm).1; omega)).trans (J0.out.alloc _)); have d5 : w5.cell? ⟨w.heap.size + 2, 0, none⟩ = some (.slice A3 j c3) := B5.out.cell 0; have f5 : w5.frozen? ⟨w.heap.size + 2, 0, none⟩ = false := B5.out.frozen 0; clear ho5 hg5))
        go_roundw
        case rel =>
          refine ⟨k + 1, j + 1, A5, c5, by omega, by go_num, by have := JL.out; omega, Lib.hid (B7.out.far (by show w.heap.size ≠ w.heap.size + 2; omega) _), Lib.hid (B6.out.far (by show w.heap.size + 1 ≠ w.heap.size + 2; omega) _), Lib.hid (B5.out.set_ 0 _), Lib.hid ?_, Lib.hid ?_⟩
          · rw [SE.out]
            exact O5.out.setFar (p := ⟨w.heap.size + 2, 0, none⟩) (by show w.heap.size + 2 < w.heap.size + 3; omega) _
          · exact ((JB.out.alloc (by have := WS.out; omega) _).grown G5.out (by have := WS.out; simp; omega) (fun j hj => by have := (OA.out.lt _ hj).1; omega)).setCell (p := ⟨w.heap.size + 2, 0, none⟩) (by show w.heap.size ≤ w.heap.size + 2; omega) _
        case measure => simp [intOf]; omega
    · obtain rfl : k = 5 := by omega
      have x2 : wr.cell? ⟨w.heap.size + 2, 0, none⟩ = some (.slice A3 j c3) := I2.out.cell 0
      have x1 : wr.cell? ⟨w.heap.size + 1, 0, none⟩ = some (.slice none 0 0) := I1.out.cell 0
      have f1 : wr.frozen? ⟨w.heap.size + 1, 0, none⟩ = false := I1.out.frozen 0
      have IO2 : Hid (Ios wr (w.heap.size + 3) A3 j c3 (row (amg xs))) := Lib.hid (by rw [← OE.out]; exact IO.out)
      go_wp2
      exact bodyPost_ret (ret27 rfl _ _ (w.heap.size + 1) _ rfl (I1.out.set_ 0 _)) rfl ⟨A3, j, c3, rfl, ints_mi ((IO2.out.setFar (p := ⟨w.heap.size + 1, 0, none⟩) (by show w.heap.size + 1 < w.heap.size + 3; omega) _).down (by omega)), hj, IB.out.setCell (p := ⟨w.heap.size + 1, 0, none⟩) (by show w.heap.size ≤ w.heap.size + 1; omega) _⟩

def rMaj (xs set : List Int) : Bool := decide (xs.length < 2 * (xs.filter fun m => set.contains m).length)
theorem cntS_take {xs set : List Int} {k : Nat} (h : k < xs.length) : ((xs.take (k + 1)).filter fun m => set.contains m).length = ((xs.take k).filter fun m => set.contains m).length + if set.contains (xs.getD k 0) = true then 1 else 0 := by
  rw [List.take_succ_eq_append_getElem h, List.filter_append, List.length_append]
  have e : xs.getD k 0 = xs[k] := by simp [List.getD, h]
  rw [e]
  by_cases hp : set.contains xs[k] = true
  · rw [if_pos hp, List.filter_cons, if_pos hp]
    rfl
  · rw [if_neg hp, List.filter_cons, if_neg hp]
    rfl
theorem rMaj_right {xs set : List Int} (h : grp xs ≠ 0) : rMaj xs set = majB xs set := by
  have hx := of_grp h
  unfold rMaj majB mostB cntB pop
  have e : (xs.filter fun m => set.contains m) = (row (grp xs)).filter (inG (amg set)) := by
    rw [← hx]
    refine List.filter_congr fun m hm => ?_
    rw [hx] at hm
    obtain ⟨h1, h5⟩ := inG_range (mem_row.1 hm)
    rw [inG_amg, decide_eq_true h1, decide_eq_true h5]
    rfl
  rw [e, ← hx]
set_option maxHeartbeats 2000000 in
theorem refmaj_any (A2 : Option Addr) (n2 c2 B2 : Nat) (set : List Int) (A : Option Addr) (n c B : Nat) (xs : List Int) (w : World) (h : Is w B A n xs) (hn : n ≤ 1000000) (hB : B ≤ w.heap.size) (h2 : Is w B2 A2 n2 set) (hn2 : n2 ≤ 1000000) (hB2 : B2 ≤ w.heap.size) :
    Calls Tryd.prog 20 #[.agg #[.slice A n c], .slice A2 n2 c2] w fun e w' => e = .returned (.bool (rMaj xs set)) ∧ Below w.heap.size w w' := by
  have HB : Hid (Below w.heap.size w (w.alloc (.cells #[.slice A n c] 27))) := Lib.hid ((Below.refl _ _).alloc (Nat.le_refl _) _)
  have HL := Lib.hid h.1
  have H := Lib.hid (fun W (hW : Below w.heap.size w W) => (h.below (hW.mono hB)).2)
  have RH := Lib.hid (fun m W (hW : Below w.heap.size w W) => refhas_any m A2 n2 c2 B2 set W (h2.below (hW.mono hB2)) hn2 (Nat.le_trans hB2 hW.size))
  have CS := Lib.hid (fun k (hk : k < xs.length) => cntS_take (set := set) hk)
  have E : Hid (rMaj xs set = decide (n < 2 * ((xs.take n).filter fun m => set.contains m).length)) := Lib.hid (by unfold rMaj; rw [List.take_of_length_le (by rw [h.1]; omega), h.1])
  have CL : Hid (∀ k, k ≤ n → ((xs.take k).filter fun m => set.contains m).length ≤ k) := Lib.hid (fun k hk => Nat.le_trans (List.length_filter_le _ _) (by rw [List.length_take]; omega))
  clear h h2
  obtain ⟨CN, hCN⟩ : ∃ CN : Nat → Nat, CN = fun k => ((xs.take k).filter fun m => set.contains m).length := ⟨_, rfl⟩
  have CS' : Hid (∀ k, k < n → CN (k + 1) = CN k + if set.contains (xs.getD k 0) = true then 1 else 0) := Lib.hid (fun k hk => by rw [hCN]; exact CS.out k (by rw [HL.out]; exact hk))
  have E' : Hid (rMaj xs set = decide (n < 2 * CN n)) := Lib.hid (by rw [hCN]; exact E.out)
  have CL' : Hid (∀ k, k ≤ n → CN k ≤ k) := Lib.hid (by rw [hCN]; exact CL.out)
  have C0 : Hid (CN 0 = 0) := Lib.hid (by rw [hCN]; rfl)
  clear hCN CS E CL
  generalize rMaj xs set = R at *
  go_enter Tryd.func20, Tryd.ntmps20
  go_wp2
  go_loopw [5, 14] (fun v i wr => ∃ (k : Nat), k ≤ n ∧ i = .int .i64 k ∧ v = .int .i64 ((n : Int) - 2 * (CN k : Int)) ∧ Hid (Below w.heap.size w wr)) (fun _ i _ => n - (intOf i).toNat)
  case atStart => exact ⟨0, Nat.zero_le _, rfl, by rw [C0.out]; simp, HB⟩
  case round =>
    obtain ⟨k, hk, rfl, rfl, IB⟩ := hrel
    have cl := CL'.out k hk
    by_cases hlt : k < n
    · obtain ⟨b, o, rfl, hb, hc⟩ := H.out _ IB.out (by omega)
      have c1 := hc k hlt
      have k0 : (0 : Int) ≤ (k : Int) := by omega
      have cs := CS'.out k hlt
      clear hc
      generalize xs.getD k 0 = z at *
      have HK := Lib.hid (RH.out z wr IB.out)
      obtain ⟨c', hc'⟩ : ∃ c', CN (k + 1) = c' := ⟨_, rfl⟩
      rw [hc'] at cs
      have HC := Lib.hid hc'
      clear hc'
      generalize CN k = cn at *
      have l0 : -9223372036854775808 ≤ (n : Int) - 2 * (cn : Int) - 2 := by omega
      have l1 : (n : Int) - 2 * (cn : Int) - 2 ≤ 9223372036854775807 := by omega
      have HW : Hid (IntKind.i64.wrap ((n : Int) - 2 * (cn : Int) - 2) = (n : Int) - 2 * ((cn + 1 : Nat) : Int)) := Lib.hid (by rw [IntKind.wrap_i64]; omega)
      generalize set.contains z = sb at *
      cases sb with
      | true =>
        have CE : Hid (CN (k + 1) = cn + 1) := Lib.hid (by rw [HC.out, cs]; simp)
        clear cs HC
        go_wp2_with (go_at_call 16; refine HK.out.mono ?_; rintro e w2 ⟨rfl, hb⟩; have JB := Lib.hid (IB.out.trans (hb.mono IB.out.size)); clear hb)
        go_roundw
        case rel => exact ⟨k + 1, by omega, by go_num, by rw [CE.out]; first | (rw [HW.out]) | (refine congrArg (Value.int .i64) ?_; omega), JB⟩
        case measure => simp [intOf]; omega
      | false =>
        have CE : Hid (CN (k + 1) = cn) := Lib.hid (by rw [HC.out, cs]; simp)
        clear cs HC
        go_wp2_with (go_at_call 16; refine HK.out.mono ?_; rintro e w2 ⟨rfl, hb⟩; have JB := Lib.hid (IB.out.trans (hb.mono IB.out.size)); clear hb)
        go_roundw
        case rel => exact ⟨k + 1, by omega, by go_num, by rw [CE.out], JB⟩
        case measure => simp [intOf]; omega
    · obtain rfl : k = n := by omega
      generalize CN k = cn at *
      have ht : Hid (R = decide ((k : Int) - 2 * (cn : Int) < 0)) := Lib.hid (by rw [E'.out]; exact decide_eq_decide.2 (by omega))
      clear E'
      go_wp2
      go_ret
      exact ⟨ret_bool ht.out.symm, IB.out⟩

/-- May members be, by the document. -/
def rightC (xs : List Int) : Bool := decide (grp xs ≠ 0)
theorem right_pos {xs : List Int} (h : xs.length ≠ 0) : rightC xs = (xs == row (amg xs)) := by
  unfold rightC grp
  by_cases he : xs = row (amg xs)
  · rw [if_pos he]
    have : amg xs ≠ 0 := fun e => by
      rw [e, row_zero] at he
      rw [he] at h
      exact h rfl
    rw [decide_eq_true this]
    exact (beq_iff_eq.2 he).symm
  · rw [if_neg he]
    have : (xs == row (amg xs)) = false := by simpa using he
    rw [this]
    rfl
theorem right_zero {xs : List Int} (h : xs.length = 0) : rightC xs = false := by
  obtain rfl := List.eq_nil_of_length_eq_zero h
  decide
set_option maxRecDepth 100000 in
set_option maxHeartbeats 4000000 in
theorem right_any (A : Option Addr) (n c B : Nat) (xs : List Int) (w : World) (h : Is w B A n xs) (hn : n ≤ 1000000) (hB : B ≤ w.heap.size) :
    Calls Tryd.prog 13 #[.agg #[.slice A n c]] w fun e w' => e = .returned (.bool (rightC xs)) ∧ Below w.heap.size w w' := by
  have HB : Hid (Below w.heap.size w (w.alloc (.cells #[.slice A n c] 27))) := Lib.hid ((Below.refl _ _).alloc (Nat.le_refl _) _)
  have B0 : Hid (Blk (w.alloc (.cells #[.slice A n c] 27)) w.heap.size 27 #[.slice A n c]) := Lib.hid (Blk.new _ _ _)
  have OF := Lib.hid (fun W (hW : Below w.heap.size w W) => of_any A n c B xs W (h.below (hW.mono hB)) hn (Nat.le_trans hB hW.size))
  have SA := Lib.hid (fun A2 n2 c2 W (hW : Below w.heap.size w W) (h2 : Is W W.heap.size A2 n2 (row (amg xs))) (hn2 : n2 ≤ 5) => refsame_any A A2 n c n2 c2 B _ xs (row (amg xs)) W (h.below (hW.mono hB)) h2 hn (by omega) (Nat.le_trans hB hW.size) (Nat.le_refl _))
  have HL := Lib.hid h.1
  by_cases h0 : n = 0
  · have hr := right_zero (xs := xs) (by rw [h.1]; exact h0)
    rw [hr]
    subst h0
    clear h hr
    go_enter Tryd.func13, Tryd.ntmps13
    go_upto_region 1 with (fail)
    generalize w.alloc (.cells #[.slice A 0 c] 27) = W1 at *
    have x0 : W1.drew.cell? ⟨w.heap.size, 0, none⟩ = some (.slice A 0 c) := (B0.out.drewN 1).cell 0
    refine wp_region_noPanic ?_
    refine wp_region_held_drew (S := fun w' => w'.cell? ⟨w.heap.size, 0, none⟩ = some (.slice A 0 c)) (by kernel_rfl) x0 (fun hHeld => ?_)
    refine take_d (i := 0) (d := 3) (v := ?a3) rfl rfl (by kernel_rfl) (by kernel_rfl) (by kernel_rfl) (fun _ _ _ h => h) (Or.inl ⟨by kernel_rfl, ?a3h⟩) hHeld ?a3n
    case a3h => (intro w hSw; (try dsimp only at hSw); go_split_ands; go_simp; (try exact rfl))
    try simp only [Act.put, List.setIfInBounds_toArray, List.set_cons_zero, List.set_cons_succ]
    refine take_d (i := 1) (d := 4) (v := ?a4) rfl rfl (by kernel_rfl) (by kernel_rfl) (by kernel_rfl) (fun _ _ _ h => h) (Or.inl ⟨by kernel_rfl, ?a4h⟩) hHeld ?a4n
    case a4h => (intro w hSw; (try dsimp only at hSw); go_split_ands; go_simp; (try exact rfl))
    try simp only [Act.put, List.setIfInBounds_toArray, List.set_cons_zero, List.set_cons_succ]
    refine take_d (i := 2) (d := 5) (v := ?a5) rfl rfl (by kernel_rfl) (by kernel_rfl) (by kernel_rfl) (fun _ _ _ h => h) (Or.inl ⟨by kernel_rfl, ?a5h⟩) hHeld ?a5n
    case a5h => (intro w hSw; (try dsimp only at hSw); go_split_ands; go_simp; (try exact rfl))
    try simp only [Act.put, List.setIfInBounds_toArray, List.set_cons_zero, List.set_cons_succ]
    refine take_d (i := 3) (d := 6) (v := ?a6) rfl rfl (by kernel_rfl) (by kernel_rfl) (by kernel_rfl) (fun _ _ _ h => h) (Or.inl ⟨by kernel_rfl, ?a6h⟩) hHeld ?a6n
    case a6h => (intro w hSw; (try dsimp only at hSw); go_split_ands; go_simp; (try exact rfl))
    try simp only [Act.put, List.setIfInBounds_toArray, List.set_cons_zero, List.set_cons_succ]
    refine take_d (i := 4) (d := 7) (v := ?a7) rfl rfl (by kernel_rfl) (by kernel_rfl) (by kernel_rfl) (fun _ _ _ h => h) (Or.inl ⟨by kernel_rfl, ?a7h⟩) hHeld ?a7n
    case a7h => (intro w hSw; (try dsimp only at hSw); go_split_ands; go_simp; (try exact rfl))
    try simp only [Act.put, List.setIfInBounds_toArray, List.set_cons_zero, List.set_cons_succ]
    refine take_d (i := 5) (d := 8) (v := undef) rfl rfl (by kernel_rfl) (by kernel_rfl) (by kernel_rfl) (fun _ _ _ h => h) (Or.inr ⟨by kernel_rfl, rfl⟩) hHeld ?_
    try simp only [Act.put, List.setIfInBounds_toArray, List.set_cons_zero, List.set_cons_succ]
    refine take_d (i := 6) (d := 9) (v := undef) rfl rfl (by kernel_rfl) (by kernel_rfl) (by kernel_rfl) (fun _ _ _ h => h) (Or.inr ⟨by kernel_rfl, rfl⟩) hHeld ?_
    try simp only [Act.put, List.setIfInBounds_toArray, List.set_cons_zero, List.set_cons_succ]
    refine take_d (i := 7) (d := 10) (v := undef) rfl rfl (by kernel_rfl) (by kernel_rfl) (by kernel_rfl) (fun _ _ _ h => h) (Or.inr ⟨by kernel_rfl, rfl⟩) hHeld ?_
    try simp only [Act.put, List.setIfInBounds_toArray, List.set_cons_zero, List.set_cons_succ]
    refine take_d (i := 8) (d := 11) (v := undef) rfl rfl (by kernel_rfl) (by kernel_rfl) (by kernel_rfl) (fun _ _ _ h => h) (Or.inr ⟨by kernel_rfl, rfl⟩) hHeld ?_
    try simp only [Act.put, List.setIfInBounds_toArray, List.set_cons_zero, List.set_cons_succ]
    refine take_d (i := 9) (d := 12) (v := ?a12) rfl rfl (by kernel_rfl) (by kernel_rfl) (by kernel_rfl) (fun _ _ _ h => h) (Or.inl ⟨by kernel_rfl, ?a12h⟩) hHeld ?a12n
    case a12h => (intro w hSw; (try dsimp only at hSw); go_split_ands; go_simp; (try exact rfl))
    try simp only [Act.put, List.setIfInBounds_toArray, List.set_cons_zero, List.set_cons_succ]
    refine take_d (i := 10) (d := 2) (v := ?a2) rfl rfl (by kernel_rfl) (by kernel_rfl) (by kernel_rfl) (fun _ _ _ h => h) (Or.inl ⟨by kernel_rfl, ?a2h⟩) hHeld ?a2n
    case a2h => (intro w hSw; (try dsimp only at hSw); go_split_ands; go_simp; (try exact rfl))
    try simp only [Act.put, List.setIfInBounds_toArray, List.set_cons_zero, List.set_cons_succ]
    refine wpAnyH_done (by kernel_rfl) ?_ _
    refine NoPanic.normal ?_
    go_wp2
    go_ret
    exact ⟨rfl, HB.out.drew⟩
  · have hr := right_pos (xs := xs) (by rw [h.1]; exact h0)
    rw [hr]
    have hp : (0 : Int) < (n : Int) := by omega
    have hpn : 0 < n := by omega
    have hp2 : decide ((0 : Int) < (n : Int)) = true := decide_eq_true hp
    generalize row (amg xs) = R at *
    clear h hr
    go_enter Tryd.func13, Tryd.ntmps13
    go_upto_region 1 with (fail)
    generalize w.alloc (.cells #[.slice A n c] 27) = W1 at *
    have x0 : W1.drew.cell? ⟨w.heap.size, 0, none⟩ = some (.slice A n c) := (B0.out.drewN 1).cell 0
    refine wp_region_noPanic ?_
    refine wp_region_held_drew (S := fun w' => w'.cell? ⟨w.heap.size, 0, none⟩ = some (.slice A n c)) (by kernel_rfl) x0 (fun hHeld => ?_)
    refine take_d (i := 0) (d := 3) (v := ?b3) rfl rfl (by kernel_rfl) (by kernel_rfl) (by kernel_rfl) (fun _ _ _ h => h) (Or.inl ⟨by kernel_rfl, ?b3h⟩) hHeld ?b3n
    case b3h => (intro w hSw; (try dsimp only at hSw); go_split_ands; go_simp; (try exact rfl))
    try simp only [Act.put, List.setIfInBounds_toArray, List.set_cons_zero, List.set_cons_succ]
    refine take_d (i := 1) (d := 4) (v := ?b4) rfl rfl (by kernel_rfl) (by kernel_rfl) (by kernel_rfl) (fun _ _ _ h => h) (Or.inl ⟨by kernel_rfl, ?b4h⟩) hHeld ?b4n
    case b4h => (intro w hSw; (try dsimp only at hSw); go_split_ands; go_simp; (try exact rfl))
    try simp only [Act.put, List.setIfInBounds_toArray, List.set_cons_zero, List.set_cons_succ]
    refine take_d (i := 2) (d := 5) (v := ?b5) rfl rfl (by kernel_rfl) (by kernel_rfl) (by kernel_rfl) (fun _ _ _ h => h) (Or.inl ⟨by kernel_rfl, ?b5h⟩) hHeld ?b5n
    case b5h => (intro w hSw; (try dsimp only at hSw); go_split_ands; go_simp; (try exact rfl))
    try simp only [Act.put, List.setIfInBounds_toArray, List.set_cons_zero, List.set_cons_succ]
    refine take_d (i := 3) (d := 6) (v := .bool true) rfl rfl (by kernel_rfl) (by kernel_rfl) (by kernel_rfl) (fun _ _ _ h => h) (Or.inl ⟨by kernel_rfl, ?b6h⟩) hHeld ?_
    case b6h => (intro w hSw; (try dsimp only at hSw); go_split_ands; go_simp)
    try simp only [Act.put, List.setIfInBounds_toArray, List.set_cons_zero, List.set_cons_succ]
    refine take_d (i := 4) (d := 7) (v := .bool true) rfl rfl (by kernel_rfl) (by kernel_rfl) (by kernel_rfl) (fun _ _ _ h => h) (Or.inl ⟨by kernel_rfl, ?b7h⟩) hHeld ?_
    case b7h => (intro w hSw; (try dsimp only at hSw); go_split_ands; go_simp)
    try simp only [Act.put, List.setIfInBounds_toArray, List.set_cons_zero, List.set_cons_succ]
    refine take_d (i := 5) (d := 8) (v := ?b8) rfl rfl (by kernel_rfl) (by kernel_rfl) (by kernel_rfl) (fun _ _ _ h => h) (Or.inl ⟨by kernel_rfl, ?b8h⟩) hHeld ?b8n
    case b8h => (intro w hSw; (try dsimp only at hSw); go_split_ands; go_simp; (try exact rfl))
    try simp only [Act.put, List.setIfInBounds_toArray, List.set_cons_zero, List.set_cons_succ]
    refine take_d (i := 6) (d := 9) (v := ?b9) rfl rfl (by kernel_rfl) (by kernel_rfl) (by kernel_rfl) (fun _ _ _ h => h) (Or.inl ⟨by kernel_rfl, ?b9h⟩) hHeld ?b9n
    case b9h => (intro w hSw; (try dsimp only at hSw); go_split_ands; go_simp; (try exact rfl))
    try simp only [Act.put, List.setIfInBounds_toArray, List.set_cons_zero, List.set_cons_succ]
    refine wpAnyH_ready (rs := [7]) (by kernel_rfl) (by simp) ?_
    refine AllReadyH.cons rfl (fun K hK => ?_) AllReadyH.nil
    go_simp
    try rw [if_pos (Nat.pos_of_ne_zero h0)]
    refine (OF.out _ HB.out.drew).mono ?_
    rintro e w2 ⟨A2, n2, c2, rfl, hm, hn2, hb2⟩
    have B2 := Lib.hid ((B0.out.drewN 1).below hb2 B0.out.lt)
    have HB2 := Lib.hid (HB.out.drew.trans (hb2.mono HB.out.size))
    have M2 := Lib.hid hm.is_
    have N2 := Lib.hid hn2
    clear hm hn2 hb2
    refine hK.out _ _ (B2.out.cell 0) (fun hHeld => ?_)
    clear hK K
    try simp only [Act.put, List.setIfInBounds_toArray, List.set_cons_zero, List.set_cons_succ]
    refine wpAnyH_ready (rs := [8]) (by kernel_rfl) (by simp) ?_
    refine AllReadyH.cons rfl (fun K hK => ?_) AllReadyH.nil
    go_simp
    try rw [if_pos (Nat.pos_of_ne_zero h0)]
    refine (SA.out _ _ _ _ HB2.out M2.out N2.out).mono ?_
    rintro e w3 ⟨rfl, hb3⟩
    have HB3 := Lib.hid (HB2.out.trans (hb3.mono HB2.out.size))
    have B3 := Lib.hid (B2.out.below hb3 B2.out.lt)
    clear hb3
    refine hK.out _ _ (B3.out.cell 0) (fun hHeld => ?_)
    clear hK K
    try simp only [Act.put, List.setIfInBounds_toArray, List.set_cons_zero, List.set_cons_succ]
    refine take_d (i := 9) (d := 12) (v := ?b12) rfl rfl (by kernel_rfl) (by kernel_rfl) (by kernel_rfl) (fun _ _ _ h => h) (Or.inl ⟨by kernel_rfl, ?b12h⟩) hHeld ?b12n
    case b12h => (intro w hSw; (try dsimp only at hSw); go_split_ands; go_simp; (try exact rfl))
    try simp only [Act.put, List.setIfInBounds_toArray, List.set_cons_zero, List.set_cons_succ]
    refine take_d (i := 10) (d := 2) (v := ?b2) rfl rfl (by kernel_rfl) (by kernel_rfl) (by kernel_rfl) (fun _ _ _ h => h) (Or.inl ⟨by kernel_rfl, ?b2h⟩) hHeld ?b2n
    case b2h => (intro w hSw; (try dsimp only at hSw); go_split_ands; go_simp; (try exact rfl))
    try simp only [Act.put, List.setIfInBounds_toArray, List.set_cons_zero, List.set_cons_succ]
    refine wpAnyH_done (by kernel_rfl) ?_ _
    refine NoPanic.normal ?_
    go_wp2
    go_ret
    exact ⟨rfl, HB3.out⟩

end Go.Proofs.YtfclppopelmdgaaDoor
