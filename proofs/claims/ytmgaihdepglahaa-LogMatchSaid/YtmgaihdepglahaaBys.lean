/-
  Bytes in memory without a Reader: cuts, copies, append, which are the same.
-/
import Derived.Test.YtmgaihdepglahaaProg
import Derived.WalkKit
import Derived.WalkSpells
import Derived.WalkLawsBesides
import Derived.Lib.Hide
import Derived.Deep.QuietTactic
import Derived.BigQuiet
import Derived.Laws.AppendOwnNone
import Derived.Shelf.Bytes.SlEqualAll
import Derived.Test.YtmgaihdepglahaaWords
namespace Go.Proofs.Ytmgaihdepglahaa
open Go.RowKit

theorem set_drewN (w : World) (a : Addr) (v : Value) (q r : Nat) : ((w.drewN q).setCell a v).drewN r = (w.setCell a v).drewN (q + r) := by
  rw [← World.drewN_drewN]; rfl

/-- The bytes behind a cut. -/
theorem By.cut {w : World} {B : Nat} {A : Option Addr} {n : Nat} {zs : List Int} (h : By w B A n zs) {k m c : Nat} (hm : m ≤ n - k) (hk : k ≤ n) (hc : n ≤ c) :
    By w B (if c = k then A else A.map (·.add k)) m ((zs.drop k).take m) := by
  refine ⟨by rw [List.length_take, List.length_drop, h.1]; omega, fun j => ?_, fun hp => ?_⟩
  · have := h.2.1 (k + j)
    by_cases hj : j < m
    · simpa [List.getD, List.getElem?_take, hj] using this
    · simp [List.getD, List.getElem?_take, hj]
  · obtain ⟨b, o, rfl, hb, hcell⟩ := h.2.2 (by omega)
    rw [if_neg (by omega)]
    refine ⟨b, o + k, ?_, hb, fun j hj => ?_⟩
    · by_cases h0 : k = 0 <;> simp [Addr.add, h0]
    · rw [Nat.add_assoc, hcell (k + j) (by omega)]
      simp [List.getD, hj]


/-- All are bytes. -/
def Bs (zs : List Int) : Prop := ∀ j, 0 ≤ zs.getD j 0 ∧ zs.getD j 0 ≤ 255

/-- The slice holds the bytes zs in a row of its own, in a block from base on. -/
def Own (w : World) (base : Nat) (A : Option Addr) (n c : Nat) (zs : List Int) : Prop := w.ownsRow base 5 1 (.slice A n c) n (zs.map (Value.int .u8)) ∧ Bs zs

section
variable {w w' : World} {base n c : Nat} {A : Option Addr} {zs : List Int}
theorem Own.len (h : Own w base A n c zs) : zs.length = n := by simpa using h.1.1
theorem Own.form (h : Own w base A n c zs) : (A = none ∧ n = 0 ∧ c = 0) ∨ ∃ g, A = some ⟨g, 0, none⟩ ∧ base ≤ g ∧ g < w.heap.size ∧ n ≤ c := by
  rcases h.1.2 with ⟨hv, hn⟩ | ⟨g, cap, cur, hv, hb, hh, hnc, _⟩
  · injection hv with h1 h2 h3
    exact .inl ⟨h1, hn, h3⟩
  · injection hv with h1 h2 h3
    exact .inr ⟨g, h1, hb, Blk.lt (t := 5) hh, by omega⟩
theorem Own.cap (h : Own w base A n c zs) : n ≤ c := by
  rcases h.form with ⟨_, h1, h2⟩ | ⟨g, _, _, _, h1⟩ <;> omega
theorem Own.nil (h : Own w base A n c zs) (hA : A = none) : c = 0 := by
  rcases h.form with ⟨_, _, h2⟩ | ⟨g, h1, _⟩
  · exact h2
  · rw [hA] at h1; cases h1
theorem Own.at_ (h : Own w base A n c zs) {g : Nat} (hA : A = some ⟨g, 0, none⟩) (j : Nat) (hj : j < n) : w.cell? ⟨g, j, none⟩ = some (.int .u8 (zs.getD j 0)) := by
  subst hA
  rw [h.1.cellAt j (by omega)]
  have : j < zs.length := by rw [h.len]; exact hj
  simp [List.getD, this]
theorem Own.by (h : Own w base A n c zs) : By w w.heap.size A n zs := by
  refine ⟨h.len, h.2, fun hn => ?_⟩
  rcases h.form with ⟨_, h1, _⟩ | ⟨g, hA, _, hg, _⟩
  · omega
  · exact ⟨g, 0, hA, hg, fun j hj => by rw [Nat.zero_add]; exact h.at_ hA j hj⟩
theorem Own.below (h : Own w base A n c zs) (hb : Below w.heap.size w w') : Own w' base A n c zs := by
  refine ⟨⟨h.1.1, ?_⟩, h.2⟩
  rcases h.1.2 with hv | ⟨g, cap, cur, hv, hbs, hh, r⟩
  · exact .inl hv
  · exact .inr ⟨g, cap, cur, hv, hbs, (hb.block g (Blk.lt (t := 5) hh)).trans hh, r⟩
theorem Own.down (h : Own w base A n c zs) {base' : Nat} (hb : base' ≤ base) : Own w base' A n c zs := by
  refine ⟨⟨h.1.1, ?_⟩, h.2⟩
  rcases h.1.2 with hv | ⟨g, cap, cur, hv, hbs, r⟩
  · exact .inl hv
  · exact .inr ⟨g, cap, cur, hv, by omega, r⟩
theorem Own.of_row {v : Value} (h : w.ownsRow base 5 1 v n (zs.map (Value.int .u8))) (hb : Bs zs) : ∃ A c, v = .slice A n c ∧ Own w base A n c zs := by
  rcases h.2 with ⟨rfl, rfl⟩ | ⟨g, cap, cur, rfl, r⟩
  · exact ⟨_, _, rfl, h, hb⟩
  · exact ⟨_, _, rfl, h, hb⟩
theorem By.bs {B : Nat} (h : By w B A n zs) : Bs zs := h.2.1
end

theorem Try.info5 : (Try.prog.info? 5).map (fun i => (i.zero, i.size, i.bytes)) = some (some (.int .u8 0), 1, 1) := by kernel_rfl

/-- What a copy leaves. -/
def Cloned (w : World) (n : Nat) (zs : List Int) (e : Ending) (w' : World) : Prop := ∃ A c, e = .returned (.slice A n c) ∧ Own w' w.heap.size A n c zs ∧ Below w.heap.size w w'




set_option maxHeartbeats 400000 in
theorem bclone_at (a : Addr) (n c : Nat) (xs : List Int) (w : World) (hx : xs.length = n) (hbs : Bs xs) (hbig : n ≤ 140737488355328) (hc : ∀ i, i < n → w.cell? (a.add i) = some (.int .u8 (xs.getD i 0))) :
    Calls Try.prog 63 #[.slice (some a) n c] w (Cloned w n xs) := by
  obtain ⟨i0, hi, hz0, hz1, hz2⟩ := info_parts Try.info5
  have q22 : ∀ (w : World) (a : Option Addr) (n c n' c' : Nat), (binOp .eql 52 (.slice a n c) (.slice none n' c')).run Try.prog w = .ok (.bool a.isNone) w := fun w a n c n' c' => Lib.run_eql_slice_nil w _ _ a n c n' c' Try.underlying52
  have A := Lib.hid hc
  have hx' := Lib.hid hx
  have hb := Lib.hid hbs
  clear hc hx hbs
  go_enter Try.func63, Try.ntmps63
  go_wp2_with (at_builtin; refine wpList_append_own _ rfl _ _ 52 rfl w.heap.size 5 i0 (.int .u8 0) 1 1 Try.underlying52 hi hz0 hz1 hz2 rfl (by decide) _ _ _ rfl (World.ownsRow_made w #[] 0 (Nat.le_refl _) (Nat.zero_le _) rfl) a n c (xs.map (Value.int .u8)) rfl ?qc1 ?qc2 ?qc3 ?qc4 ?qc5 ?qc6 ?_)
  case qc1 => have := hx'.out; simp; omega
  case qc2 =>
    have hx := hx'.out
    intro j u hj
    have hjn : j < n := by
      have := (List.getElem?_eq_some_iff.1 hj).1
      simp at this
      omega
    refine Lib.cell?_alloc_some _ ?_
    rw [A.out j hjn]
    have e : (xs.map (Value.int .u8))[j]? = some (Value.int .u8 (xs.getD j 0)) := by simp [List.getD, List.getElem?_eq_getElem (show j < xs.length by omega)]
    rw [e] at hj
    exact hj
  case qc3 => intro u hu; obtain ⟨x, _, rfl⟩ := List.mem_map.1 hu; rfl
  case qc4 => unfold maxLen; omega
  case qc5 => omega
  case qc6 => simp
  intro v' w1 hown hgrow hnil
  go_wp2
  go_ret
  obtain ⟨A', c', rfl, ho⟩ := Own.of_row (zs := xs) (n := n) (by simpa using hown) hb.out
  exact ⟨A', c', rfl, ho, ((Below.refl _ w).alloc (Nat.le_refl _) _).grown hgrow (by simp) (by intro k hk; simp [Value.ownBlock] at hk; omega)⟩

theorem bclone_nil (n c : Nat) (w : World) : Calls Try.prog 63 #[.slice none n c] w fun e w' => e = .returned (.slice none 0 0) ∧ w = w' := by
  have q22 : ∀ (w : World) (a : Option Addr) (n c n' c' : Nat), (binOp .eql 52 (.slice a n c) (.slice none n' c')).run Try.prog w = .ok (.bool a.isNone) w := fun w a n c n' c' => Lib.run_eql_slice_nil w _ _ a n c n' c' Try.underlying52
  go_enter Try.func63, Try.ntmps63
  go_wp2
  go_ret
  exact ⟨rfl, rfl⟩

theorem bclone_any (A : Option Addr) (n c : Nat) (zs : List Int) (w : World) (B : Nat) (h : By w B A n zs) (hbig : n ≤ 140737488355328) :
    Calls Try.prog 63 #[.slice A n c] w (Cloned w n zs) := by
  cases A with
  | none =>
    obtain rfl : n = 0 := by
      rcases Nat.eq_zero_or_pos n with h0 | h0
      · exact h0
      · obtain ⟨b, o, hA, _⟩ := h.2.2 h0
        cases hA
    obtain rfl : zs = [] := List.eq_nil_of_length_eq_zero h.1
    refine (bclone_nil 0 c w).mono ?_
    rintro e w' ⟨rfl, rfl⟩
    exact ⟨none, 0, rfl, ⟨World.ownsRow_nil _ _ _ _, h.bs⟩, Below.refl _ _⟩
  | some a =>
    refine bclone_at a n c zs w h.1 h.bs hbig fun i hi => ?_
    obtain ⟨b, o, hA, _, hc⟩ := h.2.2 (by omega)
    injection hA with hA
    subst hA
    rw [← hc i hi]
    by_cases h0 : i = 0 <;> simp [Addr.add, h0]


theorem Bs.take {zs : List Int} (h : Bs zs) (k : Nat) : Bs (zs.take k) := fun j => by
  have := h j
  simp only [List.getD, List.getElem?_take] at this ⊢
  split
  · exact this
  · simp
theorem Bs.drop {zs : List Int} (h : Bs zs) (k : Nat) : Bs (zs.drop k) := fun j => by
  have := h (k + j)
  simpa only [List.getD, List.getElem?_drop] using this

theorem nothing (w : World) (b : Nat) : Own w b none 0 0 [] := ⟨World.ownsRow_nil _ _ _ _, fun j => by simp⟩

theorem Bs.append {xs ys : List Int} (h : Bs xs) (h' : Bs ys) : Bs (xs ++ ys) := fun j => by
  unfold List.getD
  rw [List.getElem?_append]
  split
  · exact h j
  · exact h' _

theorem By.of_blk {w : World} {g n : Nat} {zs : List Int} (h : Blk w g 5 (zs.map (Value.int .u8)).toArray) (hb : Bs zs) (hn : zs.length = n) : By w (g + 1) (some ⟨g, 0, none⟩) n zs := by
  refine ⟨hn, hb, fun _ => ⟨g, 0, rfl, by omega, fun j hj => ?_⟩⟩
  rw [Nat.zero_add, h.cell j]
  simp [List.getD, List.getElem?_eq_getElem (show j < zs.length by omega)]


theorem By.zero {w : World} {B n : Nat} {zs : List Int} (h : By w B none n zs) : n = 0 ∧ zs = [] := by
  have : n = 0 := by
    rcases Nat.eq_zero_or_pos n with h0 | h0
    · exact h0
    · obtain ⟨b, o, hA, _⟩ := h.2.2 h0
      cases hA
  subst this
  exact ⟨rfl, List.eq_nil_of_length_eq_zero h.1⟩

theorem By.news {w : World} {B n : Nat} {a : Addr} {zs : List Int} (h : By w B (some a) n zs) : ∀ j u, (zs.map (Value.int .u8))[j]? = some u → w.cell? (a.add j) = some u := by
  intro j u hj
  have hjn : j < n := by
    have := (List.getElem?_eq_some_iff.1 hj).1
    rw [List.length_map, h.1] at this
    exact this
  obtain ⟨b, o, hA, _, hc⟩ := h.2.2 (by omega)
  injection hA with hA
  subst hA
  have e : (⟨b, o, none⟩ : Addr).add j = ⟨b, o + j, none⟩ := by by_cases h0 : j = 0 <;> simp [Addr.add, h0]
  rw [e, hc j hjn, ← hj]
  have := h.1
  simp [List.getD, List.getElem?_eq_getElem (show j < zs.length by omega)]

/-- append of bytes, wherever they lie, onto bytes of one's own. -/
theorem append_by {w : World} {ops : Array Oper} {rest : List Oper} {o : Oper} {a : Act} {Q : Exit → Act → World → Prop} (hgd : o.guard = none) (s x : Operand)
    (ho : o.op = .call { callee := .builtin .append, args := #[s, x], argTypes := #[52, 52] }) (base : Nat) (A : Option Addr) (n c : Nat) (zs : List Int) (hs : a.eval s = .slice A n c) (hown : Own w base A n c zs)
    (B : Nat) (A' : Option Addr) (m d : Nat) (ys : List Int) (hx : a.eval x = .slice A' m d) (hr : By w B A' m ys) (hd : A' = none → d = 0) (hsum : n + m ≤ 140737488355328) (hbase : base ≤ w.heap.size)
    (h : ∀ A2 c2 w', Own w' base A2 (n + m) c2 (zs ++ ys) → w.grownBy w' (Value.slice A n c).ownBlock → wpList Try.prog ops Q rest (a.put o.dst (.slice A2 (n + m) c2)) w') : wpList Try.prog ops Q (o :: rest) a w := by
  obtain ⟨i0, hi, hz0, hz1, hz2⟩ := info_parts Try.info5
  cases A' with
  | none =>
    obtain ⟨rfl, rfl⟩ := hr.zero
    rw [hd rfl] at hx
    refine wpList_append_own_none hgd s x 52 ho base 5 i0 1 Try.underlying52 hi _ n _ hs hown.1 hx ?_
    have := h A c w (by rw [List.append_nil]; exact hown) (World.grownBy.refl _ _)
    exact this
  | some ad =>
    refine wpList_append_own _ hgd s x 52 ho base 5 i0 (.int .u8 0) 1 1 Try.underlying52 hi hz0 hz1 hz2 rfl (by decide) _ n _ hs hown.1 ad m d (ys.map (Value.int .u8)) hx (by rw [List.length_map, hr.1, Nat.mul_one]) hr.news (ints_oneCell _ _) (by unfold maxLen; omega) (by omega) hbase ?_
    intro v' w' hown' hg _
    rw [← List.map_append] at hown'
    obtain ⟨A2, c2, rfl, ho2⟩ := Own.of_row hown' (hown.2.append hr.bs)
    exact h A2 c2 w' ho2 hg

/-- The first k bytes are the same. -/
theorem same_step {xs ys : List Int} {k : Nat} (h : xs.take k = ys.take k) (hx : k < xs.length) (hy : k < ys.length) (he : xs.getD k 0 = ys.getD k 0) : xs.take (k + 1) = ys.take (k + 1) := by
  rw [List.take_succ_eq_append_getElem hx, List.take_succ_eq_append_getElem hy, h]
  simp [List.getD, hx, hy] at he
  rw [he]

set_option maxHeartbeats 400000 in
theorem same_any (A A' : Option Addr) (n c m d : Nat) (xs ys : List Int) (w : World) (B B' : Nat) (h : By w B A n xs) (h' : By w B' A' m ys) (hn : n ≤ 140737488355328) (hm : m ≤ 140737488355328) :
    Calls Try.prog 55 #[.slice A n c, .slice A' m d] w fun e w' => e = .returned (.bool (xs == ys)) ∧ ∃ q, w' = w.drewN q := by
  by_cases hnm : n = m
  · subst hnm
    have hl := Lib.hid h.1
    have hl' := Lib.hid h'.1
    have H := Lib.hid h
    have H' := Lib.hid h'
    clear h h'
    have hne : ((n : Int) != (n : Int)) = false := by simp
    go_enter Try.func55, Try.ntmps55
    go_wp2
    go_loopw [13] (fun i wr => ∃ k : Nat, k ≤ n ∧ i = .int .i64 k ∧ Hid (xs.take k = ys.take k) ∧ ∃ q, wr = w.drewN q) (fun i _ => n - (intOf i).toNat)
    case atStart => exact ⟨0, Nat.zero_le _, rfl, rfl, 0, rfl⟩
    case round =>
      obtain ⟨k, hk, rfl, hs, q, rfl⟩ := hrel
      by_cases hlt : k < n
      · obtain ⟨b, o, rfl, hb, hc⟩ := H.out.2.2 (by omega)
        obtain ⟨b', o', rfl, hb', hc'⟩ := H'.out.2.2 (by omega)
        have c1 := hc k hlt
        have c2 := hc' k hlt
        have k0 : (0 : Int) ≤ k := by omega
        clear hc hc'
        by_cases he : xs.getD k 0 = ys.getD k 0
        · have hst := Lib.hid (same_step hs.out (by rw [hl.out]; exact hlt) (by rw [hl'.out]; exact hlt) he)
          rw [he] at c1
          generalize ys.getD k 0 = z at c1 c2
          clear he
          have hz : (z != z) = false := by simp
          go_wp2
          go_quiet (fail)
          go_wp2
          go_roundw
          case rel => exact ⟨k + 1, by omega, by go_num, hst.out, _, rfl⟩
          case measure => simp [intOf]; omega
        · have hf : (xs == ys) = false := by
            rw [beq_eq_false_iff_ne]
            rintro rfl
            exact he rfl
          have hz : (xs.getD k 0 != ys.getD k 0) = true := by simpa using he
          generalize xs.getD k 0 = z at c1 hz
          generalize ys.getD k 0 = y at c2 hz
          clear he
          go_wp2
          go_quiet (fail)
          go_wp2
          go_ret
          exact ⟨ret_bool hf.symm, _, World.drewN_drewN _ _ _⟩
      · have ht : Hid ((xs == ys) = true) := by
          have := hs.out
          rw [List.take_of_length_le (by rw [hl.out]; omega), List.take_of_length_le (by rw [hl'.out]; omega)] at this
          exact beq_iff_eq.2 this
        go_wp2
        go_ret
        exact ⟨ret_bool ht.out.symm, _, rfl⟩
  · have hf : (xs == ys) = false := by
      rw [beq_eq_false_iff_ne]
      rintro rfl
      exact hnm (h.1.symm.trans h'.1)
    have hne : ((n : Int) != (m : Int)) = true := by simp; omega
    go_enter Try.func55, Try.ntmps55
    go_wp2
    go_ret
    exact ⟨ret_bool hf.symm, 0, rfl⟩

theorem By.bytesIn {w : World} {B : Nat} {A : Option Addr} {n : Nat} {zs : List Int} (h : By w B A n zs) : Lib.BytesIn w A n zs := by
  rcases Nat.eq_zero_or_pos n with h0 | h0
  · subst h0; exact Lib.BytesIn.nil _ _ _
  · obtain ⟨b, o, rfl, _, hc⟩ := h.2.2 h0
    exact Lib.BytesIn.of_cells (fun i hi => by
      have e : (⟨b, o, none⟩ : Addr).add i = ⟨b, o + i, none⟩ := by by_cases h0 : i = 0 <;> simp [Addr.add, h0]
      rw [e]; exact hc i hi)

theorem bytesOf_inj : ∀ {xs ys : List Int}, Bs xs → Bs ys → Lib.bytesOf xs = Lib.bytesOf ys → xs = ys
  | [], [], _, _, _ => rfl
  | [], _ :: _, _, _, h => by simp [Lib.bytesOf] at h
  | _ :: _, [], _, _, h => by simp [Lib.bytesOf] at h
  | x :: xs, y :: ys, hx, hy, h => by
    simp only [Lib.bytesOf, List.map_cons, List.cons.injEq] at h
    have h1 : 0 ≤ x ∧ x ≤ 255 := hx 0
    have h2 : 0 ≤ y ∧ y ≤ 255 := hy 0
    have e := congrArg UInt8.toNat h.1
    simp only [UInt8.toNat_ofNat'] at e
    have exy : x = y := by omega
    rw [exy, bytesOf_inj (fun j => hx (j + 1)) (fun j => hy (j + 1)) h.2]

theorem bequal_any (A A' : Option Addr) (n c m d : Nat) (xs ys : List Int) (w : World) (B B' : Nat) (h : By w B A n xs) (h' : By w B' A' m ys) :
    Calls Try.prog 77 #[.slice A n c, .slice A' m d] w fun e w' => e = .returned (.bool (xs == ys)) ∧ w = w' := by
  have c1 := h.bytesIn.convert (P := Try.prog) h.1 c 52 5 9 Try.underlying52 Try.underlying5 Try.underlying9
  have c2 := h'.bytesIn.convert (P := Try.prog) h'.1 d 52 5 9 Try.underlying52 Try.underlying5 Try.underlying9
  have he : ((strOfNums xs).toList == (strOfNums ys).toList) = (xs == ys) := by
    rw [Lib.strOfNums_toList, Lib.strOfNums_toList, Bool.eq_iff_iff, beq_iff_eq, beq_iff_eq]
    exact ⟨bytesOf_inj h.bs h'.bs, fun e => by rw [e]⟩
  have HE := Lib.hid he
  clear he h h'
  go_enter Try.func77, Try.ntmps77
  go_wp2
  go_ret
  exact ⟨ret_bool HE.out, rfl⟩


theorem makeC (n : Nat) (hn : n ≤ 140737488355400) (W : World) : (Instr.makeSlice 52 (.int .i64 0) (.int .i64 (n : Int))).run Try.prog W = .ok (.slice (some ⟨W.heap.size, 0, none⟩) 0 n) (W.alloc (.cells (madeCells #[.int .u8 0] n) 5)) := by
  obtain ⟨i0, hi, hz0, hz1, hz2⟩ := info_parts Try.info5
  have h := run_make (P := Try.prog) W 52 5 i0 (.int .u8 0) Try.underlying52 hi hz0 .i64 .i64 0 n (by omega) (by omega) (by rw [hz2]; omega) (by omega)
  simp only [Int.toNat_natCast, hz1, Nat.mul_one] at h
  exact h

set_option maxHeartbeats 1000000 in
theorem both_any (A : Option Addr) (n c : Nat) (xs : List Int) (A' : Option Addr) (m d : Nat) (ys : List Int) (w : World) (B : Nat) (hx : By w B A n xs) (hc : A = none → c = 0) (hy : By w B A' m ys) (hd : A' = none → d = 0) (hB : B ≤ w.heap.size) (hn : n ≤ 100000) (hm : m ≤ 100000) :
    Calls Try.prog 74 #[.slice A n c, .slice A' m d] w (Cloned w (n + m) (xs ++ ys)) := by
  have hmk := makeC (n + m) (by omega)
  rw [show ((n + m : Nat) : Int) = (n : Int) + m by omega] at hmk
  have ho0 : Own (w.alloc (.cells (madeCells #[.int .u8 0] (n + m)) 5)) w.heap.size (some ⟨w.heap.size, 0, none⟩) 0 (n + m) [] := ⟨World.ownsRow_made w _ _ (Nat.le_refl _) (by unfold maxLen; omega) (by rw [size_madeCells, Nat.mul_one]), fun j => by simp⟩
  have hx0 := hx.alloc hB (.cells (madeCells #[.int .u8 0] (n + m)) 5)
  have hy0 := hy.alloc hB (.cells (madeCells #[.int .u8 0] (n + m)) 5)
  have hb0 : Below w.heap.size w (w.alloc (.cells (madeCells #[.int .u8 0] (n + m)) 5)) := (Below.refl _ _).alloc (Nat.le_refl _) _
  have HO := Lib.hid ho0
  have HX := Lib.hid hx0
  have HY := Lib.hid hy0
  have HB := Lib.hid hb0
  clear ho0 hx0 hy0 hb0 hx hy
  go_enter Try.func74, Try.ntmps74
  go_wp2_with (first
    | (at_builtin; refine append_by rfl (.tmp 12) (.tmp 13) rfl w.heap.size (some ⟨w.heap.size, 0, none⟩) 0 (n + m) [] rfl HO.out B A n c xs rfl HX.out hc (by omega) (by simp) ?_; intro A1 c1 w1 ho1 hg1; have hB1 : Below w.heap.size w w1 := HB.out.grown hg1 (by simp) (fun k hk => Nat.le_of_eq (Option.some.inj hk)); have hY1 : By w1 B A' m ys := HY.out.below (((Below.refl _ _).grown hg1 (by simp) (fun k hk => Nat.le_of_eq (Option.some.inj hk)) : Below w.heap.size _ w1).mono hB); have ho1' : Own w1 w.heap.size A1 n c1 xs := (by simpa using ho1); have hs1 := hB1.size; clear ho1 hg1)
    | (at_builtin; refine append_by rfl (.tmp 14) (.tmp 15) rfl w.heap.size A1 n c1 xs rfl ho1' B A' m d ys rfl hY1 hd (by omega) hs1 ?_; intro A2 c2 w2 ho2 hg2))
  go_ret
  have hlo := ho1'.1.lt
  exact ⟨A2, c2, rfl, ho2, hB1.grown hg2 hs1 (fun k hk => (hlo k hk).1)⟩

end Go.Proofs.Ytmgaihdepglahaa
