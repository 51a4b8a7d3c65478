/-
  Calls and stores beside a statement that is read.
-/
import Derived.Test.YtiipglmbfgmbbaaGreatDoorP30
import Derived.Test.YtiipglmbfgmbbaaGreatDoorP31
import Derived.Test.YtiipglmbfgmbbaaGreatDoorP32
import Derived.Test.YtiipglmbfgmbbaaGreatDoorP33
import Derived.Test.YtiipglmbfgmbbaaGreatDoorP34
namespace Go.Proofs.YtiipglmbfgmbbaaGreatDoor
open Go.RowKit Go.Shelf
attribute [local go_sem] Oper.semAt_some

/-- One step of what is read: what follows follows. -/
theorem ct_step {α β : Type} {a : Nat → Rx α} {f : Nat → α → Nat → Rx β} {W : Nat → Rx β} (CT : ∀ n y, rb (a n) (f n) = some y → ∃ n', W n' = some y) (ha : Mono a) (hf : ∀ v r, Mono (fun n => f n v r)) {n1 : Nat} {v : α} {r : Nat} (h : a n1 = some (.ok (v, r))) : ∀ n y, f n v r = some y → ∃ n', W n' = some y :=
  fun n y hy => CT (max n n1) y (by rw [rb_ok (ha n1 _ _ (Nat.le_max_right _ _) h)]; exact hf v r n _ _ (Nat.le_max_left _ _) hy)
theorem ct_err {α β : Type} {a : Nat → Rx α} {f : Nat → α → Nat → Rx β} {W : Nat → Rx β} (CT : ∀ n y, rb (a n) (f n) = some y → ∃ n', W n' = some y) {n1 : Nat} {e : Int × Nat} (h : a n1 = some (.error e)) : ∃ n', W n' = some (.error e) := CT n1 _ (rb_err h)
/-- What a call that needs no steps answers. -/
def Aw {α : Type} (X : Rx α) (G : α → Nat → Ending → World → Prop) (F : World → Prop) (L : List Tk) (E : Nat) (e : Ending) (w' : World) : Prop :=
  ∃ y, X = some y ∧ match y with
    | .ok (v, r') => G v r' e w'
    | .error (er, i) => e = .panicked [{ v := .iface 26 (.agg #[.int .i64 er, .int .i64 ((tokAt L E i).at_ : Int)]), recovered := false }] ∧ F w'
/-- What a call that needs steps answers. -/
def An {α : Type} (X : Nat → Rx α) (G : α → Nat → Ending → World → Prop) (F : World → Prop) (L : List Tk) (E : Nat) (e : Ending) (w' : World) : Prop :=
  ∃ n y, X n = some y ∧ match y with
    | .ok (v, r') => G v r' e w'
    | .error (er, i) => e = .panicked [{ v := .iface 26 (.agg #[.int .i64 er, .int .i64 ((tokAt L E i).at_ : Int)]), recovered := false }] ∧ F w'
theorem sb_new (w : World) (us : List (List UInt8)) : Sb (w.alloc (.cells (us.map tx).toArray 9)) w.heap.size us :=
  ⟨by simp, fun i hi => by
    rw [Blk.cell (Blk.new w 9 (us.map tx).toArray) i]
    simp [List.getD, hi]⟩
theorem refF_ge {L : List Tk} {E r : Nat} {y : List UInt8 × List UInt8} {r' : Nat} (h : refF L E r = .ok (y, r')) : r ≤ r' := by
  unfold refF at h
  cases hn : nameF L E r with
  | error e => rw [hn] at h; cases h
  | ok p =>
    obtain ⟨u, r1⟩ := p
    have h1 := nameF_ge hn
    rw [hn] at h
    simp only at h
    split at h
    · cases hn2 : nameF L E (r1 + 1) with
      | error e => rw [hn2] at h; cases h
      | ok p =>
        obtain ⟨v, r2⟩ := p
        have h2 := nameF_ge hn2
        rw [hn2] at h
        simp only at h
        cases h
        omega
    · cases h
      omega
theorem refB_ge {L : List Tk} {E r : Nat} {u : List UInt8} {y : List UInt8 × List UInt8} {r' : Nat} (h : refB L E u r = .ok (y, r')) : r ≤ r' := by
  unfold refB at h
  split at h
  · split at h
    · have := refF_ge h
      omega
    · cases h
  · cases h
    omega
section
variable {w0 W : World} {K base q c E m r o g D b2 b3 : Nat} {A : Option Addr} {L : List Tk} {s : Sm} {x : Cx}
theorem Jx.rd (h : Jx w0 K W base q A c L E m r o g D b2 b3 s x) : r ≤ L.length ∧ L.length ≤ 300 := by
  obtain ⟨B, n, nc, hs⟩ := h.bx.sx
  exact ⟨hs.pt.rd, hs.pt.many⟩
theorem Jx.readAt (h : Jx w0 K W base q A c L E m r o g D b2 b3 s x) : Go.Proofs.YtiipglmbfgmbbaaGreatDoor.readAt W q = r := by
  obtain ⟨B, n, nc, hs⟩ := h.bx.sx
  exact hs.pt.readAt
theorem Jx.words (h : Jx w0 K W base q A c L E m r o g D b2 b3 s x) (us : List (List UInt8)) (n : Nat) (hn : us.length = n) (hn2 : n ≤ 100) :
    Calls Tryz.prog 49 #[.pointer (some ⟨q, 0, none⟩), .slice (some ⟨W.heap.size, 0, none⟩) n n] (W.alloc (.cells (us.map tx).toArray 9)) (Aw (rwd L E r us) (fun _ r' e w' => e = .returned (.tuple #[]) ∧ r ≤ r' ∧ Jx w0 K w' base q A c L E m r' o g D b2 b3 s x) (Fg K q g w0) L E) := by
  have AL : Below W.heap.size W (W.alloc (.cells (us.map tx).toArray 9)) := (Below.refl _ _).alloc (Nat.le_refl _) _
  have J := h.below AL
  obtain ⟨B, n', nc, hs⟩ := J.bx.sx
  have hq : q < W.heap.size := by obtain ⟨cq, hq⟩ := h.bx.par; exact hq.lt
  have WD := words_any us n W.heap.size _ base q c E r o A L _ _ hs.pt hn hn2 (sb_new W us) (by omega)
  refine WD.mono ?_
  intro e w' hR
  cases hw : wordsF L E r us with
  | error ei =>
    obtain ⟨er, i⟩ := ei
    rw [hw] at hR
    obtain ⟨h1, h2⟩ := Rd.err hR
    exact ⟨.error (er, i), by unfold rwd; rw [hw], h1, J.fr.trans (Fg.of h2 (Nat.le_trans J.hK J.bx.hDs))⟩
  | ok r' =>
    rw [hw] at hR
    obtain ⟨h1, h2, h3⟩ := hR
    exact ⟨.ok ((), r'), by unfold rwd; rw [hw], h1, wordsF_ge L E _ _ _ hw, J.readP h2 h3⟩
theorem Jx.name (h : Jx w0 K W base q A c L E m r o g D b2 b3 s x) :
    Calls Tryz.prog 77 #[.pointer (some ⟨q, 0, none⟩)] W (Aw (some (nameF L E r)) (fun u r' e w' => ∃ T : ByteArray, (⟨u.toArray⟩ : ByteArray) = T ∧ e = .returned (.string T) ∧ r ≤ r' ∧ Jx w0 K w' base q A c L E m r' o g D b2 b3 s x) (Fg K q g w0) L E) := by
  obtain ⟨B, n', nc, hs⟩ := h.bx.sx
  refine (name_any W base q c E r o A L _ _ hs.pt).mono ?_
  intro e w' hR
  cases hn : nameF L E r with
  | error ei =>
    obtain ⟨er, i⟩ := ei
    rw [hn] at hR
    obtain ⟨h1, h2⟩ := Rd.err hR
    exact ⟨.error (er, i), rfl, h1, h.fr.trans (Fg.of h2 (Nat.le_trans h.hK h.bx.hDs))⟩
  | ok p =>
    obtain ⟨u, r'⟩ := p
    rw [hn] at hR
    obtain ⟨h1, h2, h3⟩ := hR
    have := nameF_ge hn
    exact ⟨.ok (u, r'), rfl, _, rfl, h1, by omega, h.readP h2 h3⟩
theorem Jx.found (h : Jx w0 K W base q A c L E m r o g D b2 b3 s x) (u : List UInt8) :
    Calls Tryz.prog 82 #[.pointer (some ⟨q, 0, none⟩), tx u] W fun e w' => e = .returned (.bool (isB (tokAt L E r) u)) ∧ Jx w0 K w' base q A c L E m (if isB (tokAt L E r) u = true then r + 1 else r) o g D b2 b3 s x := by
  obtain ⟨B, n', nc, hs⟩ := h.bx.sx
  refine (found_any u W base q c E r o A L _ _ hs.pt).mono ?_
  rintro e w' ⟨h1, h2, h3⟩
  exact ⟨h1, h.readP h2 h3⟩
theorem Jx.exB (ho : o ≤ 16) (h : Jx w0 K W base q A c L E m r o g D b2 b3 s x) (u : List UInt8) :
    Calls Tryz.prog 80 #[.pointer (some ⟨q, 0, none⟩), tx u] W (An (fun n => Go.Proofs.YtiipglmbfgmbbaaGreatDoor.exB L E n u r o) (fun ns r' e w' => ∃ B nc, e = .returned (.agg #[.slice B ns.length nc]) ∧ r ≤ r' ∧ Nds w' D B ns.length nc ns ∧ Jx w0 K w' base q A c L E m r' o g D b2 b3 s x) (Fg K q g w0) L E) := by
  obtain ⟨B, n, nc, hs⟩ := h.bx.sx
  refine (exprBehind_any u W base q A c L E m r o B n nc hs ho).mono ?_
  rintro e w' ⟨n, y, hx, hF, hy⟩
  rcases y with ⟨er, i⟩ | ⟨ns, r'⟩
  · exact ⟨n, .error (er, i), hx, hy, h.fr.trans (Fg.of hF (Nat.le_trans h.hK h.bx.hDs))⟩
  · obtain ⟨B', nc', B2, n2, nc2, he, hr, hN, hS⟩ := hy
    exact ⟨n, .ok (ns, r'), hx, B', nc', he, hr, owns_low hN h.bx.hDs, h.read ⟨B2, n2, nc2, hS⟩ hF⟩
theorem Jx.exA (ho : o ≤ 16) (h : Jx w0 K W base q A c L E m r o g D b2 b3 s x) :
    Calls Tryz.prog 116 #[.pointer (some ⟨q, 0, none⟩)] W (An (fun n => exN L E n r o) (fun ns r' e w' => ∃ B nc, e = .returned (.agg #[.slice B ns.length nc]) ∧ r ≤ r' ∧ Nds w' D B ns.length nc ns ∧ Jx w0 K w' base q A c L E m r' o g D b2 b3 s x) (Fg K q g w0) L E) :=
  (h.expr ho).mono fun e w' hy => by
    obtain ⟨n, y, hx, hy⟩ := hy
    rcases y with ⟨er, i⟩ | ⟨ns, r'⟩
    · exact ⟨n, .error (er, i), hx, hy⟩
    · exact ⟨n, .ok (ns, r'), hx, hy⟩
theorem Jx.refB (h : Jx w0 K W base q A c L E m r o g D b2 b3 s x) (u : List UInt8) :
    Calls Tryz.prog 120 #[.pointer (some ⟨q, 0, none⟩), tx u] W (Aw (some (Go.Proofs.YtiipglmbfgmbbaaGreatDoor.refB L E u r)) (fun p r' e w' => ∃ T1 T2 : ByteArray, ((⟨p.1.toArray⟩ : ByteArray) = T1 ∧ (⟨p.2.toArray⟩ : ByteArray) = T2) ∧ e = .returned (.agg #[.string T1, .string T2]) ∧ r ≤ r' ∧ Jx w0 K w' base q A c L E m r' o g D b2 b3 s x) (Fg K q g w0) L E) := by
  obtain ⟨B, n', nc, hs⟩ := h.bx.sx
  refine (refBehind_any u W base q c E r o A L _ _ hs.pt).mono ?_
  intro e w' hR
  cases hn : Go.Proofs.YtiipglmbfgmbbaaGreatDoor.refB L E u r with
  | error ei =>
    obtain ⟨er, i⟩ := ei
    rw [hn] at hR
    obtain ⟨h1, h2⟩ := Rd.err hR
    exact ⟨.error (er, i), rfl, h1, h.fr.trans (Fg.of h2 (Nat.le_trans h.hK h.bx.hDs))⟩
  | ok p =>
    obtain ⟨⟨u1, u2⟩, r'⟩ := p
    rw [hn] at hR
    obtain ⟨h1, h2, h3⟩ := hR
    exact ⟨.ok ((u1, u2), r'), rfl, _, _, ⟨rfl, rfl⟩, h1, refB_ge hn, h.readP h2 h3⟩
theorem Jx.one3 (h : Jx w0 K W base q A c L E m r o g D b2 b3 s x) :
    Calls Tryz.prog 114 #[.pointer (some ⟨q, 0, none⟩), .int .i64 3] W (Aw (if ((tokAt L E r).kind == 3) = true then rok (tokAt L E r) (r + 1) else some (.error (210, r))) (fun t r' e w' => e = .returned (tkV t) ∧ r ≤ r' ∧ Jx w0 K w' base q A c L E m r' o g D b2 b3 s x) (Fg K q g w0) L E) := by
  obtain ⟨B, n', nc, hs⟩ := h.bx.sx
  refine (one_any 3 (by decide) W base q c E r o A L _ _ hs.pt).mono ?_
  intro e w' hR
  unfold oneF at hR
  cases hk : ((tokAt L E r).kind == 3) with
  | false =>
    rw [hk] at hR
    rw [if_neg (by decide)] at hR ⊢
    obtain ⟨h1, h2⟩ := hR
    exact ⟨.error (210, r), rfl, h1, h.fr.trans (Fg.of h2 (Nat.le_trans h.hK h.bx.hDs))⟩
  | true =>
    rw [hk] at hR
    rw [if_pos rfl] at hR ⊢
    obtain ⟨h1, h2, h3⟩ := hR
    exact ⟨.ok (tokAt L E r, r + 1), rfl, h1, Nat.le_succ r, h.readP h2 h3⟩
theorem Jx.tab (h : Jx w0 K W base q A c L E m r o g D b2 b3 s x) {u : List UInt8} {T : ByteArray} (hT : (⟨u.toArray⟩ : ByteArray) = T) : Jx w0 K (W.setCell ⟨g, 1, none⟩ (.string T)) base q A c L E m r o g D b2 b3 { s with table := u } x := by
  subst hT
  exact h.put (by simp [smC]) ⟨h.bx.own.cols, h.bx.own.sets, h.bx.own.items, h.bx.own.on, h.bx.own.wh⟩
theorem Jx.joi (h : Jx w0 K W base q A c L E m r o g D b2 b3 s x) {u : List UInt8} {T : ByteArray} (hT : (⟨u.toArray⟩ : ByteArray) = T) : Jx w0 K (W.setCell ⟨g, 2, none⟩ (.string T)) base q A c L E m r o g D b2 b3 { s with join := u } x := by
  subst hT
  exact h.put (by simp [smC]) ⟨h.bx.own.cols, h.bx.own.sets, h.bx.own.items, h.bx.own.on, h.bx.own.wh⟩
theorem Jx.sta (h : Jx w0 K W base q A c L E m r o g D b2 b3 s x) (b : Bool) : Jx w0 K (W.setCell ⟨g, 5, none⟩ (.bool b)) base q A c L E m r o g D b2 b3 { s with star := b } x :=
  h.put (by simp [smC]) ⟨h.bx.own.cols, h.bx.own.sets, h.bx.own.items, h.bx.own.on, h.bx.own.wh⟩
theorem Jx.onn (h : Jx w0 K W base q A c L E m r o g D b2 b3 s x) {B : Option Addr} {nc : Nat} {ns : List Nd} (hN : Nds W D B ns.length nc ns) : Jx w0 K (W.setCells g 7 [.slice B ns.length nc]) base q A c L E m r o g D b2 b3 { s with on := ns } { x with a4 := B, c4 := nc } :=
  h.put (k := 7) (v := .slice B ns.length nc) (by simp [smC]) ⟨h.bx.own.cols, h.bx.own.sets, h.bx.own.items, hN, h.bx.own.wh⟩
theorem Jx.whe (h : Jx w0 K W base q A c L E m r o g D b2 b3 s x) {B : Option Addr} {nc : Nat} {ns : List Nd} (hN : Nds W D B ns.length nc ns) : Jx w0 K (W.setCells g 8 [.slice B ns.length nc]) base q A c L E m r o g D b2 b3 { s with wh := ns } { x with a5 := B, c5 := nc } :=
  h.put (k := 8) (v := .slice B ns.length nc) (by simp [smC]) ⟨h.bx.own.cols, h.bx.own.sets, h.bx.own.items, h.bx.own.on, hN⟩
theorem Jx.grp (h : Jx w0 K W base q A c L E m r o g D b2 b3 s x) {u v : List UInt8} {T1 T2 : ByteArray} (hT : (⟨u.toArray⟩ : ByteArray) = T1 ∧ (⟨v.toArray⟩ : ByteArray) = T2) : Jx w0 K (W.setCells g 9 [.string T1, .string T2]) base q A c L E m r o g D b2 b3 { s with gt := u, gn := v } x := by
  obtain ⟨rfl, rfl⟩ := hT
  have h1 : Jx w0 K (W.setCell ⟨g, 9, none⟩ (tx u)) base q A c L E m r o g D b2 b3 { s with gt := u } x := h.put (by simp [smC]) ⟨h.bx.own.cols, h.bx.own.sets, h.bx.own.items, h.bx.own.on, h.bx.own.wh⟩
  exact h1.put (k := 10) (v := tx v) (by simp [smC]) ⟨h1.bx.own.cols, h1.bx.own.sets, h1.bx.own.items, h1.bx.own.on, h1.bx.own.wh⟩
theorem Jx.ord (h : Jx w0 K W base q A c L E m r o g D b2 b3 s x) {u v : List UInt8} {T1 T2 : ByteArray} (hT : (⟨u.toArray⟩ : ByteArray) = T1 ∧ (⟨v.toArray⟩ : ByteArray) = T2) : Jx w0 K (W.setCells g 11 [.string T1, .string T2]) base q A c L E m r o g D b2 b3 { s with ot := u, on_ := v } x := by
  obtain ⟨rfl, rfl⟩ := hT
  have h1 : Jx w0 K (W.setCell ⟨g, 11, none⟩ (tx u)) base q A c L E m r o g D b2 b3 { s with ot := u } x := h.put (by simp [smC]) ⟨h.bx.own.cols, h.bx.own.sets, h.bx.own.items, h.bx.own.on, h.bx.own.wh⟩
  exact h1.put (k := 12) (v := tx v) (by simp [smC]) ⟨h1.bx.own.cols, h1.bx.own.sets, h1.bx.own.items, h1.bx.own.on, h1.bx.own.wh⟩
theorem Jx.des (h : Jx w0 K W base q A c L E m r o g D b2 b3 s x) (b : Bool) : Jx w0 K (W.setCell ⟨g, 13, none⟩ (.bool b)) base q A c L E m r o g D b2 b3 { s with desc := b } x :=
  h.put (by simp [smC]) ⟨h.bx.own.cols, h.bx.own.sets, h.bx.own.items, h.bx.own.on, h.bx.own.wh⟩
theorem Jx.lim (h : Jx w0 K W base q A c L E m r o g D b2 b3 s x) (k : Int) : Jx w0 K (W.setCell ⟨g, 14, none⟩ (.int .i64 k)) base q A c L E m r o g D b2 b3 { s with limit := k } x :=
  h.put (by simp [smC]) ⟨h.bx.own.cols, h.bx.own.sets, h.bx.own.items, h.bx.own.on, h.bx.own.wh⟩
/-- A cell of the statement may be written. -/
theorem Jx.there (h : Jx w0 K W base q A c L E m r o g D b2 b3 s x) {k n : Nat} (hk : k + n ≤ 15) : W.there g k n := fun j hj => by
  refine ⟨?_, h.bx.blk.frozen _⟩
  rw [h.bx.blk.cell]
  have : k + j < (smC s x).length := by show k + j < 15; omega
  simp [this]
end
/-- Behind a comma, or not. -/
theorem jn_found {w0 : World} {K base q c E m o g D b2 b3 : Nat} {A : Option Addr} {L : List Tk} (w : World) (r : Nat) (s : Sm) (h : Jn 1 w0 K base q A c L E m o g D b2 b3 w r s) :
    Calls Tryz.prog 82 #[.pointer (some ⟨q, 0, none⟩), .string ⟨#[44]⟩] w fun e w' => e = .returned (.bool (isB (tokAt L E r) [44])) ∧ (if isB (tokAt L E r) [44] = true then r < L.length ∧ Jn 0 w0 K base q A c L E m o g D b2 b3 w' (r + 1) s else Jn 1 w0 K base q A c L E m o g D b2 b3 w' r s) := by
  obtain ⟨⟨x, h⟩, hl⟩ := h
  refine (h.found [44]).mono ?_
  rintro e w' ⟨h1, h2⟩
  refine ⟨h1, ?_⟩
  by_cases hb : isB (tokAt L E r) [44] = true
  · rw [if_pos hb] at h2 ⊢
    have := h2.rd
    exact ⟨by omega, ⟨x, h2⟩, by omega⟩
  · rw [if_neg hb] at h2 ⊢
    exact ⟨⟨x, h2⟩, hl⟩
theorem jn_read {w0 : World} {K base q c E m o g D b2 b3 : Nat} {A : Option Addr} {L : List Tk} (w : World) (r : Nat) (s : Sm) (h : Jn 1 w0 K base q A c L E m o g D b2 b3 w r s) : Go.Proofs.YtiipglmbfgmbbaaGreatDoor.readAt w q = r := by
  obtain ⟨⟨x, h⟩, _⟩ := h
  exact h.readAt
/-- The two boxes are made. -/
theorem Jx.enter {w : World} {base q c E m r o g : Nat} {A : Option Addr} {L : List Tk} {s : Sm} {x : Cx} (h : Bx w base q A c L E m r o g w.heap.size s x) :
    Jx w w.heap.size ((w.alloc (.cells #[.pointer (some ⟨q, 0, none⟩)] 112)).alloc (.cells #[.pointer (some ⟨g, 0, none⟩)] 137)) base q A c L E m r o g w.heap.size w.heap.size (w.heap.size + 1) s x := by
  have h1 : Below w.heap.size w (w.alloc (.cells #[.pointer (some ⟨q, 0, none⟩)] 112)) := (Below.refl _ _).alloc (Nat.le_refl _) _
  have h2 : Below w.heap.size w ((w.alloc (.cells #[.pointer (some ⟨q, 0, none⟩)] 112)).alloc (.cells #[.pointer (some ⟨g, 0, none⟩)] 137)) := h1.alloc (by simp) _
  have e1 : (w.alloc (.cells #[.pointer (some ⟨q, 0, none⟩)] 112)).heap.size = w.heap.size + 1 := by simp
  refine ⟨h.below h2, (Blk.new w 112 _).alloc _, ?_, Fg.of (Fq.of (q := q) h2 (Nat.le_refl _)) (Nat.le_refl _), Nat.le_refl _⟩
  rw [← e1]
  exact Blk.new _ _ _
/-- What is answered by what reads a statement's rest. -/
def Js (w0 : World) (base q : Nat) (A : Option Addr) (c : Nat) (L : List Tk) (E m o g : Nat) (w : World) (r : Nat) (s : Sm) : Prop := (∃ x, Bx w base q A c L E m r o g w0.heap.size s x) ∧ Fg w0.heap.size q g w0 w
end Go.Proofs.YtiipglmbfgmbbaaGreatDoor
