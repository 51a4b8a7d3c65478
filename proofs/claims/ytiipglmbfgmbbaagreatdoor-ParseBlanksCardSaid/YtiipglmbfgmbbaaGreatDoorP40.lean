/-
  A statement that is read, beside what will be answered.
-/
import Derived.Test.YtiipglmbfgmbbaaGreatDoorP39
namespace Go.Proofs.YtiipglmbfgmbbaaGreatDoor
open Go.RowKit Go.Shelf
attribute [local go_sem] Oper.semAt_some

def z38 : Array Value := #[.int .i64 0, .string ⟨#[]⟩, .string ⟨#[]⟩, .slice none 0 0, .slice none 0 0, .bool false, .slice none 0 0, .slice none 0 0, .slice none 0 0, .string ⟨#[]⟩, .string ⟨#[]⟩, .string ⟨#[]⟩, .string ⟨#[]⟩, .bool false, .int .i64 0]
/-- The statement that is read at g, what will be answered at gr. -/
structure Zx (w0 w : World) (base q : Nat) (A : Option Addr) (c : Nat) (L : List Tk) (E m r o gr g D : Nat) (s : Sm) (x : Cx) : Prop where
  bx : Bx w base q A c L E m r o g D s x
  z : Blk w gr 38 z38
  fr : Fq w0.heap.size q w0 w
  hgr : w0.heap.size ≤ gr
  hg0 : w0.heap.size ≤ g
  ne : gr ≠ g
section
variable {w0 w w' : World} {base q c E m r o gr g D : Nat} {A : Option Addr} {L : List Tk} {s : Sm} {x : Cx}
theorem Zx.gq (h : Zx w0 w base q A c L E m r o gr g D s x) : gr ≠ q := by
  obtain ⟨cq, hq⟩ := h.bx.par
  intro e
  subst e
  exact absurd (h.z.same hq) (by decide)
theorem Zx.read {r' : Nat} (h : Zx w0 w base q A c L E m r o gr g D s x) (hS : ∃ B n nc, Sx w' base q A c L E m r' o B n nc) (hF : Fq w.heap.size q w w') : Zx w0 w' base q A c L E m r' o gr g D s x :=
  ⟨h.bx.read hS hF, (hF.block gr h.z.lt h.gq).trans h.z, h.fr.trans (hF.mono h.fr.size), h.hgr, h.hg0, h.ne⟩
theorem Zx.readP {r' : Nat} {B : Option Addr} {n nc : Nat} (h : Zx w0 w base q A c L E m r o gr g D s x) (hP : Pt w' base q A c L E (.map (some m)) (.slice B n nc) r' o) (hF : Fq w.heap.size q w w') : Zx w0 w' base q A c L E m r' o gr g D s x := by
  obtain ⟨B', n', nc', hs⟩ := h.bx.sx
  have h1 := hs.hm
  have h2 := hs.pt.le
  exact h.read ⟨B, n, nc, hP, (hF.block m (by omega) hs.hq).trans hs.mo, hs.hm, hs.hq⟩ hF
theorem Zx.below (h : Zx w0 w base q A c L E m r o gr g D s x) (hb : Below w.heap.size w w') : Zx w0 w' base q A c L E m r o gr g D s x :=
  ⟨h.bx.below hb, h.z.below hb h.z.lt, h.fr.trans ((Fq.of (q := q) hb (Nat.le_refl _)).mono h.fr.size), h.hgr, h.hg0, h.ne⟩
theorem Zx.put {k : Nat} {v : Value} {s' : Sm} {x' : Cx} (h : Zx w0 w base q A c L E m r o gr g D s x) (hc : (smC s x).toArray.setIfInBounds k v = (smC s' x').toArray) (hO : Ox w D s' x') : Zx w0 (w.setCell ⟨g, k, none⟩ v) base q A c L E m r o gr g D s' x' :=
  ⟨h.bx.put hc hO, Blk.far h.z (p := ⟨g, k, none⟩) h.ne v, h.fr.trans (Fq.of (q := q) ((Below.refl w0.heap.size w).setCell (p := ⟨g, k, none⟩) h.hg0 v) (Nat.le_refl _)), h.hgr, h.hg0, h.ne⟩
theorem Zx.words (h : Zx w0 w base q A c L E m r o gr g D s x) (us : List (List UInt8)) (n : Nat) (hn : us.length = n) (hn2 : n ≤ 100) :
    Calls Tryz.prog 49 #[.pointer (some ⟨q, 0, none⟩), .slice (some ⟨w.heap.size, 0, none⟩) n n] (w.alloc (.cells (us.map tx).toArray 9)) (Aw (rwd L E r us) (fun _ r' e w' => e = .returned (.tuple #[]) ∧ r ≤ r' ∧ Zx w0 w' base q A c L E m r' o gr g D s x) (Fq w0.heap.size q w0) L E) := by
  have AL : Below w.heap.size w (w.alloc (.cells (us.map tx).toArray 9)) := (Below.refl _ _).alloc (Nat.le_refl _) _
  have J := h.below AL
  obtain ⟨B, n', nc, hs⟩ := J.bx.sx
  have hq : q < w.heap.size := by obtain ⟨cq, hq⟩ := h.bx.par; exact hq.lt
  refine (words_any us n w.heap.size _ base q c E r o A L _ _ hs.pt hn hn2 (sb_new w us) (by omega)).mono ?_
  intro e w' hR
  cases hw : wordsF L E r us with
  | error ei =>
    obtain ⟨er, i⟩ := ei
    rw [hw] at hR
    obtain ⟨h1, h2⟩ := Rd.err hR
    exact ⟨.error (er, i), by unfold rwd; rw [hw], h1, J.fr.trans (h2.mono J.fr.size)⟩
  | ok r' =>
    rw [hw] at hR
    obtain ⟨h1, h2, h3⟩ := hR
    exact ⟨.ok ((), r'), by unfold rwd; rw [hw], h1, wordsF_ge L E _ _ _ hw, J.readP h2 h3⟩
theorem Zx.name (h : Zx w0 w base q A c L E m r o gr g D s x) :
    Calls Tryz.prog 77 #[.pointer (some ⟨q, 0, none⟩)] w (Aw (some (nameF L E r)) (fun u r' e w' => ∃ T : ByteArray, (⟨u.toArray⟩ : ByteArray) = T ∧ e = .returned (.string T) ∧ r ≤ r' ∧ Zx w0 w' base q A c L E m r' o gr g D s x) (Fq w0.heap.size q w0) L E) := by
  obtain ⟨B, n', nc, hs⟩ := h.bx.sx
  refine (name_any w base q c E r o A L _ _ hs.pt).mono ?_
  intro e w' hR
  cases hn : nameF L E r with
  | error ei =>
    obtain ⟨er, i⟩ := ei
    rw [hn] at hR
    obtain ⟨h1, h2⟩ := Rd.err hR
    exact ⟨.error (er, i), rfl, h1, h.fr.trans (h2.mono h.fr.size)⟩
  | ok p =>
    obtain ⟨u, r'⟩ := p
    rw [hn] at hR
    obtain ⟨h1, h2, h3⟩ := hR
    have := nameF_ge hn
    exact ⟨.ok (u, r'), rfl, _, rfl, h1, by omega, h.readP h2 h3⟩
theorem Zx.exB (ho : o ≤ 16) (h : Zx w0 w base q A c L E m r o gr g D s x) (u : List UInt8) :
    Calls Tryz.prog 80 #[.pointer (some ⟨q, 0, none⟩), tx u] w (An (fun n => Go.Proofs.YtiipglmbfgmbbaaGreatDoor.exB L E n u r o) (fun ns r' e w' => ∃ B nc, e = .returned (.agg #[.slice B ns.length nc]) ∧ r ≤ r' ∧ Nds w' D B ns.length nc ns ∧ Zx w0 w' base q A c L E m r' o gr g D s x) (Fq w0.heap.size q w0) L E) := by
  obtain ⟨B, n, nc, hs⟩ := h.bx.sx
  refine (exprBehind_any u w base q A c L E m r o B n nc hs ho).mono ?_
  rintro e w' ⟨n, y, hx, hF, hy⟩
  rcases y with ⟨er, i⟩ | ⟨ns, r'⟩
  · exact ⟨n, .error (er, i), hx, hy, h.fr.trans (hF.mono h.fr.size)⟩
  · obtain ⟨B', nc', B2, n2, nc2, he, hr, hN, hS⟩ := hy
    exact ⟨n, .ok (ns, r'), hx, B', nc', he, hr, owns_low hN h.bx.hDs, h.read ⟨B2, n2, nc2, hS⟩ hF⟩
theorem Zx.tab (h : Zx w0 w base q A c L E m r o gr g D s x) {u : List UInt8} {T : ByteArray} (hT : (⟨u.toArray⟩ : ByteArray) = T) : Zx w0 (w.setCell ⟨g, 1, none⟩ (.string T)) base q A c L E m r o gr g D { s with table := u } x := by
  subst hT
  exact h.put (by simp [smC]) ⟨h.bx.own.cols, h.bx.own.sets, h.bx.own.items, h.bx.own.on, h.bx.own.wh⟩
theorem Zx.whe (h : Zx w0 w base q A c L E m r o gr g D s x) {B : Option Addr} {nc : Nat} {ns : List Nd} (hN : Nds w D B ns.length nc ns) : Zx w0 (w.setCells g 8 [.slice B ns.length nc]) base q A c L E m r o gr g D { s with wh := ns } { x with a5 := B, c5 := nc } :=
  h.put (k := 8) (v := .slice B ns.length nc) (by simp [smC]) ⟨h.bx.own.cols, h.bx.own.sets, h.bx.own.items, h.bx.own.on, hN⟩
theorem Zx.there (h : Zx w0 w base q A c L E m r o gr g D s x) {k n : Nat} (hk : k + n ≤ 15) : w.there g k n := fun j hj => by
  refine ⟨?_, h.bx.blk.frozen _⟩
  rw [h.bx.blk.cell]
  have : k + j < (smC s x).length := by show k + j < 15; omega
  simp [this]
/-- A new statement owns nothing yet. -/
theorem Zx.fresh {k : Nat} (h : Zx w0 w base q A c L E m r o gr g D (sm0 k) cx0) : Bx w base q A c L E m r o g w.heap.size (sm0 k) cx0 :=
  ⟨h.bx.sx, h.bx.blk, Ox.zero _ _ _, h.bx.hg, h.bx.blk.lt, Nat.le_refl _, h.bx.gp, h.bx.two, h.bx.tq⟩
/-- A call that reads the statement's rest. -/
theorem Zx.sub {f : Nat} {X : Nat → Rx Sm} {s : Sm} {x : Cx} {args : Array Value} (h : Zx w0 w base q A c L E m r o gr g D s x) (hC : Calls Tryz.prog f args w (Lr X (Js w base q A c L E m o g) (Fg w.heap.size q g w) L E r)) :
    Calls Tryz.prog f args w (An X (fun s' r' e w' => e = .returned (.tuple #[]) ∧ r ≤ r' ∧ ∃ x', Zx w0 w' base q A c L E m r' o gr g w.heap.size s' x') (Fq w0.heap.size q w0) L E) := by
  refine hC.mono ?_
  rintro e w' ⟨n, y, hX, hy⟩
  have FF : Fg w.heap.size q g w w' → Fq w0.heap.size q w0 w' := fun k =>
    h.fr.trans ⟨k.os, k.tape, k.output, k.size, fun i hi hq => k.block i (Nat.lt_of_lt_of_le hi h.fr.size) hq (by have := h.hg0; omega)⟩
  rcases y with ⟨er, i⟩ | ⟨s', r'⟩
  · obtain ⟨h1, h2⟩ := hy
    exact ⟨n, .error (er, i), hX, h1, FF h2⟩
  · obtain ⟨h1, h2, ⟨x', hb⟩, hF⟩ := hy
    exact ⟨n, .ok (s', r'), hX, h1, h2, x', hb, (hF.block gr h.z.lt h.gq h.ne).trans h.z, FF hF, h.hgr, h.hg0, h.ne⟩
end
/-- What a call that reads a statement answers. -/
def Stx (w : World) (base q : Nat) (A : Option Addr) (c : Nat) (L : List Tk) (E m r o a : Nat) (e : Ending) (w' : World) : Prop :=
  ∃ n y, stF L E o n a r = some y ∧ Fq w.heap.size q w w' ∧ match y with
    | .ok (s, r') => ∃ x, e = .returned (.agg (smC s x).toArray) ∧ r ≤ r' ∧ Ox w' w.heap.size s x ∧ (∃ B n nc, Sx w' base q A c L E m r' o B n nc) ∧ Gp w'
    | .error (er, i) => e = pnc er (tokAt L E i).at_
/-- Behind the kind. -/
def stK (L : List Tk) (E o k n r : Nat) : Rx Sm :=
  rb (rwd L E r [fwL.getD k []]) fun _ r =>
    if k = 1 then creF L E n r (sm0 k)
    else if k = 2 then rb (rwd L E r [[84, 65, 66, 76, 69]]) fun _ r => rb (some (nameF L E r)) fun u r => rok { sm0 k with table := u } r
    else if k = 3 then insF L E o n r (sm0 k)
    else if k = 4 then updF L E o n r (sm0 k)
    else if k = 5 then rb (rwd L E r [[70, 82, 79, 77]]) fun _ r => rb (some (nameF L E r)) fun u r => rb (exB L E n [87, 72, 69, 82, 69] r o) fun ns r => rok { sm0 k with table := u, wh := ns } r
    else if k = 6 then chF L E o n r (sm0 k)
    else rok (sm0 k) r
theorem stF_kind {L : List Tk} {E o r k a : Nat} (h : kindF L E r = .ok (k, r)) (ha : a ≠ 8) (n : Nat) : stF L E o n a r = stK L E o k n r := by
  unfold stF
  rw [rb_ok (congrArg some h), if_neg ha]
  rfl
theorem kindF_ok {L : List Tk} {E r k r' : Nat} (h : kindF L E r = .ok (k, r')) : r' = r ∧ k < 7 := by
  unfold kindF at h
  have H : ∀ (us : List (List UInt8)) (j i : Nat), fdI (tokAt L E r) us j = some i → i < j + us.length := by
    intro us
    induction us with
    | nil => intro j i h; cases h
    | cons u us ih =>
      intro j i h
      unfold fdI at h
      split at h
      · injection h with h
        subst h
        simp
      · have := ih _ _ h
        simp
        omega
  cases hf : fdI (tokAt L E r) fwL 0 with
  | none => rw [hf] at h; cases h
  | some i =>
    rw [hf] at h
    simp only at h
    have := H fwL 0 i hf
    cases h
    exact ⟨rfl, by simpa [fwL] using this⟩
end Go.Proofs.YtiipglmbfgmbbaaGreatDoor
