/-
  A text that is wrong at a token is wrong there, whatever stands behind it.
-/
import Derived.Test.YtiipglmbfgmbbaaGreatDoorP48
import Derived.Test.YtiipglmbfgmbbaaGreatDoorP50
namespace Go.Proofs.YtiipglmbfgmbbaaGreatDoor
open Go.RowKit Go.Shelf

theorem lo_colS (n r : Nat) (s : Sm) : Lo r (fun L E => colS L E n r s) := Lo.rb (f := fun c r _ _ => rok (α := Sm) { s with cols := s.cols ++ [c] } r) (lo_col r) fun _ r' _ => Lo.ok _ (Nat.le_refl r')
theorem lo_insS (o n r : Nat) (s : Sm) : Lo r (fun L E => insS L E o n r s) := Lo.rb (f := fun ns r _ _ => rok (α := Sm) { s with sets := s.sets ++ [([], ns)] } r) (lo_exN n r o) fun _ r' _ => Lo.ok _ (Nat.le_refl r')
theorem lo_updS (o n r : Nat) (s : Sm) : Lo r (fun L E => updS L E o n r s) :=
  Lo.rb (f := fun u r L E => rb (rwd L E r [[61]]) fun _ r => rb (exN L E n r o) fun ns r => rok (α := Sm) { s with sets := s.sets ++ [(u, ns)] } r) (lo_name r) fun u r _ =>
  Lo.rb (f := fun _ r L E => rb (exN L E n r o) fun ns r => rok (α := Sm) { s with sets := s.sets ++ [(u, ns)] } r) (lo_words _ r) fun _ r _ =>
  Lo.rb (f := fun ns r _ _ => rok (α := Sm) { s with sets := s.sets ++ [(u, ns)] } r) (lo_exN n r o) fun _ r' _ => Lo.ok _ (Nat.le_refl r')
theorem lo_itS (o n r : Nat) (s : Sm) : Lo r (fun L E => itS L E o n r s) := Lo.rb (f := fun x r _ _ => rok (α := Sm) { s with items := s.items ++ [x] } r) (lo_it n r o) fun _ r' _ => Lo.ok _ (Nat.le_refl r')
theorem lo_cre (n r : Nat) (s : Sm) : Lo r (fun L E => creF L E n r s) :=
  Lo.rb (f := fun _ r L E => rb (some (nameF L E r)) fun u r => rb (rwd L E r [[40]]) fun _ r => rb (lsF L E (colS L E) n r { s with table := u }) fun s r => rb (rwd L E r [[41]]) fun _ r => rok s r) (lo_words _ r) fun _ r _ =>
  Lo.rb (f := fun u r L E => rb (rwd L E r [[40]]) fun _ r => rb (lsF L E (colS L E) n r { s with table := u }) fun s r => rb (rwd L E r [[41]]) fun _ r => rok s r) (lo_name r) fun u r _ =>
  Lo.rb (f := fun _ r L E => rb (lsF L E (colS L E) n r { s with table := u }) fun s r => rb (rwd L E r [[41]]) fun _ r => rok s r) (lo_words _ r) fun _ r _ =>
  Lo.rb (f := fun (s : Sm) r L E => rb (rwd L E r [[41]]) fun _ r => rok s r) (lo_ls (step := fun L E => colS L E) lo_colS n r _) fun s r _ =>
  Lo.rb (f := fun _ r _ _ => rok s r) (lo_words _ r) fun _ r' _ => Lo.ok _ (Nat.le_refl r')
theorem lo_ins (o n r : Nat) (s : Sm) : Lo r (fun L E => insF L E o n r s) :=
  Lo.rb (f := fun _ r L E => rb (some (nameF L E r)) fun u r => rb (rwd L E r [[86, 65, 76, 85, 69, 83], [40]]) fun _ r => rb (lsF L E (insS L E o) n r { s with table := u }) fun s r => rb (rwd L E r [[41]]) fun _ r => rok s r) (lo_words _ r) fun _ r _ =>
  Lo.rb (f := fun u r L E => rb (rwd L E r [[86, 65, 76, 85, 69, 83], [40]]) fun _ r => rb (lsF L E (insS L E o) n r { s with table := u }) fun s r => rb (rwd L E r [[41]]) fun _ r => rok s r) (lo_name r) fun u r _ =>
  Lo.rb (f := fun _ r L E => rb (lsF L E (insS L E o) n r { s with table := u }) fun s r => rb (rwd L E r [[41]]) fun _ r => rok s r) (lo_words _ r) fun _ r _ =>
  Lo.rb (f := fun (s : Sm) r L E => rb (rwd L E r [[41]]) fun _ r => rok s r) (lo_ls (step := fun L E => insS L E o) (lo_insS o) n r _) fun s r _ =>
  Lo.rb (f := fun _ r _ _ => rok s r) (lo_words _ r) fun _ r' _ => Lo.ok _ (Nat.le_refl r')
theorem lo_upd (o n r : Nat) (s : Sm) : Lo r (fun L E => updF L E o n r s) :=
  Lo.rb (f := fun u r L E => rb (rwd L E r [[83, 69, 84]]) fun _ r => rb (lsF L E (updS L E o) n r { s with table := u }) fun s r => rb (exB L E n [87, 72, 69, 82, 69] r o) fun ns r => rok (α := Sm) { s with wh := ns } r) (lo_name r) fun u r _ =>
  Lo.rb (f := fun _ r L E => rb (lsF L E (updS L E o) n r { s with table := u }) fun s r => rb (exB L E n [87, 72, 69, 82, 69] r o) fun ns r => rok (α := Sm) { s with wh := ns } r) (lo_words _ r) fun _ r _ =>
  Lo.rb (f := fun (s : Sm) r L E => rb (exB L E n [87, 72, 69, 82, 69] r o) fun ns r => rok (α := Sm) { s with wh := ns } r) (lo_ls (step := fun L E => updS L E o) (lo_updS o) n r _) fun s r _ =>
  Lo.rb (f := fun ns r _ _ => rok (α := Sm) { s with wh := ns } r) (lo_exB n _ r o) fun _ r' _ => Lo.ok _ (Nat.le_refl r')
theorem lo_chA (o n r : Nat) (s : Sm) : Lo r (fun L E => chA L E o n r s) :=
  Lo.rb (f := fun (s : Sm) r L E => rb (rwd L E r [[70, 82, 79, 77]]) fun _ r => rb (some (nameF L E r)) fun u r => rok (α := Sm) { s with table := u } r)
    (Lo.tok (F := fun t L E => if isB t [42] = true then rok (α := Sm) { s with star := true } (r + 1) else lsF L E (itS L E o) n r s) fun t => Lo.ite (Lo.ok _ (Nat.le_succ r)) (lo_ls (step := fun L E => itS L E o) (lo_itS o) n r s)) fun s r _ =>
  Lo.rb (f := fun _ r L E => rb (some (nameF L E r)) fun u r => rok (α := Sm) { s with table := u } r) (lo_words _ r) fun _ r _ =>
  Lo.rb (f := fun u r _ _ => rok (α := Sm) { s with table := u } r) (lo_name r) fun _ r' _ => Lo.ok _ (Nat.le_refl r')
theorem lo_chB (o n r : Nat) (s : Sm) : Lo r (fun L E => chB L E o n r s) :=
  Lo.tok (F := fun t L E => if isB t [73, 78, 78, 69, 82] = true then rb (rwd L E (r + 1) [[74, 79, 73, 78]]) fun _ r => rb (some (nameF L E r)) fun u r => rb (rwd L E r [[79, 78]]) fun _ r => rb (exN L E n r o) fun ns r => rok (α := Sm) { s with join := u, on := ns } r else rok s r) fun t =>
    Lo.ite ((Lo.rb (f := fun _ r L E => rb (some (nameF L E r)) fun u r => rb (rwd L E r [[79, 78]]) fun _ r => rb (exN L E n r o) fun ns r => rok (α := Sm) { s with join := u, on := ns } r) (lo_words _ (r + 1)) fun _ r _ =>
      Lo.rb (f := fun u r L E => rb (rwd L E r [[79, 78]]) fun _ r => rb (exN L E n r o) fun ns r => rok (α := Sm) { s with join := u, on := ns } r) (lo_name r) fun u r _ =>
      Lo.rb (f := fun _ r L E => rb (exN L E n r o) fun ns r => rok (α := Sm) { s with join := u, on := ns } r) (lo_words _ r) fun _ r _ =>
      Lo.rb (f := fun ns r _ _ => rok (α := Sm) { s with join := u, on := ns } r) (lo_exN n r o) fun _ r' _ => Lo.ok _ (Nat.le_refl r')).weak (Nat.le_succ r)) (Lo.ok _ (Nat.le_refl r))
theorem lo_chC (o n r : Nat) (s : Sm) : Lo r (fun L E => chC L E o n r s) :=
  Lo.rb (f := fun ns r L E => rb (some (refB L E [71, 82, 79, 85, 80] r)) fun g r => rb (some (refB L E [79, 82, 68, 69, 82] r)) fun d r => rok (α := Sm) { s with wh := ns, gt := g.1, gn := g.2, ot := d.1, on_ := d.2 } r) (lo_exB n _ r o) fun ns r _ =>
  Lo.rb (f := fun g r L E => rb (some (refB L E [79, 82, 68, 69, 82] r)) fun d r => rok (α := Sm) { s with wh := ns, gt := g.1, gn := g.2, ot := d.1, on_ := d.2 } r) (lo_refB _ r) fun g r _ =>
  Lo.rb (f := fun d r _ _ => rok (α := Sm) { s with wh := ns, gt := g.1, gn := g.2, ot := d.1, on_ := d.2 } r) (lo_refB _ r) fun _ r' _ => Lo.ok _ (Nat.le_refl r')
theorem lo_chD (r : Nat) (s : Sm) : Lo r (fun L E => chD L E r s) :=
  Lo.tok (F := fun t _ _ => if s.ot = [] ∧ s.on_ = [] then rok s r else if isB t [65, 83, 67] = true then rok s (r + 1) else if isB t [68, 69, 83, 67] = true then rok (α := Sm) { s with desc := true } (r + 1) else rok (α := Sm) { s with desc := false } r) fun t =>
    Lo.ite (Lo.ok _ (Nat.le_refl r)) (Lo.ite (Lo.ok _ (Nat.le_succ r)) (Lo.ite (Lo.ok _ (Nat.le_succ r)) (Lo.ok _ (Nat.le_refl r))))
theorem lo_chE (r : Nat) (s : Sm) : Lo r (fun L E => chE L E r s) :=
  Lo.tok (F := fun t L E => if isB t [76, 73, 77, 73, 84] = true then (fun t2 : Tk => if (t2.kind == 3) = true then rok (α := Sm) { s with limit := t2.num } (r + 2) else some (.error (210, r + 1))) (tokAt L E (r + 1)) else rok s r) fun t =>
    Lo.ite ((Lo.tok (r := r + 1) (F := fun t2 _ _ => if (t2.kind == 3) = true then rok (α := Sm) { s with limit := t2.num } (r + 2) else some (.error (210, r + 1))) fun t2 => Lo.ite (Lo.ok _ (by omega)) (Lo.err _ (Nat.le_refl (r + 1)))).weak (Nat.le_succ r)) (Lo.ok _ (Nat.le_refl r))
theorem lo_ch (o n r : Nat) (s : Sm) : Lo r (fun L E => chF L E o n r s) :=
  Lo.rb (f := fun (s : Sm) r L E => rb (chB L E o n r s) fun s r => rb (chC L E o n r s) fun s r => rb (chD L E r s) fun s r => chE L E r s) (lo_chA o n r s) fun s r _ =>
  Lo.rb (f := fun (s : Sm) r L E => rb (chC L E o n r s) fun s r => rb (chD L E r s) fun s r => chE L E r s) (lo_chB o n r s) fun s r _ =>
  Lo.rb (f := fun (s : Sm) r L E => rb (chD L E r s) fun s r => chE L E r s) (lo_chC o n r s) fun s r _ =>
  Lo.rb (f := fun (s : Sm) r L E => chE L E r s) (lo_chD r s) fun s r _ => lo_chE r s
theorem lo_st (o n a r : Nat) : Lo r (fun L E => stF L E o n a r) :=
  Lo.cast (X := fun L E => rb (some (kindF L E r)) fun k r => if a = 8 then some (.error (212, r)) else stK L E o k n r)
    (Lo.rb (f := fun k r L E => if a = 8 then some (.error (212, r)) else stK L E o k n r) (lo_kind r) fun k r _ =>
      Lo.ite (Lo.err _ (Nat.le_refl r))
        (Lo.rb (f := fun _ r L E => if k = 1 then creF L E n r (sm0 k)
    else if k = 2 then rb (rwd L E r [[84, 65, 66, 76, 69]]) fun _ r => rb (some (nameF L E r)) fun u r => rok (α := Sm) { sm0 k with table := u } r
    else if k = 3 then insF L E o n r (sm0 k)
    else if k = 4 then updF L E o n r (sm0 k)
    else if k = 5 then rb (rwd L E r [[70, 82, 79, 77]]) fun _ r => rb (some (nameF L E r)) fun u r => rb (exB L E n [87, 72, 69, 82, 69] r o) fun ns r => rok (α := Sm) { sm0 k with table := u, wh := ns } r
    else if k = 6 then chF L E o n r (sm0 k)
    else rok (sm0 k) r) (lo_words _ r) fun _ r _ =>
          Lo.ite (lo_cre n r _) (Lo.ite
            (Lo.rb (f := fun _ r L E => rb (some (nameF L E r)) fun u r => rok (α := Sm) { sm0 k with table := u } r) (lo_words _ r) fun _ r _ => Lo.rb (f := fun u r _ _ => rok (α := Sm) { sm0 k with table := u } r) (lo_name r) fun _ r' _ => Lo.ok _ (Nat.le_refl r'))
            (Lo.ite (lo_ins o n r _) (Lo.ite (lo_upd o n r _) (Lo.ite
              (Lo.rb (f := fun _ r L E => rb (some (nameF L E r)) fun u r => rb (exB L E n [87, 72, 69, 82, 69] r o) fun ns r => rok (α := Sm) { sm0 k with table := u, wh := ns } r) (lo_words _ r) fun _ r _ => Lo.rb (f := fun u r L E => rb (exB L E n [87, 72, 69, 82, 69] r o) fun ns r => rok (α := Sm) { sm0 k with table := u, wh := ns } r) (lo_name r) fun u r _ => Lo.rb (f := fun ns r _ _ => rok (α := Sm) { sm0 k with table := u, wh := ns } r) (lo_exB n _ r o) fun _ r' _ => Lo.ok _ (Nat.le_refl r'))
              (Lo.ite (lo_ch o n r _) (Lo.ok _ (Nat.le_refl r)))))))))
    (fun L E => rfl)
theorem sts_lo (o : Nat) (L L' : List Tk) (E E' : Nat) : ∀ (n r : Nat) (ss : List Sm) (er : Int) (i : Nat), stsF L E o n r ss = some (.error (er, i)) → i < L.length → i < L'.length → (∀ j, j ≤ i → tokAt L E j = tokAt L' E' j) → r ≤ i ∧ stsF L' E' o n r ss = some (.error (er, i))
  | 0, r, ss, er, i, h, _, _, _ => by cases h
  | n + 1, r, ss, er, i, h, hi, hi', ha => by
    unfold stsF at h ⊢
    by_cases hc : ss.length = 0 ∨ r < L.length
    · rw [if_pos hc] at h
      cases hs : stF L E o n ss.length r with
      | none => rw [hs] at h; cases h
      | some z =>
        have k := lo_st o n ss.length r L L' E E' z hs
        rw [hs] at h
        rcases z with ⟨e, p⟩ | ⟨s, r'⟩
        · injection h with h
          injection h with h
          injection h with h1 h2
          subst h1
          subst h2
          have hr : r ≤ p := k.1
          refine ⟨hr, ?_⟩
          have k2 : stF L' E' o n ss.length r = some (.error (e, p)) := k.2 ha
          rw [if_pos (hc.imp_right fun _ => by omega), k2]
        · have hr : r ≤ r' := k.1
          simp only at h
          by_cases hl : r' < L.length
          · rw [if_pos hl] at h
            cases hw : wordsF L E r' [[59]] with
            | error x =>
              obtain ⟨e, p⟩ := x
              have kw := lo_words [[59]] r' L L' E E' (.error (e, p)) (by show rwd L E r' [[59]] = _; unfold rwd; rw [hw])
              rw [hw] at h
              injection h with h
              injection h with h
              injection h with h1 h2
              subst h1
              subst h2
              have hp : r' ≤ p := kw.1
              refine ⟨by omega, ?_⟩
              have k2 : stF L' E' o n ss.length r = some (.ok (s, r')) := k.2 fun j hj => ha j (by have : j ≤ r' := hj; omega)
              have k3 := rwd_err (kw.2 ha)
              rw [if_pos (hc.imp_right fun _ => by omega), k2]
              simp only
              rw [if_pos (show r' < L'.length by omega), k3]
            | ok r2 =>
              have kw := lo_words [[59]] r' L L' E E' (.ok ((), r2)) (by show rwd L E r' [[59]] = _; unfold rwd; rw [hw])
              rw [hw] at h
              have hp : r' ≤ r2 := kw.1
              have ih := sts_lo o L L' E E' n r2 (ss ++ [s]) er i h hi hi' ha
              refine ⟨by omega, ?_⟩
              have k2 : stF L' E' o n ss.length r = some (.ok (s, r')) := k.2 fun j hj => ha j (by have : j ≤ r' := hj; omega)
              have k3 := rwd_ok (kw.2 fun j hj => ha j (by have : j ≤ r2 := hj; omega))
              rw [if_pos (hc.imp_right fun _ => by omega), k2]
              simp only
              rw [if_pos (show r' < L'.length by omega), k3]
              exact ih.2
          · rw [if_neg hl] at h
            exfalso
            cases n with
            | zero => cases h
            | succ n =>
              unfold stsF at h
              rw [if_neg (by simp; omega)] at h
              cases h
    · rw [if_neg hc] at h
      cases h
/-! What is wrong with tokens has numbers of its own. -/
theorem begS_code (m : List UInt8) : (begS m).2.2 = 0 ∨ (begS m).2.2 = 200 ∨ (begS m).2.2 = 201 := by
  unfold begS wordS numS quotedS
  repeat' split
  all_goals first | exact .inl rfl | exact .inr (.inl rfl) | exact .inr (.inr rfl)
theorem toksS_code : ∀ (n p : Nat) (m : List UInt8), ∀ x ∈ toksS n p m, x.2 = 0 ∨ x.2 = 200 ∨ x.2 = 201
  | 0, p, m, x, hx => by cases hx
  | n + 1, p, m, x, hx => by
    have hc := begS_code m
    have hm : (mkT p (begS m)).2 = 0 ∨ (mkT p (begS m)).2 = 200 ∨ (mkT p (begS m)).2 = 201 := by
      unfold mkT
      split
      · exact .inl rfl
      · exact hc
    unfold toksS at hx
    split at hx
    · cases hx
    · split at hx
      · rcases List.mem_cons.1 hx with rfl | hx
        · exact hm
        · exact toksS_code n _ _ x hx
      · rcases List.mem_cons.1 hx with rfl | hx
        · exact hm
        · cases hx
theorem lexG_code : ∀ (S : List (Tk × Int)) (k : Nat) (e : Int) (a : Nat), (∀ x ∈ S, x.2 = 0 ∨ x.2 = 200 ∨ x.2 = 201) → lexG k S = some (e, a) → e = 3 ∨ e = 200 ∨ e = 201
  | [], k, e, a, _, h => by cases h
  | (t, x) :: S, k, e, a, hS, h => by
    have h0 : x = 0 ∨ x = 200 ∨ x = 201 := hS (t, x) (List.mem_cons_self ..)
    unfold lexG at h
    by_cases c : x ≠ 0
    · rw [if_pos c] at h
      injection h with h
      injection h with h1 h2
      subst h1
      exact .inr (h0.resolve_left c)
    · rw [if_neg c] at h
      by_cases c2 : k = 300
      · rw [if_pos c2] at h
        injection h with h
        injection h with h1 h2
        exact .inl h1.symm
      · rw [if_neg c2] at h
        exact lexG_code S (k + 1) e a (fun y hy => hS y (List.mem_cons_of_mem _ hy)) h
theorem lexF_code (l : List UInt8) : (lexF l).2.1 = 0 ∨ (lexF l).2.1 = 3 ∨ (lexF l).2.1 = 200 ∨ (lexF l).2.1 = 201 := by
  unfold lexF
  by_cases c : 1024 < l.length
  · rw [if_pos c]; exact .inr (.inl rfl)
  · rw [if_neg c, tokL_S]
    cases hg : lexG 0 (tkS l) with
    | none => exact .inl rfl
    | some x =>
      obtain ⟨e, a⟩ := x
      exact .inr (lexG_code _ _ _ _ (toksS_code _ _ _) hg)
theorem plc_inc {l : List UInt8} : ∀ (ts : List Tk) (e i : Nat), Plc l e ts → i < ts.length → e ≤ (ts.getD i (errT 0)).at_ ∧ (ts.getD i (errT 0)).at_ < l.length ∧ ∀ j, j < i → (ts.getD j (errT 0)).at_ < (ts.getD i (errT 0)).at_
  | [], e, i, h, hi => by simp at hi
  | t :: ts, e, 0, h, hi => by
    obtain ⟨h1, h2, h3, -⟩ := h
    exact ⟨by show e ≤ t.at_; omega, by show t.at_ < l.length; omega, fun j hj => by omega⟩
  | t :: ts, e, i + 1, h, hi => by
    obtain ⟨h1, h2, h3, h4, h5, h6⟩ := h
    obtain ⟨k1, k2, k3⟩ := plc_inc ts t.to_ i h6 (by simpa using hi)
    refine ⟨by show e ≤ (ts.getD i (errT 0)).at_; omega, k2, fun j hj => ?_⟩
    cases j with
    | zero => show t.at_ < (ts.getD i (errT 0)).at_; omega
    | succ j => exact k3 j (by omega)
theorem tokAt_in {L : List Tk} {E j : Nat} (h : j < L.length) : tokAt L E j = L.getD j (errT 0) := by
  unfold tokAt
  simp [List.getD, h]
/-- Where a text is wrong. -/
theorem psF_first {n : Nat} {l : List UInt8} {ss : List Sm} {er : Int} {a : Nat} (h : psF n l = some (ss, er, a)) (her : er = 210 ∨ er = 211) :
    ∃ ts, lexF l = (ts, 0, 0) ∧ ts.length ≤ 300 ∧ ((a = l.length ∧ ∀ j, j < ts.length → (ts.getD j (errT 0)).at_ ≠ a) ∨
      ∃ i, i < ts.length ∧ (ts.getD i (errT 0)).at_ = a ∧ (ts.getD i (errT 0)).to_ ≤ l.length ∧ (∀ j, j < i → (ts.getD j (errT 0)).at_ ≠ a) ∧
        ∀ b ts' a', lexF (l.take (ts.getD i (errT 0)).to_ ++ 32 :: b) = (ts', 0, a') → psF n (l.take (ts.getD i (errT 0)).to_ ++ 32 :: b) = some ([], er, a)) := by
  obtain ⟨⟨ts, e0, a0⟩, hX⟩ : ∃ X, lexF l = X := ⟨_, rfl⟩
  have hcode := lexF_code l
  unfold psF at h
  rw [hX] at h hcode
  by_cases he : e0 = 0
  · subst he
    obtain ⟨hp, h300, rfl, -⟩ := lexF_plc hX
    refine ⟨ts, hX, h300, ?_⟩
    rw [if_neg (by simp)] at h
    simp only at h
    cases hs : stsF ts l.length 0 n 0 [] with
    | none => rw [hs] at h; cases h
    | some z =>
      rw [hs] at h
      rcases z with ⟨e, i⟩ | ls
      · simp only [Option.some.injEq, Prod.mk.injEq] at h
        obtain ⟨-, rfl, rfl⟩ := h
        by_cases hi : i < ts.length
        · obtain ⟨-, k2, k3⟩ := plc_inc ts 0 i hp hi
          have hlow := (plc_low ts 0 i hp hi).2
          rw [tokAt_in hi]
          refine .inr ⟨i, hi, rfl, hlow, fun j hj => Nat.ne_of_lt (k3 j hj), fun b ts' a' hl' => ?_⟩
          have hpre := lex_pre hX hi hl'
          have ha : ∀ j, j ≤ i → tokAt ts l.length j = tokAt ts' (l.take (ts.getD i (errT 0)).to_ ++ 32 :: b).length j := fun j hj => by
            rw [tokAt_in (by omega), tokAt_in (hpre j hj).2, (hpre j hj).1]
          have hst := (sts_lo 0 ts ts' l.length (l.take (ts.getD i (errT 0)).to_ ++ 32 :: b).length n 0 [] e i hs hi (hpre i (Nat.le_refl i)).2 ha).2
          unfold psF
          rw [hl', if_neg (by simp)]
          simp only [hst]
          rw [← ha i (Nat.le_refl i), tokAt_in hi]
        · refine .inl ⟨?_, fun j hj => ?_⟩
          · have : tokAt ts l.length i = endT l.length := by unfold tokAt; simp [List.getD, List.getElem?_eq_none (Nat.le_of_not_lt hi)]
            rw [this]
            rfl
          · have : tokAt ts l.length i = endT l.length := by unfold tokAt; simp [List.getD, List.getElem?_eq_none (Nat.le_of_not_lt hi)]
            rw [this]
            exact Nat.ne_of_lt (plc_inc ts 0 j hp hj).2.1
      · simp only [Option.some.injEq, Prod.mk.injEq] at h
        obtain ⟨-, rfl, -⟩ := h
        exact absurd her (by decide)
  · rw [if_pos he] at h
    simp only [Option.some.injEq, Prod.mk.injEq] at h
    obtain ⟨-, rfl, -⟩ := h
    exfalso
    simp only at hcode
    omega
end Go.Proofs.YtiipglmbfgmbbaaGreatDoor
