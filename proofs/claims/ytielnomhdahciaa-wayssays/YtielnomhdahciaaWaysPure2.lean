/-
  Ways, plainly: how far it is from the next one; how far it is back; who is found in the list.
-/
import Derived.Test.YtielnomhdahciaaWaysPure
namespace Go.Proofs.Ytielnomhdahciaa
open St

section
variable {C : Grid}
/-- Is it known, how far? -/
def farF (C : Grid) (r n : Nat) : Int := (roundsF C r 6 n).far
theorem far_nn (hC : ∀ x y, 0 ≤ C x y) {r : Nat} (hd : C r r = 0) (n : Nat) : 0 ≤ farF C r n := (rounds_sound hC hd 6).nn n
/-- No way is shorter. -/
theorem far_le (hC : ∀ x y, 0 ≤ C x y) {r : Nat} (hd : C r r = 0) {p : List Nat} (hp : okP C r p) {n : Nat} (hn : p.head? = some n) : 0 < farF C r n ∧ farF C r n ≤ pc C r p := by
  have := best_dom hC hd p hp n hn
  refine ⟨this.1, ?_⟩
  have h2 := this.2
  simp only [LEp, HP.v] at h2
  unfold farF
  omega
theorem far_root (hC : ∀ x y, 0 ≤ C x y) {r : Nat} (hd : C r r = 0) : farF C r r = 0 := by
  have h0 := far_nn hC hd r
  by_cases h : 0 < farF C r r
  · obtain ⟨_, q, q1, _, q3, _⟩ := best_way hC hd r h
    exact absurd rfl (head_lt q1 q3).2
  · omega
/-- Over an edge. -/
theorem far_edge (hC : ∀ x y, 0 ≤ C x y) {r : Nat} (hd : C r r = 0) (a b : Nat) (hb : b < 7) (hbr : b ≠ r) (he : 0 < C a b) (ha : a = r ∨ 0 < farF C r a) : 0 < farF C r b ∧ farF C r b ≤ (if a = r then 0 else farF C r a) + C a b := by
  by_cases har : a = r
  · subst har
    rw [if_pos rfl]
    have := far_le hC hd (p := [b]) ⟨he, hbr, hb⟩ rfl
    simp only [pc] at this
    omega
  · rw [if_neg har]
    have ha2 : 0 < farF C r a := ha.resolve_left har
    obtain ⟨_, q, q1, _, q3, q4, _⟩ := best_way hC hd a ha2
    cases q with
    | nil => exact q1.elim
    | cons m l =>
      have : m = a := by simpa using q3
      subst this
      have := far_le hC hd (p := b :: m :: l) ⟨q1, he, hbr, hb⟩ rfl
      simp only [pc] at this
      unfold farF at *
      omega
/-- A way without its first edge is one from who is first. -/
theorem drop_first {r : Nat} : ∀ (q : List Nat), okP C r q → q.Nodup → q.head? ≠ some (fstP q) → ∃ t, okP C (fstP q) t ∧ t.head? = q.head? ∧ pc C r q = C r (fstP q) + pc C (fstP q) t
  | [], h, _, _ => h.elim
  | [n], _, _, hne => absurd rfl hne
  | [n, m], h, hd, _ => by
    refine ⟨[n], ⟨h.2.1, ?_, h.2.2.2⟩, rfl, ?_⟩
    · have := (List.nodup_cons.1 hd).1
      intro e
      exact this (by simp [e, fstP])
    · simp only [pc, fstP]
  | n :: m :: x :: l, h, hd, _ => by
    obtain ⟨hn, hd2⟩ := List.nodup_cons.1 hd
    have mem_fst : ∀ q : List Nat, q ≠ [] → fstP q ∈ q := by
      intro q
      induction q with
      | nil => intro h; exact absurd rfl h
      | cons a t ih =>
        intro _
        cases t with
        | nil => simp [fstP]
        | cons b u =>
          have := ih (by simp)
          simp only [fstP]
          exact List.mem_cons_of_mem _ this
    have hm : (m :: x :: l).head? ≠ some (fstP (m :: x :: l)) := by
      intro e
      have e2 : m = fstP (x :: l) := by simpa [fstP] using e
      have := (List.nodup_cons.1 hd2).1
      rw [e2] at this
      exact this (mem_fst (x :: l) (by simp))
    obtain ⟨t, t1, t2, t3⟩ := drop_first (m :: x :: l) h.1 hd2 hm
    cases t with
    | nil => exact t1.elim
    | cons y u =>
      have hy : y = m := by simpa using t2
      subst hy
      have hf : fstP (n :: y :: x :: l) = fstP (y :: x :: l) := rfl
      rw [hf]
      refine ⟨n :: y :: u, ⟨t1, h.2.1, ?_, h.2.2.2⟩, rfl, ?_⟩
      · intro e
        rw [e] at hn
        exact hn (mem_fst (y :: x :: l) (by simp))
      · simp only [pc] at t3 ⊢
        omega
/-- The first edge ahead of a way; where that comes by the root, there is a shorter one. -/
theorem put_first (hC : ∀ x y, 0 ≤ C x y) {r f : Nat} (hf : 0 < C r f) (hfr : f ≠ r) (hf7 : f < 7) : ∀ (q : List Nat), okP C f q → q.head? ≠ some r → ∃ t, okP C r t ∧ t.head? = q.head? ∧ pc C r t ≤ C r f + pc C f q
  | [], h, _ => h.elim
  | [n], h, hne => by
    have hn : n ≠ r := fun e => hne (by simp [e])
    exact ⟨[n, f], ⟨⟨hf, hfr, hf7⟩, h.1, hn, h.2.2⟩, rfl, by simp [pc]⟩
  | n :: m :: l, h, hne => by
    have hn : n ≠ r := fun e => hne (by simp [e])
    by_cases hm : m = r
    · subst hm
      refine ⟨[n], ⟨h.2.1, hn, h.2.2.2⟩, rfl, ?_⟩
      have := okP_pos hC _ h.1
      simp only [pc]
      omega
    · obtain ⟨t, t1, t2, t3⟩ := put_first hC hf hfr hf7 (m :: l) h.1 (by simpa using hm)
      cases t with
      | nil => exact t1.elim
      | cons y u =>
        have hy : y = m := by simpa using t2
        subst hy
        refine ⟨n :: y :: u, ⟨t1, h.2.1, hn, h.2.2.2⟩, rfl, ?_⟩
        simp only [pc]
        omega
theorem fst_edge {r : Nat} : ∀ q : List Nat, okP C r q → 0 < C r (fstP q) ∧ fstP q ≠ r ∧ fstP q < 7
  | [], h => h.elim
  | [_], h => h
  | _ :: m :: l, h => fst_edge (m :: l) h.1
/-- Who is next is nearer by just the edge. -/
theorem far_next (hC : ∀ x y, 0 ≤ C x y) (hd : ∀ x, C x x = 0) (r n : Nat) (hn : 0 < farF C r n) :
    ∃ f : Nat, (roundsF C r 6 n).nxt = (f : Int) ∧ 0 < C r f ∧ f ≠ r ∧ f < 7 ∧ (f ≠ n → 0 < farF C f n) ∧ farF C r n = C r f + (if f = n then 0 else farF C f n) := by
  obtain ⟨_, q, q1, q2, q3, q4, q5⟩ := best_way hC (hd r) n hn
  have hfe := fst_edge q q1
  refine ⟨fstP q, q5.symm, hfe.1, hfe.2.1, hfe.2.2, ?_⟩
  by_cases e : fstP q = n
  · refine ⟨fun h => absurd e h, ?_⟩
    rw [if_pos e]
    have h1 := far_le hC (hd r) (p := [fstP q]) ⟨hfe.1, hfe.2.1, hfe.2.2⟩ rfl
    rw [e] at h1 hfe ⊢
    simp only [pc] at h1
    have key : ∀ p : List Nat, okP C r p → C r (fstP p) ≤ pc C r p := by
      intro p
      induction p with
      | nil => intro h; exact h.elim
      | cons a t ih =>
        intro h
        cases t with
        | nil => simp [fstP, pc]
        | cons b u =>
          have := ih h.1
          have h3 := h.2.1
          simp only [fstP, pc]
          omega
    have h2 := key q q1
    rw [e, q4] at h2
    unfold farF at *
    omega
  · obtain ⟨t, t1, t2, t3⟩ := drop_first q q1 q2 (by rw [q3]; intro h; exact e (Option.some.inj h).symm)
    have h1 := far_le hC (hd (fstP q)) t1 (by rw [t2]; exact q3)
    refine ⟨fun _ => h1.1, ?_⟩
    rw [if_neg e]
    obtain ⟨_, s, s1, _, s3, s4, _⟩ := best_way hC (hd (fstP q)) n h1.1
    have hnr := (head_lt q1 q3).2
    obtain ⟨u, u1, u2, u3⟩ := put_first hC hfe.1 hfe.2.1 hfe.2.2 s s1 (by rw [s3]; intro h; exact hnr (Option.some.inj h))
    have h2 := far_le hC (hd r) u1 (by rw [u2]; exact s3)
    unfold farF at *
    omega
/-- Back. -/
def wc (C : Grid) : List Nat → Int
  | [] => 0
  | [_] => 0
  | n :: m :: l => wc C (m :: l) + C m n
def okW (C : Grid) : List Nat → Prop
  | [] => True
  | [_] => True
  | n :: m :: l => okW C (m :: l) ∧ 0 < C m n
theorem wc_pc {r : Nat} : ∀ q : List Nat, okP C r q → wc C (q ++ [r]) = pc C r q ∧ okW C (q ++ [r])
  | [], h => h.elim
  | [n], h => ⟨by simp [wc, pc], by simp [okW, h.1]⟩
  | n :: m :: l, h => by
    obtain ⟨h1, h2⟩ := wc_pc (m :: l) h.1
    exact ⟨by simp only [List.cons_append, wc, pc] at h1 ⊢; rw [h1], ⟨h2, h.2.1⟩⟩
theorem wc_snoc (hs : ∀ x y, C x y = C y x) (x : Nat) : ∀ l : List Nat, ∀ y, wc C (l ++ [y] ++ [x]) = wc C (l ++ [y]) + C y x ∧ (okW C (l ++ [y]) → 0 < C y x → okW C (l ++ [y] ++ [x]))
  | [], y => ⟨by simp [wc]; exact hs x y, fun _ h => by simp [okW]; rw [hs x y]; exact h⟩
  | [a], y => by
    obtain ⟨h1, h2⟩ := wc_snoc hs x [] y
    refine ⟨?_, fun k1 k2 => ?_⟩
    · simp only [List.nil_append, List.cons_append, wc] at h1 ⊢
      omega
    · exact ⟨h2 (by simp [okW]) k2, k1.2⟩
  | a :: b :: l, y => by
    obtain ⟨h1, h2⟩ := wc_snoc hs x (b :: l) y
    refine ⟨?_, fun k1 k2 => ?_⟩
    · simp only [List.cons_append, wc] at h1 ⊢
      omega
    · exact ⟨h2 k1.1 k2, k1.2⟩
theorem wc_rev (hs : ∀ x y, C x y = C y x) : ∀ l : List Nat, okW C l → wc C l.reverse = wc C l ∧ okW C l.reverse
  | [], _ => ⟨rfl, trivial⟩
  | [a], _ => ⟨rfl, trivial⟩
  | a :: b :: l, h => by
    obtain ⟨h1, h2⟩ := wc_rev hs (b :: l) h.1
    have e : (a :: b :: l).reverse = l.reverse ++ [b] ++ [a] := by simp
    have e2 : (b :: l).reverse = l.reverse ++ [b] := by simp
    rw [e2] at h1 h2
    obtain ⟨k1, k2⟩ := wc_snoc hs a l.reverse b
    rw [e]
    refine ⟨?_, k2 h2 h.2⟩
    rw [k1, h1]
    simp only [wc]
theorem pc_of_wc {r : Nat} : ∀ q : List Nat, q ≠ [] → okW C (q ++ [r]) → (∀ x ∈ q, x < 7 ∧ x ≠ r) → okP C r q
  | [], h, _, _ => absurd rfl h
  | [n], _, h, hx => ⟨h.2, (hx n (by simp)).2, (hx n (by simp)).1⟩
  | n :: m :: l, _, h, hx => ⟨pc_of_wc (m :: l) (by simp) h.1 (fun x hm => hx x (List.mem_cons_of_mem _ hm)), h.2, (hx n (by simp)).2, (hx n (by simp)).1⟩
theorem far_back (hC : ∀ x y, 0 ≤ C x y) (hd : ∀ x, C x x = 0) (hs : ∀ x y, C x y = C y x) (a b : Nat) (ha : a < 7) (h : 0 < farF C a b) : 0 < farF C b a ∧ farF C b a ≤ farF C a b := by
  obtain ⟨_, q, q1, q2, q3, q4, _⟩ := best_way hC (hd a) b h
  obtain ⟨w1, w2⟩ := wc_pc q q1
  have hx := ok_lt q1
  cases q with
  | nil => exact q1.elim
  | cons m l =>
    have hm : m = b := by simpa using q3
    subst hm
    obtain ⟨r1, r2⟩ := wc_rev hs _ w2
    have e : (m :: l ++ [a]).reverse = (a :: l.reverse) ++ [m] := by simp
    rw [e] at r1 r2
    obtain ⟨hml, hdl⟩ := List.nodup_cons.1 q2
    have hok : okP C m (a :: l.reverse) := by
      refine pc_of_wc _ (by simp) r2 (fun x hxm => ?_)
      rcases List.mem_cons.1 hxm with e | e
      · subst e
        exact ⟨ha, fun e => (hx m (by simp)).2 e.symm⟩
      · have hxl : x ∈ l := by simpa using e
        exact ⟨(hx x (List.mem_cons_of_mem _ hxl)).1, fun e => hml (by rw [← e]; exact hxl)⟩
    have h1 := far_le hC (hd m) hok rfl
    have h2 := (wc_pc _ hok).1
    unfold farF at *
    omega
theorem far_same (hC : ∀ x y, 0 ≤ C x y) (hd : ∀ x, C x x = 0) (hs : ∀ x y, C x y = C y x) (a b : Nat) (ha : a < 7) (hb : b < 7) : farF C a b = farF C b a := by
  have h1 := far_nn hC (hd a) b
  have h2 := far_nn hC (hd b) a
  by_cases k1 : 0 < farF C a b
  · have := far_back hC hd hs a b ha k1
    have := far_back hC hd hs b a hb this.1
    omega
  · by_cases k2 : 0 < farF C b a
    · have := far_back hC hd hs b a hb k2
      omega
    · omega
/-- Who is found in the list. -/
theorem lst_mem (H : Nat → HP) : ∀ n h, h ∈ lstF H n ↔ ∃ k, k < n ∧ h = H k ∧ 0 < (H k).far
  | 0, h => by simp [lstF]
  | n + 1, h => by
    have ih := lst_mem H n h
    simp only [lstF]
    split
    · rename_i hp
      rw [List.mem_append, ih]
      constructor
      · rintro (⟨k, h1, h2, h3⟩ | h1)
        · exact ⟨k, by omega, h2, h3⟩
        · exact ⟨n, by omega, by simpa using h1, hp⟩
      · rintro ⟨k, h1, h2, h3⟩
        by_cases e : k = n
        · subst e
          exact .inr (by simp [h2])
        · exact .inl ⟨k, by omega, h2, h3⟩
    · rename_i hp
      rw [ih]
      constructor
      · rintro ⟨k, h1, h2, h3⟩
        exact ⟨k, by omega, h2, h3⟩
      · rintro ⟨k, h1, h2, h3⟩
        by_cases e : k = n
        · subst e
          exact absurd h3 hp
        · exact ⟨k, by omega, h2, h3⟩
theorem hops_mem (C : Grid) (r : Nat) (x : HP) : x ∈ hopsL C r ↔ ∃ k, k < 7 ∧ x = roundsF C r 6 k ∧ 0 < farF C r k := lst_mem (roundsF C r 6) 7 x
theorem to_hops (hC : ∀ x y, 0 ≤ C x y) {r : Nat} (hd : C r r = 0) (n : Nat) (hn : n < 7) : toH (hopsL C r) (n : Int) = if 0 < farF C r n then some (roundsF C r 6 n) else none := by
  have dst : ∀ k, 0 < farF C r k → (roundsF C r 6 k).dst = (k : Int) := fun k hk => (best_way hC hd k hk).1
  by_cases h : 0 < farF C r n
  · rw [if_pos h]
    unfold toH
    have hex : ∃ x ∈ hopsL C r, (x.dst == (n : Int)) = true := ⟨roundsF C r 6 n, (hops_mem C r _).2 ⟨n, hn, rfl, h⟩, by rw [dst n h]; simp⟩
    obtain ⟨x, hx⟩ := Option.isSome_iff_exists.1 (List.find?_isSome.2 hex)
    rw [hx]
    have h1 := List.mem_of_find?_eq_some hx
    have h2 := List.find?_some hx
    obtain ⟨k, _, hk, k3⟩ := (hops_mem C r x).1 h1
    have h3 : x.dst = (n : Int) := by simpa using h2
    rw [hk, dst k k3] at h3
    have : k = n := by omega
    rw [hk, this]
  · rw [if_neg h]
    unfold toH
    rw [List.find?_eq_none]
    intro x hx he
    obtain ⟨k, _, hk, k3⟩ := (hops_mem C r x).1 hx
    have h3 : x.dst = (n : Int) := by simpa using he
    rw [hk, dst k k3] at h3
    have : k = n := by omega
    rw [this] at k3
    exact h k3
end
end Go.Proofs.Ytielnomhdahciaa
