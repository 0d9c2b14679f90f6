/-
  One end of a link: what stays within bounds.
-/
import Derived.Test.YtgfjgenkpfdofaaDoorLinkAll2
import Derived.Test.YtgfjgenkpfdofaaDoorRFault
namespace Go.Proofs.YtgfjgenkpfdofaaDoor
open Go.RowKit

def lfL : List UInt8 → Int → Int
  | [], x => x
  | c :: r, x => lfL r (if c = 105 then 4 else if c = 122 then 0 else if c = 114 then x - 1 else if c = 116 then x - 1 else x)
def wtL : List UInt8 → Int → Int
  | [], x => x
  | c :: r, x => wtL r (if c = 105 then x else if c = 122 then 3 else if c = 114 then 3 else if c = 116 then 3 else x)
theorem run_parts : ∀ (L : List UInt8) (s : LS), 0 ≤ s.ow → s.ow ≤ 255 → (runS L s).st = s.st ∧ (runS L s).sz = s.sz ∧ (runS L s).fs = s.fs ∧ (runS L s).fm = s.fm ∧ (runS L s).ns = s.ns ∧ (runS L s).nm = s.nm ∧ (runS L s).lf = lfL L s.lf ∧ (runS L s).wt = wtL L s.wt ∧ 0 ≤ (runS L s).ow ∧ (runS L s).ow ≤ 255
  | [], s, h1, h2 => ⟨rfl, rfl, rfl, rfl, rfl, rfl, rfl, rfl, h1, h2⟩
  | c :: r, s, h1, h2 => by
    have e : runS (c :: r) s = runS r (actS c s) := rfl
    have hp : (actS c s).st = s.st ∧ (actS c s).sz = s.sz ∧ (actS c s).fs = s.fs ∧ (actS c s).fm = s.fm ∧ (actS c s).ns = s.ns ∧ (actS c s).nm = s.nm ∧ (actS c s).lf = (if c = 105 then 4 else if c = 122 then 0 else if c = 114 then s.lf - 1 else if c = 116 then s.lf - 1 else s.lf) ∧ (actS c s).wt = (if c = 105 then s.wt else if c = 122 then 3 else if c = 114 then 3 else if c = 116 then 3 else s.wt) ∧ 0 ≤ (actS c s).ow ∧ (actS c s).ow ≤ 255 := by
      by_cases c1 : c = 105
      · subst c1
        exact ⟨rfl, rfl, rfl, rfl, rfl, rfl, rfl, rfl, h1, h2⟩
      · by_cases c2 : c = 122
        · subst c2
          exact ⟨rfl, rfl, rfl, rfl, rfl, rfl, rfl, rfl, h1, h2⟩
        · by_cases c3 : c = 114
          · subst c3
            exact ⟨rfl, rfl, rfl, rfl, rfl, rfl, rfl, rfl, by show 0 ≤ (s.ow + 1) % 256; omega, by show (s.ow + 1) % 256 ≤ 255; omega⟩
          · by_cases c4 : c = 116
            · subst c4
              exact ⟨rfl, rfl, rfl, rfl, rfl, rfl, rfl, rfl, by show 0 ≤ (s.ow + 1) % 256; omega, by show (s.ow + 1) % 256 ≤ 255; omega⟩
            · have e1 : actS c s = s := by simp [actS, c1, c2, c3, c4]
              rw [e1, if_neg c1, if_neg c2, if_neg c3, if_neg c4, if_neg c1, if_neg c2, if_neg c3, if_neg c4]
              exact ⟨rfl, rfl, rfl, rfl, rfl, rfl, rfl, rfl, h1, h2⟩
    obtain ⟨p1, p2, p3, p4, p5, p6, p7, p8, p9, p10⟩ := hp
    obtain ⟨q1, q2, q3, q4, q5, q6, q7, q8, q9, q10⟩ := run_parts r (actS c s) p9 p10
    rw [e]
    exact ⟨q1.trans p1, q2.trans p2, q3.trans p3, q4.trans p4, q5.trans p5, q6.trans p6, by rw [q7, p7]; rfl, by rw [q8, p8]; rfl, q9, q10⟩
/-- How an end may stand: its state, how often it asks still, how long it waits. -/
def okSt (st lf wt : Int) : Bool := decide (0 ≤ st) && decide (st ≤ 9) && decide (0 ≤ lf) && decide (lf ≤ 4) && (!(decide (st = 7) || decide (st = 9)) || decide (lf = 4)) && decide (0 ≤ wt) && decide (wt ≤ 3) && (!(decide (4 ≤ st) && decide (st ≤ 8)) || decide (1 ≤ wt))
theorem okSt_iff (st lf wt : Int) : okSt st lf wt = true ↔ (0 ≤ st ∧ st ≤ 9 ∧ 0 ≤ lf ∧ lf ≤ 4 ∧ (st = 7 ∨ st = 9 → lf = 4) ∧ 0 ≤ wt ∧ wt ≤ 3 ∧ (4 ≤ st ∧ st ≤ 8 → 1 ≤ wt)) := by
  simp only [okSt, Bool.and_eq_true, Bool.or_eq_true, Bool.not_eq_true', decide_eq_true_eq, decide_eq_false_iff_not, Bool.or_eq_false_iff, Bool.and_eq_false_iff]
  constructor
  · rintro ⟨⟨⟨⟨⟨⟨⟨a, b⟩, c⟩, d⟩, e⟩, f⟩, g⟩, h⟩
    exact ⟨a, b, c, d, by omega, f, g, by omega⟩
  · rintro ⟨a, b, c, d, e, f, g, h⟩
    exact ⟨⟨⟨⟨⟨⟨⟨a, b⟩, c⟩, d⟩, by omega⟩, f⟩, g⟩, by omega⟩
theorem ev_all : ((List.range 12).all fun e => (List.range 10).all fun s => (List.range 5).all fun l => (List.range 4).all fun t => !(e != 4 && e != 5 && okSt (s : Int) (l : Int) (t : Int) && ((stepR s e).2.2 == 0)) || okSt (stepR s e).2.1 (lfL (stepR s e).1 (l : Int)) (wtL (stepR s e).1 (t : Int))) = true := by decide +kernel
theorem ev_table (e : Nat) (he : e < 12) (s : Nat) (hs : s < 10) (l : Nat) (hl : l < 5) (t : Nat) (ht : t < 4) (h : e ≠ 4 ∧ e ≠ 5 ∧ okSt (s : Int) (l : Int) (t : Int) = true ∧ (stepR s e).2.2 = 0) : okSt (stepR s e).2.1 (lfL (stepR s e).1 (l : Int)) (wtL (stepR s e).1 (t : Int)) = true := by
  have h1 := List.all_eq_true.1 (List.all_eq_true.1 (List.all_eq_true.1 (List.all_eq_true.1 ev_all e (List.mem_range.2 he)) s (List.mem_range.2 hs)) l (List.mem_range.2 hl)) t (List.mem_range.2 ht)
  obtain ⟨h4, h5, h6, h7⟩ := h
  have b4 : (e != 4) = true := by simpa using h4
  have b5 : (e != 5) = true := by simpa using h5
  have b7 : ((stepR s e).2.2 == 0) = true := by simpa using h7
  rw [b4, b5, h6, b7] at h1
  simpa using h1
theorem tick_table4 : ∀ s : Nat, s < 10 → ∀ l : Nat, l < 5 → (4 ≤ s ∧ s ≤ 8 ∧ 1 ≤ l ∧ okSt (s : Int) (l : Int) 1 = true) → okSt (stepR s 4).2.1 (lfL (stepR s 4).1 (l : Int)) (wtL (stepR s 4).1 0) = true := by decide +kernel
theorem tick_table5 : ∀ s : Nat, s < 10 → (4 ≤ s ∧ s ≤ 8 ∧ okSt (s : Int) 0 1 = true) → okSt (stepR s 5).2.1 (lfL (stepR s 5).1 0) (wtL (stepR s 5).1 0) = true := by decide +kernel
/-- An end whose numbers are within their bounds. -/
structure LOk (s : LS) : Prop where
  ok : okSt s.st s.lf s.wt = true
  o1 : 0 ≤ s.ow
  o2 : s.ow ≤ 255
  m1 : 0 ≤ s.nm
  m2 : s.nm ≤ 255
  f1 : 0 ≤ s.fm
  f2 : s.fm ≤ 255
theorem LOk.bd {s : LS} (h : LOk s) : Bd s 100 := by
  obtain ⟨a, b, c, d, _⟩ := (okSt_iff _ _ _).1 h.ok
  exact ⟨h.o1, h.o2, by omega, by omega⟩
theorem LOk.st {s : LS} (h : LOk s) : 0 ≤ s.st ∧ s.st ≤ 9 := by
  obtain ⟨a, b, _⟩ := (okSt_iff _ _ _).1 h.ok
  exact ⟨a, b⟩
theorem LOk.wt {s : LS} (h : LOk s) : 0 ≤ s.wt ∧ s.wt ≤ 3 := by
  obtain ⟨_, _, _, _, _, a, b, _⟩ := (okSt_iff _ _ _).1 h.ok
  exact ⟨a, b⟩
theorem come_ok_of {s : LS} (h1 : 0 ≤ s.ow) (h2 : s.ow ≤ 255) (m1 : 0 ≤ s.nm) (m2 : s.nm ≤ 255) (f1 : 0 ≤ s.fm) (f2 : s.fm ≤ 255) (ev : Int) (hk : okSt (stepI s.st ev).2.1 (lfL (stepI s.st ev).1 s.lf) (wtL (stepI s.st ev).1 s.wt) = true) : LOk (comeS s ev) := by
  unfold comeS
  obtain ⟨D, nx, f, hR⟩ : ∃ D nx f, stepI s.st ev = (D, nx, f) := ⟨_, _, _, rfl⟩
  rw [hR] at hk ⊢
  simp only at hk ⊢
  have hn : (s.next nx).st = nx ∧ (s.next nx).lf = s.lf ∧ (s.next nx).wt = s.wt ∧ (s.next nx).ow = s.ow ∧ (s.next nx).fm = s.fm ∧ ((s.next nx).nm = s.nm ∨ (s.next nx).nm = s.fm) := by
    unfold LS.next
    split
    · exact ⟨rfl, rfl, rfl, rfl, rfl, .inr rfl⟩
    · exact ⟨rfl, rfl, rfl, rfl, rfl, .inl rfl⟩
  obtain ⟨n1, n2, n3, n4, n5, n6⟩ := hn
  obtain ⟨q1, _, _, q4, _, q6, q7, q8, q9, q10⟩ := run_parts D (s.next nx) (by omega) (by omega)
  refine ⟨by rw [q1, q7, q8, n1, n2, n3]; exact hk, q9, q10, ?_, ?_, by rw [q4, n5]; exact f1, by rw [q4, n5]; exact f2⟩
  · rw [q6]; rcases n6 with e | e <;> rw [e] <;> assumption
  · rw [q6]; rcases n6 with e | e <;> rw [e] <;> assumption
theorem LOk.ev {s : LS} (h : LOk s) (e : Nat) (he : e < 12) (h4 : e ≠ 4) (h5 : e ≠ 5) (ans : APkt) : LOk (evP s e ans).1 := by
  by_cases hf : (stepI s.st e).2.2 = 0
  · rw [evP_ok _ hf]
    obtain ⟨a, b, c, d, _, f, g, _⟩ := (okSt_iff _ _ _).1 h.ok
    refine come_ok_of h.o1 h.o2 h.m1 h.m2 h.f1 h.f2 e ?_
    have hok := h.ok
    obtain ⟨st, hst⟩ : ∃ st : Nat, s.st = st := ⟨s.st.toNat, by omega⟩
    obtain ⟨l, hl⟩ : ∃ l : Nat, s.lf = l := ⟨s.lf.toNat, by omega⟩
    obtain ⟨t, ht⟩ : ∃ t : Nat, s.wt = t := ⟨s.wt.toNat, by omega⟩
    rw [hst] at hf
    rw [stepI_in st e (by omega) he] at hf
    rw [hst, hl, ht, stepI_in st e (by omega) he]
    rw [hst, hl, ht] at hok
    exact ev_table e he st (by omega) l (by omega) t (by omega) ⟨h4, h5, hok, hf⟩
  · rw [evP_no _ hf]
    exact h
theorem LOk.doP {s : LS} (h : LOk s) (ev : Int) : LOk (doP s ev).1 := by
  unfold Go.Proofs.YtgfjgenkpfdofaaDoor.doP
  split
  · rename_i hev
    rcases hev with rfl | rfl | rfl | rfl
    · exact h.ev 0 (by decide) (by decide) (by decide) _
    · exact h.ev 1 (by decide) (by decide) (by decide) _
    · exact h.ev 2 (by decide) (by decide) (by decide) _
    · exact h.ev 3 (by decide) (by decide) (by decide) _
  · exact h
theorem LOk.tick {s : LS} (h : LOk s) : LOk (tickS s) := by
  obtain ⟨a, b, c, d, hz, f, g, hw⟩ := (okSt_iff _ _ _).1 h.ok
  unfold tickS
  by_cases ht : 4 ≤ s.st ∧ s.st ≤ 8
  · rw [if_neg (by simp; omega)]
    by_cases hwt : 0 < s.wt - 1
    · rw [if_pos hwt]
      exact ⟨(okSt_iff _ _ _).2 ⟨a, b, c, d, hz, by show 0 ≤ s.wt - 1; omega, by show s.wt - 1 ≤ 3; omega, fun _ => by show 1 ≤ s.wt - 1; omega⟩, h.o1, h.o2, h.m1, h.m2, h.f1, h.f2⟩
    · rw [if_neg hwt]
      have hw1 : s.wt = 1 := by have := hw ht; omega
      have hw0 : s.wt - 1 = 0 := by omega
      have hok := h.ok
      obtain ⟨st, hst⟩ : ∃ st : Nat, s.st = st := ⟨s.st.toNat, by omega⟩
      obtain ⟨l, hl⟩ : ∃ l : Nat, s.lf = l := ⟨s.lf.toNat, by omega⟩
      by_cases hlf : 0 < s.lf
      · rw [if_pos hlf]
        refine come_ok_of (s := { s with wt := s.wt - 1 }) h.o1 h.o2 h.m1 h.m2 h.f1 h.f2 4 ?_
        show okSt (stepI s.st 4).2.1 (lfL (stepI s.st 4).1 s.lf) (wtL (stepI s.st 4).1 (s.wt - 1)) = true
        rw [hw0, hst, hl, show (4 : Int) = ((4 : Nat) : Int) from rfl, stepI_in st 4 (by omega) (by decide)]
        rw [hst, hl, hw1] at hok
        exact tick_table4 st (by omega) l (by omega) ⟨by omega, by omega, by omega, hok⟩
      · rw [if_neg hlf]
        refine come_ok_of (s := { s with wt := s.wt - 1 }) h.o1 h.o2 h.m1 h.m2 h.f1 h.f2 5 ?_
        show okSt (stepI s.st 5).2.1 (lfL (stepI s.st 5).1 s.lf) (wtL (stepI s.st 5).1 (s.wt - 1)) = true
        have hl0 : s.lf = 0 := by omega
        rw [hw0, hst, hl0, show (5 : Int) = ((5 : Nat) : Int) from rfl, stepI_in st 5 (by omega) (by decide)]
        rw [hst, hl0, hw1] at hok
        exact tick_table5 st (by omega) ⟨by omega, by omega, hok⟩
  · rw [if_pos (by simp; omega)]
    exact h
theorem optF_bytes : ∀ (os seen : List Opt), optF seen os = 0 → ∀ o ∈ os, isB o.1 = true ∧ isB o.2 = true
  | [], _, _ => fun o ho => by simp at ho
  | o :: r, seen, h => by
    unfold optF at h
    split at h
    · simp at h
    · rename_i h1
      split at h
      · simp at h
      · intro x hx
        rcases List.mem_cons.1 hx with rfl | hx
        · simpa using h1
        · exact optF_bytes r (seen ++ [o]) h x hx
theorem packF_bytes {code id : Int} {os : List Opt} (h : packF code id os = 0) : ∀ o ∈ os, isB o.1 = true ∧ isB o.2 = true := by
  unfold packF at h
  split at h
  · simp at h
  · split at h
    · simp at h
    · split at h
      · simp at h
      · exact optF_bytes os [] h
theorem told_in (code : Int) : ∀ (os : List Opt) (p : Int × Int), (∀ o ∈ os, isB o.1 = true ∧ isB o.2 = true) → 0 ≤ p.2 → p.2 ≤ 255 → 0 ≤ (toldR code os p).2 ∧ (toldR code os p).2 ≤ 255
  | [], _, _, h1, h2 => ⟨h1, h2⟩
  | o :: r, p, hb, h1, h2 => by
    have e : toldR code (o :: r) p = toldR code r (told1 code p o) := rfl
    rw [e]
    have hq := (isB_iff o.2).1 (hb o (by simp)).2
    have h3 : 0 ≤ (told1 code p o).2 ∧ (told1 code p o).2 ≤ 255 := by
      unfold told1
      split
      · split
        · exact ⟨h1, h2⟩
        · split
          · exact ⟨Int.le_refl _, show (0 : Int) ≤ 255 by decide⟩
          · exact ⟨h1, h2⟩
      · split
        · split
          · exact ⟨h1, h2⟩
          · split
            · exact hq
            · exact ⟨h1, h2⟩
        · exact ⟨h1, h2⟩
    exact told_in code r _ (fun x hx => hb x (by simp [hx])) h3.1 h3.2
theorem LOk.sized {s : LS} (h : LOk s) (os : List Opt) : LOk (s.sized os) := by
  unfold LS.sized
  split
  · exact ⟨h.ok, h.o1, h.o2, h.m1, h.m2, h.f1, h.f2⟩
  · exact h
theorem LOk.takeP {s : LS} (h : LOk s) (p : APkt) : LOk (takeP s p).1 := by
  unfold Go.Proofs.YtgfjgenkpfdofaaDoor.takeP
  split
  · exact h
  · rename_i hck
    have hck' : packF p.1 p.2.1 p.2.2 = 0 := by simpa using hck
    split
    · unfold reqP
      split
      · split
        · exact (h.ev 6 (by decide) (by decide) (by decide) _).sized _
        · exact h.ev 6 (by decide) (by decide) (by decide) _
      · exact h.ev 7 (by decide) (by decide) (by decide) _
    · split
      · exact h.ev 10 (by decide) (by decide) (by decide) _
      · split
        · exact h.ev 11 (by decide) (by decide) (by decide) _
        · unfold ansP
          split
          · exact h
          · split
            · split
              · exact h
              · exact h.ev 8 (by decide) (by decide) (by decide) _
            · have ht : LOk (s.tell p.1 p.2.2) := by
                unfold LS.tell
                split
                · have := told_in p.1 p.2.2 (s.ns, s.nm) (packF_bytes hck') h.m1 h.m2
                  exact ⟨h.ok, h.o1, h.o2, this.1, this.2, h.f1, h.f2⟩
                · exact h
              exact ht.ev 9 (by decide) (by decide) (by decide) _
end Go.Proofs.YtgfjgenkpfdofaaDoor
