/-
  LinkOk RtPure RtSendTo LinkNew RtPort LinkJoint
-/
import Derived.Test.YtieklnlbljejdaaGreatDoorG00
import Derived.Test.YtieklnlbljejdaaGreatDoorG01
import Derived.Test.YtieklnlbljejdaaGreatDoorG02
import Derived.Test.YtieklnlbljejdaaGreatDoorG04
import Derived.Test.YtieklnlbljejdaaGreatDoorG15
import Derived.Test.YtieklnlbljejdaaGreatDoorG16
import Derived.Test.YtieklnlbljejdaaGreatDoorG17
import Derived.Test.YtieklnlbljejdaaGreatDoorG18
import Derived.Test.YtieklnlbljejdaaGreatDoorG19
import Derived.Test.YtieklnlbljejdaaGreatDoorG20
import Derived.Test.YtieklnlbljejdaaGreatDoorG21
import Derived.Test.YtieklnlbljejdaaGreatDoorG22
import Derived.Deep.DeepCutAuto
namespace Go.Proofs.YtieklnlbljejdaaGreatDoor
open Go.RowKit
def lfL : List UInt8 → Int → Int
 | [], x => x
 | c :: r, x => lfL r (if c = 105 then 4 else if c = 122 then 0 else if c = 114 then x - 1 else if c = 116 then x - 1 else x)
def wtL : List UInt8 → Int → Int
 | [], x => x
 | c :: r, x => wtL r (if c = 105 then x else if c = 122 then 3 else if c = 114 then 3 else if c = 116 then 3 else x)
theorem run_parts : ∀ (L : List UInt8) (s : LS), 0 ≤ s.ow → s.ow ≤ 255 → (runS L s).st = s.st ∧ (runS L s).sz = s.sz ∧ (runS L s).fs = s.fs ∧ (runS L s).fm = s.fm ∧ (runS L s).ns = s.ns ∧ (runS L s).nm = s.nm ∧ (runS L s).lf = lfL L s.lf ∧ (runS L s).wt = wtL L s.wt ∧ 0 ≤ (runS L s).ow ∧ (runS L s).ow ≤ 255
 | [], s, h1, h2 => ⟨rfl, rfl, rfl, rfl, rfl, rfl, rfl, rfl, h1, h2⟩
 | c :: r, s, h1, h2 => by
   have e : runS (c :: r) s = runS r (actS c s) := rfl
   have hp : (actS c s).st = s.st ∧ (actS c s).sz = s.sz ∧ (actS c s).fs = s.fs ∧ (actS c s).fm = s.fm ∧ (actS c s).ns = s.ns ∧ (actS c s).nm = s.nm ∧ (actS c s).lf = (if c = 105 then 4 else if c = 122 then 0 else if c = 114 then s.lf - 1 else if c = 116 then s.lf - 1 else s.lf) ∧ (actS c s).wt = (if c = 105 then s.wt else if c = 122 then 3 else if c = 114 then 3 else if c = 116 then 3 else s.wt) ∧ 0 ≤ (actS c s).ow ∧ (actS c s).ow ≤ 255 := by
    by_cases c1 : c = 105
    · subst c1
      exact ⟨rfl, rfl, rfl, rfl, rfl, rfl, rfl, rfl, h1, h2⟩
    · by_cases c2 : c = 122
      · subst c2
        exact ⟨rfl, rfl, rfl, rfl, rfl, rfl, rfl, rfl, h1, h2⟩
      · by_cases c3 : c = 114
        · subst c3
          exact ⟨rfl, rfl, rfl, rfl, rfl, rfl, rfl, rfl, by show 0 ≤ (s.ow + 1) % 256; omega, by show (s.ow + 1) % 256 ≤ 255; omega⟩
        · by_cases c4 : c = 116
          · subst c4
            exact ⟨rfl, rfl, rfl, rfl, rfl, rfl, rfl, rfl, by show 0 ≤ (s.ow + 1) % 256; omega, by show (s.ow + 1) % 256 ≤ 255; omega⟩
          · have e1 : actS c s = s := by simp [actS, c1, c2, c3, c4]
            rw [e1, if_neg c1, if_neg c2, if_neg c3, if_neg c4, if_neg c1, if_neg c2, if_neg c3, if_neg c4]
            exact ⟨rfl, rfl, rfl, rfl, rfl, rfl, rfl, rfl, h1, h2⟩
   obtain ⟨p1, p2, p3, p4, p5, p6, p7, p8, p9, p10⟩ := hp
   obtain ⟨q1, q2, q3, q4, q5, q6, q7, q8, q9, q10⟩ := run_parts r (actS c s) p9 p10
   rw [e]
   exact ⟨q1.trans p1, q2.trans p2, q3.trans p3, q4.trans p4, q5.trans p5, q6.trans p6, by rw [q7, p7]; rfl, by rw [q8, p8]; rfl, q9, q10⟩
def okSt (st lf wt : Int) : Bool := decide (0 ≤ st) && decide (st ≤ 9) && decide (0 ≤ lf) && decide (lf ≤ 4) && (!(decide (st = 7) || decide (st = 9)) || decide (lf = 4)) && decide (0 ≤ wt) && decide (wt ≤ 3) && (!(decide (4 ≤ st) && decide (st ≤ 8)) || decide (1 ≤ wt))
theorem okSt_iff (st lf wt : Int) : okSt st lf wt = true ↔ (0 ≤ st ∧ st ≤ 9 ∧ 0 ≤ lf ∧ lf ≤ 4 ∧ (st = 7 ∨ st = 9 → lf = 4) ∧ 0 ≤ wt ∧ wt ≤ 3 ∧ (4 ≤ st ∧ st ≤ 8 → 1 ≤ wt)) := by
 simp only [okSt, Bool.and_eq_true, Bool.or_eq_true, Bool.not_eq_true', decide_eq_true_eq, decide_eq_false_iff_not, Bool.or_eq_false_iff, Bool.and_eq_false_iff]
 constructor
 · rintro ⟨⟨⟨⟨⟨⟨⟨a, b⟩, c⟩, d⟩, e⟩, f⟩, g⟩, h⟩
   exact ⟨a, b, c, d, by omega, f, g, by omega⟩
 · rintro ⟨a, b, c, d, e, f, g, h⟩
   exact ⟨⟨⟨⟨⟨⟨⟨a, b⟩, c⟩, d⟩, by omega⟩, f⟩, g⟩, by omega⟩
theorem ev_all : ((List.range 12).all fun e => (List.range 10).all fun s => (List.range 5).all fun l => (List.range 4).all fun t => !(e != 4 && e != 5 && okSt (s : Int) (l : Int) (t : Int) && ((stepR s e).2.2 == 0)) || okSt (stepR s e).2.1 (lfL (stepR s e).1 (l : Int)) (wtL (stepR s e).1 (t : Int))) = true := by decide +kernel
theorem ev_table (e : Nat) (he : e < 12) (s : Nat) (hs : s < 10) (l : Nat) (hl : l < 5) (t : Nat) (ht : t < 4) (h : e ≠ 4 ∧ e ≠ 5 ∧ okSt (s : Int) (l : Int) (t : Int) = true ∧ (stepR s e).2.2 = 0) : okSt (stepR s e).2.1 (lfL (stepR s e).1 (l : Int)) (wtL (stepR s e).1 (t : Int)) = true := by
 have h1 := List.all_eq_true.1 (List.all_eq_true.1 (List.all_eq_true.1 (List.all_eq_true.1 ev_all e (List.mem_range.2 he)) s (List.mem_range.2 hs)) l (List.mem_range.2 hl)) t (List.mem_range.2 ht)
 obtain ⟨h4, h5, h6, h7⟩ := h
 have b4 : (e != 4) = true := by simpa using h4
 have b5 : (e != 5) = true := by simpa using h5
 have b7 : ((stepR s e).2.2 == 0) = true := by simpa using h7
 rw [b4, b5, h6, b7] at h1
 simpa using h1
theorem tick_table4 : ∀ s : Nat, s < 10 → ∀ l : Nat, l < 5 → (4 ≤ s ∧ s ≤ 8 ∧ 1 ≤ l ∧ okSt (s : Int) (l : Int) 1 = true) → okSt (stepR s 4).2.1 (lfL (stepR s 4).1 (l : Int)) (wtL (stepR s 4).1 0) = true := by decide +kernel
theorem tick_table5 : ∀ s : Nat, s < 10 → (4 ≤ s ∧ s ≤ 8 ∧ okSt (s : Int) 0 1 = true) → okSt (stepR s 5).2.1 (lfL (stepR s 5).1 0) (wtL (stepR s 5).1 0) = true := by decide +kernel
structure LOk (s : LS) : Prop where
 ok : okSt s.st s.lf s.wt = true
 o1 : 0 ≤ s.ow
 o2 : s.ow ≤ 255
 m1 : 0 ≤ s.nm
 m2 : s.nm ≤ 255
 f1 : 0 ≤ s.fm
 f2 : s.fm ≤ 255
theorem LOk.bd {s : LS} (h : LOk s) : Bd s 100 := by
 obtain ⟨a, b, c, d, _⟩ := (okSt_iff _ _ _).1 h.ok
 exact ⟨h.o1, h.o2, by omega, by omega⟩
theorem LOk.wt {s : LS} (h : LOk s) : 0 ≤ s.wt ∧ s.wt ≤ 3 := by
 obtain ⟨_, _, _, _, _, a, b, _⟩ := (okSt_iff _ _ _).1 h.ok
 exact ⟨a, b⟩
theorem come_ok_of {s : LS} (h1 : 0 ≤ s.ow) (h2 : s.ow ≤ 255) (m1 : 0 ≤ s.nm) (m2 : s.nm ≤ 255) (f1 : 0 ≤ s.fm) (f2 : s.fm ≤ 255) (ev : Int) (hk : okSt (stepI s.st ev).2.1 (lfL (stepI s.st ev).1 s.lf) (wtL (stepI s.st ev).1 s.wt) = true) : LOk (comeS s ev) := by
 unfold comeS
 obtain ⟨D, nx, f, hR⟩ : ∃ D nx f, stepI s.st ev = (D, nx, f) := ⟨_, _, _, rfl⟩
 rw [hR] at hk ⊢
 simp only at hk ⊢
 have hn : (s.next nx).st = nx ∧ (s.next nx).lf = s.lf ∧ (s.next nx).wt = s.wt ∧ (s.next nx).ow = s.ow ∧ (s.next nx).fm = s.fm ∧ ((s.next nx).nm = s.nm ∨ (s.next nx).nm = s.fm) := by
  unfold LS.next
  split
  · exact ⟨rfl, rfl, rfl, rfl, rfl, .inr rfl⟩
  · exact ⟨rfl, rfl, rfl, rfl, rfl, .inl rfl⟩
 obtain ⟨n1, n2, n3, n4, n5, n6⟩ := hn
 obtain ⟨q1, _, _, q4, _, q6, q7, q8, q9, q10⟩ := run_parts D (s.next nx) (by omega) (by omega)
 refine ⟨by rw [q1, q7, q8, n1, n2, n3]; exact hk, q9, q10, ?_, ?_, by rw [q4, n5]; exact f1, by rw [q4, n5]; exact f2⟩
 · rw [q6]; rcases n6 with e | e <;> rw [e] <;> assumption
 · rw [q6]; rcases n6 with e | e <;> rw [e] <;> assumption
theorem LOk.ev {s : LS} (h : LOk s) (e : Nat) (he : e < 12) (h4 : e ≠ 4) (h5 : e ≠ 5) (ans : APkt) : LOk (evP s e ans).1 := by
 by_cases hf : (stepI s.st e).2.2 = 0
 · rw [evP_ok _ hf]
   obtain ⟨a, b, c, d, _, f, g, _⟩ := (okSt_iff _ _ _).1 h.ok
   refine come_ok_of h.o1 h.o2 h.m1 h.m2 h.f1 h.f2 e ?_
   have hok := h.ok
   obtain ⟨st, hst⟩ : ∃ st : Nat, s.st = st := ⟨s.st.toNat, by omega⟩
   obtain ⟨l, hl⟩ : ∃ l : Nat, s.lf = l := ⟨s.lf.toNat, by omega⟩
   obtain ⟨t, ht⟩ : ∃ t : Nat, s.wt = t := ⟨s.wt.toNat, by omega⟩
   rw [hst] at hf
   rw [stepI_in st e (by omega) he] at hf
   rw [hst, hl, ht, stepI_in st e (by omega) he]
   rw [hst, hl, ht] at hok
   exact ev_table e he st (by omega) l (by omega) t (by omega) ⟨h4, h5, hok, hf⟩
 · rw [evP_no _ hf]
   exact h
theorem LOk.doP {s : LS} (h : LOk s) (ev : Int) : LOk (doP s ev).1 := by
 unfold Go.Proofs.YtieklnlbljejdaaGreatDoor.doP
 split
 · rename_i hev
   rcases hev with rfl | rfl | rfl | rfl
   · exact h.ev 0 (by decide) (by decide) (by decide) _
   · exact h.ev 1 (by decide) (by decide) (by decide) _
   · exact h.ev 2 (by decide) (by decide) (by decide) _
   · exact h.ev 3 (by decide) (by decide) (by decide) _
 · exact h
theorem LOk.tick {s : LS} (h : LOk s) : LOk (tickS s) := by
 obtain ⟨a, b, c, d, hz, f, g, hw⟩ := (okSt_iff _ _ _).1 h.ok
 unfold tickS
 by_cases ht : 4 ≤ s.st ∧ s.st ≤ 8
 · rw [if_neg (by simp; omega)]
   by_cases hwt : 0 < s.wt - 1
   · rw [if_pos hwt]
     exact ⟨(okSt_iff _ _ _).2 ⟨a, b, c, d, hz, by show 0 ≤ s.wt - 1; omega, by show s.wt - 1 ≤ 3; omega, fun _ => by show 1 ≤ s.wt - 1; omega⟩, h.o1, h.o2, h.m1, h.m2, h.f1, h.f2⟩
   · rw [if_neg hwt]
     have hw1 : s.wt = 1 := by have := hw ht; omega
     have hw0 : s.wt - 1 = 0 := by omega
     have hok := h.ok
     obtain ⟨st, hst⟩ : ∃ st : Nat, s.st = st := ⟨s.st.toNat, by omega⟩
     obtain ⟨l, hl⟩ : ∃ l : Nat, s.lf = l := ⟨s.lf.toNat, by omega⟩
     by_cases hlf : 0 < s.lf
     · rw [if_pos hlf]
       refine come_ok_of (s := { s with wt := s.wt - 1 }) h.o1 h.o2 h.m1 h.m2 h.f1 h.f2 4 ?_
       show okSt (stepI s.st 4).2.1 (lfL (stepI s.st 4).1 s.lf) (wtL (stepI s.st 4).1 (s.wt - 1)) = true
       rw [hw0, hst, hl, show (4 : Int) = ((4 : Nat) : Int) from rfl, stepI_in st 4 (by omega) (by decide)]
       rw [hst, hl, hw1] at hok
       exact tick_table4 st (by omega) l (by omega) ⟨by omega, by omega, by omega, hok⟩
     · rw [if_neg hlf]
       refine come_ok_of (s := { s with wt := s.wt - 1 }) h.o1 h.o2 h.m1 h.m2 h.f1 h.f2 5 ?_
       show okSt (stepI s.st 5).2.1 (lfL (stepI s.st 5).1 s.lf) (wtL (stepI s.st 5).1 (s.wt - 1)) = true
       have hl0 : s.lf = 0 := by omega
       rw [hw0, hst, hl0, show (5 : Int) = ((5 : Nat) : Int) from rfl, stepI_in st 5 (by omega) (by decide)]
       rw [hst, hl0, hw1] at hok
       exact tick_table5 st (by omega) ⟨by omega, by omega, hok⟩
 · rw [if_pos (by simp; omega)]
   exact h
theorem optF_bytes : ∀ (os seen : List Opt), optF seen os = 0 → ∀ o ∈ os, isB o.1 = true ∧ isB o.2 = true
 | [], _, _ => fun o ho => by simp at ho
 | o :: r, seen, h => by
   unfold optF at h
   split at h
   · simp at h
   · rename_i h1
     split at h
     · simp at h
     · intro x hx
       rcases List.mem_cons.1 hx with rfl | hx
       · simpa using h1
       · exact optF_bytes r (seen ++ [o]) h x hx
theorem packF_bytes {code id : Int} {os : List Opt} (h : packF code id os = 0) : ∀ o ∈ os, isB o.1 = true ∧ isB o.2 = true := by
 unfold packF at h
 split at h
 · simp at h
 · split at h
   · simp at h
   · split at h
     · simp at h
     · exact optF_bytes os [] h
theorem told_in (code : Int) : ∀ (os : List Opt) (p : Int × Int), (∀ o ∈ os, isB o.1 = true ∧ isB o.2 = true) → 0 ≤ p.2 → p.2 ≤ 255 → 0 ≤ (toldR code os p).2 ∧ (toldR code os p).2 ≤ 255
 | [], _, _, h1, h2 => ⟨h1, h2⟩
 | o :: r, p, hb, h1, h2 => by
   have e : toldR code (o :: r) p = toldR code r (told1 code p o) := rfl
   rw [e]
   have hq := (isB_iff o.2).1 (hb o (by simp)).2
   have h3 : 0 ≤ (told1 code p o).2 ∧ (told1 code p o).2 ≤ 255 := by
    unfold told1
    split
    · split
      · exact ⟨h1, h2⟩
      · split
        · exact ⟨Int.le_refl _, show (0 : Int) ≤ 255 by decide⟩
        · exact ⟨h1, h2⟩
    · split
      · split
        · exact ⟨h1, h2⟩
        · split
          · exact hq
          · exact ⟨h1, h2⟩
      · exact ⟨h1, h2⟩
   exact told_in code r _ (fun x hx => hb x (by simp [hx])) h3.1 h3.2
theorem LOk.sized {s : LS} (h : LOk s) (os : List Opt) : LOk (s.sized os) := by
 unfold LS.sized
 split
 · exact ⟨h.ok, h.o1, h.o2, h.m1, h.m2, h.f1, h.f2⟩
 · exact h
theorem LOk.takeP {s : LS} (h : LOk s) (p : APkt) : LOk (takeP s p).1 := by
 unfold Go.Proofs.YtieklnlbljejdaaGreatDoor.takeP
 split
 · exact h
 · rename_i hck
   have hck' : packF p.1 p.2.1 p.2.2 = 0 := by simpa using hck
   split
   · unfold reqP
     split
     · split
       · exact (h.ev 6 (by decide) (by decide) (by decide) _).sized _
       · exact h.ev 6 (by decide) (by decide) (by decide) _
     · exact h.ev 7 (by decide) (by decide) (by decide) _
   · split
     · exact h.ev 10 (by decide) (by decide) (by decide) _
     · split
       · exact h.ev 11 (by decide) (by decide) (by decide) _
       · unfold ansP
         split
         · exact h
         · split
           · split
             · exact h
             · exact h.ev 8 (by decide) (by decide) (by decide) _
           · have ht : LOk (s.tell p.1 p.2.2) := by
              unfold LS.tell
              split
              · have := told_in p.1 p.2.2 (s.ns, s.nm) (packF_bytes hck') h.m1 h.m2
                exact ⟨h.ok, h.o1, h.o2, this.1, this.2, h.f1, h.f2⟩
              · exact h
             exact ht.ev 9 (by decide) (by decide) (by decide) _
end Go.Proofs.YtieklnlbljejdaaGreatDoor

namespace Go.Proofs.YtieklnlbljejdaaGreatDoor
open Go.RowKit St
namespace Rt
structure PeerM where
 who : Int
 both : Bool
 left : Int
def nobody : PeerM := ⟨0, false, 0⟩
structure PtM where
 m : Int
 L : LS
 rd : RState
 pe : PeerM
 out : List UInt8
abbrev Msg := Int × Int × List UInt8
structure RtM where
 id : Int
 n : Nat
 P : Nat → PtM
 K : Int → Option PS
 O : Nat → Int → Option PS
 inb : List Msg
 drop : Int
def updP (P : Nat → PtM) (i : Nat) (p : PtM) : Nat → PtM := fun x => if x = i then p else P x
def RtM.setP (r : RtM) (i : Nat) (p : PtM) : RtM := { r with P := updP r.P i p }
def PtM.put (p : PtM) (c : UInt8) (s : List UInt8) : PtM :=
 if c ≠ 76 ∧ p.L.st ≠ 9 then p else if s.length + 1 ≤ 60 then { p with out := p.out ++ Plain.frameL (c :: s) } else p
def PtM.say (p : PtM) : List APkt → PtM
 | [] => p
 | q :: r => (if packF q.1 q.2.1 q.2.2 = 0 then p.put 76 (packB q.1 q.2.1 q.2.2) else p).say r
def PtM.plug (p : PtM) (up : Bool) : PtM × Nat :=
 let e := doP p.L (if up then 0 else 1)
 if e.2.2 ≠ 0 then (p, e.2.2) else (({ p with L := e.1, rd := ([], false, false) } : PtM).say e.2.1, 0)
def tickL (L : LS) : LS × List APkt :=
 if (tickS L).st = 3 then ((doP (doP (tickS L) 1).1 0).1, tickO L ++ (doP (tickS L) 1).2.1 ++ (doP (doP (tickS L) 1).1 0).2.1) else (tickS L, tickO L)
def PtM.tick (p : PtM) : PtM := ({ p with L := (tickL p.L).1 } : PtM).say (tickL p.L).2
def PtM.packet (p : PtM) (s : List UInt8) : PtM :=
 let q := pkParseR s
 if q.2.2.2 = 0 then ({ p with L := (takeP p.L (q.1, q.2.1, q.2.2.1)).1 } : PtM).say (takeP p.L (q.1, q.2.1, q.2.2.1)).2.1 else p
def bestP (P : Nat → PtM) (n : Int) : Nat → Option Nat
 | 0 => none
 | k + 1 => if (P k).pe.both = true ∧ (P k).pe.who = n ∧ (match bestP P n k with | none => true | some b => decide ((P k).m < (P b).m)) = true then some k else bestP P n k
def edgesM (r : RtM) : List Opt := (List.range 6).filterMap fun (j : Nat) => (bestP r.P ((j : Int) + 1) r.n).map fun b => ((j : Int) + 1, (r.P b).m)
def seqK (K : Int → Option PS) (i : Int) : Int := match K i with | none => 0 | some q => q.1
def edgK (K : Int → Option PS) (i : Int) : List Opt := match K i with | none => [] | some q => q.2
def RtM.setOwn (r : RtM) (seq : Int) (es : List Opt) : RtM := { r with K := updF r.K r.id (seq, es), O := fun i => updF (r.O i) r.id (seq, es) }
def RtM.behind (r : RtM) (seq : Int) : RtM := if seq < 1000000 then r.setOwn (seq + 1) (edgesM r) else r
def RtM.change (r : RtM) : RtM := if edgK r.K r.id = edgesM r then r else r.behind (seqK r.K r.id)
def RtM.meet (r : RtM) (i : Nat) (q : PeerM) : RtM :=
 let r1 := r.setP i { r.P i with pe := q }
 if q.who = (r.P i).pe.who ∧ q.both = (r.P i).pe.both then r1 else
  let r2 := ({ r1 with O := fun x => if x = i then fun _ => none else r1.O x } : RtM).change
  if q.both = true then { r2 with O := fun x => if x = i then overF (r2.O i) r2.K else r2.O x } else r2
def RtM.plug (r : RtM) (i : Nat) (up : Bool) : RtM × Nat :=
 let e := (r.P i).plug up
 if e.2 ≠ 0 then (r, e.2) else ((r.setP i e.1).meet i nobody, 0)
def gridK (K : Int → Option PS) : Grid := fun x y => match K x with | none => 0 | some q => ((q.2.find? fun e => e.1 == (y : Int)).map (·.2)).getD 0
def hopsM (r : RtM) : List HP := hopsL (bothG (gridK r.K)) r.id.toNat
def RtM.send (r : RtM) (t : Msg) : RtM :=
 if t.1 = r.id then { r with inb := r.inb ++ [t] } else
  match (if 1 ≤ t.2.1 then (toH (hopsM r) t.1).bind fun h => bestP r.P h.nxt r.n else none) with
  | none => { r with drop := r.drop + 1 }
  | some i => r.setP i ((r.P i).put 77 (pku8 t.1 :: pku8 (t.2.1 - 1) :: t.2.2))
def peerHear (me : Int) (f s : Int) : PeerM := if f = me then nobody else ⟨f, decide (s = me), 4⟩
def peerTick (p : PeerM) : PeerM := if p.left ≤ 1 then nobody else { p with left := p.left - 1 }
def RtM.take (r : RtM) (i : Nat) (c : UInt8) (s : List UInt8) : RtM :=
 let r1 := if c = 76 then r.setP i ((r.P i).packet s) else r
 if (r1.P i).L.st ≠ 9 then r1.meet i nobody
 else if c = 72 then (if (helR s).2.2 = 0 then r1.meet i (peerHear r1.id (helR s).1 (helR s).2.1) else r1)
 else if c = 83 then
  (let q := St.parseR s
   if q.2.2.2 ≠ 0 ∨ (r1.P i).pe.both = false then r1
   else if q.1 = r1.id ∧ 0 < newF r1.K q.1 q.2.1 q.2.2.1 then r1.behind q.2.1
   else
    let r2 : RtM := { r1 with K := takeK r1.K q.1 q.2.1 q.2.2.1, O := takeO r1.K r1.O i q.1 q.2.1 q.2.2.1 }
    if 0 ≤ newF r1.K q.1 q.2.1 q.2.2.1 then r2.setP i ((r2.P i).put 65 (stB q.1 q.2.1 q.2.2.1)) else r2)
 else if c = 65 then
  (let q := St.parseR s
   if q.2.2.2 = 0 then { r1 with O := fun x => if x = i ∧ 0 ≤ newF r1.K q.1 q.2.1 q.2.2.1 then delF (r1.O i) q.1 else r1.O x } else r1)
 else if c = 77 then (if 2 ≤ s.length ∧ s.length ≤ 22 then r1.send (((s.getD 0 0).toNat : Int), ((s.getD 1 0).toNat : Int), s.drop 2) else r1)
 else r1
def RtM.takes (r : RtM) (i : Nat) : List (List UInt8) → RtM
 | [] => r
 | t :: l => (match t with | [] => r | c :: s => r.take i c s).takes i l
def RtM.recv (r : RtM) (i : Nat) (l : List UInt8) : RtM :=
 let a := allR (r.P i).rd l
 (r.setP i { r.P i with rd := a.2.2 }).takes i a.1
def owedL (F : Int → Option PS) : List (Int × PS) := (List.range 6).filterMap fun (j : Nat) => (F ((j : Int) + 1)).map fun q => ((j : Int) + 1, q)
def PtM.putAll (p : PtM) : List (Int × PS) → PtM
 | [] => p
 | q :: l => (p.put 83 (stB q.1 q.2.1 q.2.2)).putAll l
def RtM.tickP (r : RtM) (i : Nat) : RtM :=
 let r1 := r.setP i (r.P i).tick
 if (r1.P i).L.st ≠ 9 then r1.meet i nobody else
  let r2 := r1.meet i (peerTick (r1.P i).pe)
  let p := (r2.P i).put 72 [pku8 r2.id, pku8 (r2.P i).pe.who]
  r2.setP i (if (r2.P i).pe.both = true then p.putAll (owedL (r2.O i)) else p)
def RtM.ticks (r : RtM) : Nat → RtM
 | 0 => r
 | k + 1 => (r.ticks k).tickP k
def RtM.tick (r : RtM) : RtM := r.ticks r.n
def RtM.out (r : RtM) (i : Nat) : RtM := r.setP i { r.P i with out := [] }
def newPt (id : Int) (m : Nat → Int) (i : Nat) : PtM := ⟨m i, { freshLS (8 * id + i + 1) with st := 1 }, ([], false, false), nobody, []⟩
where freshLS (g : Int) : LS := ⟨255, g, 255, g, 0, 0, 0, 255, 0, 0, 0⟩
def newRt (id : Int) (n : Nat) (m : Nat → Int) : RtM :=
 ⟨id, n, newPt id m, fun x => if x = id then some (1, []) else none, fun _ x => if x = id then some (1, []) else none, [], 0⟩
end Rt
end Go.Proofs.YtieklnlbljejdaaGreatDoor

namespace Go.Proofs.YtieklnlbljejdaaGreatDoor
open Go.RowKit St
namespace Rt
def sendTo (r : RtM) (t : Int) (tx : List UInt8) : RtM × Nat := if t < 1 ∨ 6 < t ∨ 20 < tx.length then (r, 1) else (r.send (t, 8, tx), 0)
end Rt
end Go.Proofs.YtieklnlbljejdaaGreatDoor

namespace Go.Proofs.YtieklnlbljejdaaGreatDoor
open Go.RowKit
theorem zeroLink (w : World) : (zeroValue 254).run Tryz.prog w = .ok (.agg #[.int .i64 0, .int .i64 0, .int .i64 0, .int .i64 0, .int .i64 0, .int .i64 0, .int .i64 0, .int .i64 0, .int .i64 0, .int .i64 0, .int .i64 0, .slice none 0 0]) w := by kernel_rfl
theorem heap_alloc_new' (w : World) (o : Obj) : (w.alloc o).heap[w.heap.size]? = some o := heap_alloc_new w o
set_option maxRecDepth 100000 in
set_option maxHeartbeats 2000000 in
theorem lnew_in (S M : Int) (w : World) (h1 : ¬ S < 40) (h2 : ¬ 255 < S) (h3 : ¬ M < 1) (h4 : ¬ 255 < M) :
 Calls Tryz.prog 119 #[.int .i64 S, .int .i64 M] w fun e w' => ∃ B, e = .returned (.tuple #[.pointer (some ⟨B, 0, none⟩), .nilIface]) ∧ Lk w' B (lkC S M S M 0 0 0 255 0 0 0 (.slice none 0 0)) ∧ w.heap.size ≤ B ∧ Below w.heap.size w w' := by
 have hz := zeroPol
 have hzl := zeroLink
 have hN := new_in S M w h1 h2 h3 h4
 clear h1 h2 h3 h4
 go_enter Tryz.func119, Tryz.ntmps119
 go_wp2_with (fail)
 refine hN.mono ?_
 rintro e w1 ⟨rfl, hb⟩
 have hs := hb.size
 have hb2 := (hb.alloc hb.size (.cells #[.int .i64 S, .int .i64 M] 252))
 have hb3 := below_chain hb2 (below_alloc _ (.cells (lkC S M S M 0 0 0 255 0 0 0 (.slice none 0 0)) 254))
 have hn := heap_alloc_new' (w1.alloc (.cells #[.int .i64 S, .int .i64 M] 252)) (.cells (lkC S M S M 0 0 0 255 0 0 0 (.slice none 0 0)) 254)
 have e1 : (w1.alloc (.cells #[.int .i64 S, .int .i64 M] 252)).heap.size = w1.heap.size + 1 := by simp
 rw [e1] at hn
 have HN : Hid _ := hn
 have HB : Hid _ := hb3
 clear hn hb3 hN
 go_wp2_with (fail)
 go_ret2
 exact ⟨w1.heap.size + 1, rfl, HN.out, by omega, HB.out⟩
theorem Rep.rest {w : World} {B : Nat} {s : LS} (h : Lk w B (s.c (.slice none 0 0))) : Rep w B (fun k => k < w.heap.size) s (.slice none 0 0) [] :=
 ⟨h, Row.nil _ 3, fun g hg => by simp [Value.ownBlock] at hg, h.lt, fun _ hk => hk, fun p hp => by simp at hp⟩
def freshL (S M : Int) : LS := ⟨S, M, S, M, 0, 0, 0, 255, 0, 0, 0⟩
theorem do_up (S M : Int) : (doP { freshL S M with st := 1 } 0).2.2 = 0 ∧ (doP { freshL S M with st := 1 } 0).1.st = 6 ∧ (doP { freshL S M with st := 1 } 0).2.1.length = 1 := ⟨by kernel_rfl, by kernel_rfl, by kernel_rfl⟩
end Go.Proofs.YtieklnlbljejdaaGreatDoor

namespace Go.Proofs.YtieklnlbljejdaaGreatDoor
open Go.RowKit St
namespace Rt
def ptF (p : PtM) (B : Nat) (v : Value) (F : Nat → Value) : Nat → Value := fun j =>
 if j = 0 then .int .i64 p.m else if j = 1 then .pointer (some ⟨B, 0, none⟩) else if j < 67 then F (j - 2) else if j = 67 then .int .i64 p.pe.who else if j = 68 then .bool p.pe.both else if j = 69 then .int .i64 p.pe.left else v
structure PtR (w : World) (g o B : Nat) (v : Value) (p : PtM) : Prop where
 cel : ∃ F, Cel w g o 71 (ptF p B v F) ∧ RdF F p.rd.1 p.rd.2.1 p.rd.2.2
 lk : Lk w B (p.L.c (.slice none 0 0))
 ou : Row w 1 v p.out.length (cells8 p.out)
 few : p.out.length ≤ 1000000000
 ok : LOk p.L
 gB : g ≠ B
 vg : v.ownBlock ≠ some g
 vB : v.ownBlock ≠ some B
 nz : g ≠ 0 ∧ B ≠ 0 ∧ v.ownBlock ≠ some 0
theorem PtR.c0 {w : World} {g o B : Nat} {v : Value} {p : PtM} (h : PtR w g o B v p) : w.cell? ⟨g, o, none⟩ = some (.int .i64 p.m) := by obtain ⟨F, hC, _⟩ := h.cel; exact hC.cell 0 (by decide)
theorem PtR.c1 {w : World} {g o B : Nat} {v : Value} {p : PtM} (h : PtR w g o B v p) : w.cell? ⟨g, o + 1, none⟩ = some (.pointer (some ⟨B, 0, none⟩)) := by obtain ⟨F, hC, _⟩ := h.cel; exact hC.cell 1 (by decide)
theorem PtR.c67 {w : World} {g o B : Nat} {v : Value} {p : PtM} (h : PtR w g o B v p) : w.cell? ⟨g, o + 67, none⟩ = some (.int .i64 p.pe.who) := by obtain ⟨F, hC, _⟩ := h.cel; exact hC.cell 67 (by decide)
theorem PtR.c68 {w : World} {g o B : Nat} {v : Value} {p : PtM} (h : PtR w g o B v p) : w.cell? ⟨g, o + 68, none⟩ = some (.bool p.pe.both) := by obtain ⟨F, hC, _⟩ := h.cel; exact hC.cell 68 (by decide)
theorem PtR.c69 {w : World} {g o B : Nat} {v : Value} {p : PtM} (h : PtR w g o B v p) : w.cell? ⟨g, o + 69, none⟩ = some (.int .i64 p.pe.left) := by obtain ⟨F, hC, _⟩ := h.cel; exact hC.cell 69 (by decide)
theorem PtR.c70 {w : World} {g o B : Nat} {v : Value} {p : PtM} (h : PtR w g o B v p) : w.cell? ⟨g, o + 70, none⟩ = some v := by obtain ⟨F, hC, _⟩ := h.cel; exact hC.cell 70 (by decide)
theorem PtR.fz {w : World} {g o B : Nat} {v : Value} {p : PtM} (h : PtR w g o B v p) : ∀ j, j < 71 → w.frozen? ⟨g, o + j, none⟩ = false := by obtain ⟨F, hC, _⟩ := h.cel; exact fun j hj => hC.fz j hj
theorem PtR.lt {w : World} {g o B : Nat} {v : Value} {p : PtM} (h : PtR w g o B v p) : g < w.heap.size := by obtain ⟨F, hC, _⟩ := h.cel; exact hC.lt (by decide)
theorem PtR.below {w w' : World} {g o B : Nat} {v : Value} {p : PtM} (h : PtR w g o B v p) (hb : Below w.heap.size w w') : PtR w' g o B v p := by
 obtain ⟨F, hC, hR⟩ := h.cel
 exact ⟨⟨F, hC.below (by decide) hb, hR⟩, h.lk.below hb, h.ou.below hb, h.few, h.ok, h.gB, h.vg, h.vB, h.nz⟩
structure KeptP (w w' : World) (g o B : Nat) (v : Value) : Prop where
 os : w'.os = w.os
 tape : w'.tape = w.tape
 output : w'.output = w.output
 size : w.heap.size ≤ w'.heap.size
 block : ∀ i, i < w.heap.size → i ≠ g → i ≠ B → v.ownBlock ≠ some i → w'.heap[i]? = w.heap[i]?
 cell : ∀ j, j < o ∨ o + 71 ≤ j → w'.cell? ⟨g, j, none⟩ = w.cell? ⟨g, j, none⟩
 fz : ∀ j, w'.frozen? ⟨g, j, none⟩ = w.frozen? ⟨g, j, none⟩
theorem KeptP.refl (w : World) (g o B : Nat) (v : Value) : KeptP w w g o B v := ⟨rfl, rfl, rfl, Nat.le_refl _, fun _ _ _ _ _ => rfl, fun _ _ => rfl, fun _ => rfl⟩
theorem KeptP.of_below {w w' : World} {g : Nat} (o B : Nat) (v : Value) (h : Below w.heap.size w w') (hg : g < w.heap.size) : KeptP w w' g o B v :=
 ⟨h.os, h.tape, h.output, h.size, fun i hi _ _ _ => h.block i hi, fun j _ => World.cell?_of_block (a := ⟨g, j, none⟩) (h.block g hg), fun j => World.frozen?_of_block (a := ⟨g, j, none⟩) (h.block g hg)⟩
theorem KeptP.trans {a b c : World} {g o B : Nat} {v v' : Value} (h : KeptP a b g o B v) (k : KeptP b c g o B v') (hv : ∀ i, v'.ownBlock = some i → v.ownBlock = some i ∨ a.heap.size ≤ i) : KeptP a c g o B v :=
 ⟨k.os.trans h.os, k.tape.trans h.tape, k.output.trans h.output, Nat.le_trans h.size k.size, fun i hi h1 h2 h3 => (k.block i (Nat.lt_of_lt_of_le hi h.size) h1 h2 (fun e => by
  rcases hv i e with e1 | e1
  · exact h3 e1
  · omega)).trans (h.block i hi h1 h2 h3), fun j hj => (k.cell j hj).trans (h.cell j hj), fun j => (k.fz j).trans (h.fz j)⟩
set_option maxRecDepth 100000 in
theorem opened_any (g o B : Nat) (v : Value) (p : PtM) (w : World) (h : PtR w g o B v p) :
 Calls Tryz.prog 83 #[.pointer (some ⟨g, o, none⟩)] w fun e w' => e = .returned (.bool (p.L.st == 9)) ∧ w = w' := by
 have c1 := h.c1
 have hl := h.lt
 have hs := state_rep B _ p.L _ [] w (Rep.rest h.lk)
 clear h
 go_enter Tryz.func83, Tryz.ntmps83
 go_wp2_with (fail)
 refine hs.mono ?_
 rintro e w1 ⟨rfl, rfl⟩
 clear hs
 go_wp2_with (fail)
 go_ret
 exact ⟨rfl, rfl⟩
theorem info8 : (Tryz.prog.info? 5).map (fun i => (i.zero, i.size, i.bytes)) = some (some (.int .u8 0), 1, 1) := by kernel_rfl
end Rt
end Go.Proofs.YtieklnlbljejdaaGreatDoor

namespace Go.Proofs.YtieklnlbljejdaaGreatDoor
open Go.RowKit
theorem Rep.far {w w' : World} {B M : Nat} {X : Nat → Prop} {s : LS} {v : Value} {ps : List PV} (h : Rep w B X s v ps) (k : Kept w w' M none) (hM : X M) (hne : B ≠ M) : Rep w' B X s v ps := by
 have hb : ∀ j, j < w.heap.size → j ≠ M → w'.heap[j]? = w.heap[j]? := fun j hj hm => k.block j hj hm (by simp)
 refine ⟨h.lk.keep (hb B h.lk.lt hne), h.row.keep k.size (fun j hj => hb j (h.row.lt j hj) (fun e => h.own j hj (by rw [e]; exact hM))), h.own, h.self, fun j hj => Nat.lt_of_lt_of_le (h.old j hj) k.size, fun p hp => ?_⟩
 obtain ⟨o, z, l, f, fr⟩ := h.pk p hp
 exact ⟨o.keptO (fun j hj => by obtain ⟨a1, _, a3⟩ := fr j hj; exact hb j a3 (fun e => a1 (by rw [e]; exact hM))), z, l, f, fun j hj => by obtain ⟨a1, a2, a3⟩ := fr j hj; exact ⟨a1, a2, Nat.lt_of_lt_of_le a3 k.size⟩⟩
theorem runO_len : ∀ (L : List UInt8) (s : LS) (a : APkt), (runO L s a).length ≤ L.length
 | [], _, _ => Nat.le_refl _
 | c :: r, s, a => by
   have e : runO (c :: r) s a = actO c s a ++ runO r (actS c s) a := rfl
   have h1 := runO_len r (actS c s) a
   have h2 := actO_len c s a
   rw [e, List.length_append, List.length_cons]
   omega
theorem evP_len (s : LS) (ev : Int) (a : APkt) : (evP s ev a).2.1.length ≤ 4 := by
 by_cases hf : (stepI s.st ev).2.2 = 0
 · rw [evP_ok _ hf]
   have h1 := runO_len (stepI s.st ev).1 (s.next (stepI s.st ev).2.1) a
   have h2 := stepI_len s.st ev
   show (comeO s ev a).length ≤ 4
   unfold comeO
   omega
 · rw [evP_no _ hf]
   simp
theorem doP_len (s : LS) (ev : Int) : (doP s ev).2.1.length ≤ 4 := by
 unfold doP
 split
 · exact evP_len _ _ _
 · simp
theorem tickO_len (s : LS) : (tickO s).length ≤ 4 := by
 have hc : ∀ (s : LS) (ev : Int), (comeO s ev (0, 0, [])).length ≤ 4 := fun s ev => by
  have h1 := runO_len (stepI s.st ev).1 (s.next (stepI s.st ev).2.1) (0, 0, [])
  have h2 := stepI_len s.st ev
  unfold comeO
  omega
 unfold tickO
 split
 · simp
 · split
   · simp
   · split
     · exact hc _ _
     · exact hc _ _
theorem takeP_len (s : LS) (p : APkt) : (takeP s p).2.1.length ≤ 4 := by
 unfold takeP
 split
 · simp
 · split
   · unfold reqP
     split
     · split
       · exact evP_len _ _ _
       · exact evP_len _ _ _
     · exact evP_len _ _ _
   · split
     · exact evP_len _ _ _
     · split
       · exact evP_len _ _ _
       · unfold ansP
         split
         · simp
         · split
           · split
             · simp
             · exact evP_len _ _ _
           · exact evP_len _ _ _
end Go.Proofs.YtieklnlbljejdaaGreatDoor
