/-
  States of routers, as plain lists and numbers: what may be, bytes, which is newer.
  Nothing of the program is imported.
-/
import Derived.WalkKit
namespace Go.Proofs.YtgfjgenkpfdofaaDoor
namespace St

abbrev Ed := Int × Int
/-- Edges one by one: the error's number. -/
def edgF (own : Int) : Int → List Ed → Nat
  | _, [] => 0
  | ah, e :: r => if e.1 < 1 ∨ 6 < e.1 ∨ e.2 < 1 ∨ 20 < e.2 then 1 else if e.1 = own ∨ e.1 ≤ ah then 3 else edgF own e.1 r
/-- What may be: the error's number. -/
def stF (own seq : Int) (es : List Ed) : Nat := if own < 1 ∨ 6 < own ∨ seq < 1 ∨ 1000000 < seq then 1 else if 6 < es.length then 2 else edgF own 0 es
theorem stF_zero {own seq : Int} {es : List Ed} (h : stF own seq es = 0) : (1 ≤ own ∧ own ≤ 6) ∧ (1 ≤ seq ∧ seq ≤ 1000000) ∧ es.length ≤ 6 ∧ edgF own 0 es = 0 := by
  unfold stF at h
  split at h
  · simp at h
  · split at h
    · simp at h
    · exact ⟨by omega, by omega, by omega, h⟩
theorem edgF_all (own : Int) : ∀ (es : List Ed) (ah : Int), edgF own ah es = 0 → ∀ e ∈ es, (1 ≤ e.1 ∧ e.1 ≤ 6) ∧ (1 ≤ e.2 ∧ e.2 ≤ 20)
  | [], _, _, e, he => by simp at he
  | x :: r, ah, h, e, he => by
    unfold edgF at h
    split at h
    · simp at h
    · split at h
      · simp at h
      · rcases List.mem_cons.1 he with rfl | he
        · omega
        · exact edgF_all own r _ h e he

def u8 (x : Int) : UInt8 := UInt8.ofNat x.toNat
theorem u8_nat (x : Int) (h0 : 0 ≤ x) (h1 : x ≤ 255) : ((u8 x).toNat : Int) = x := by
  unfold u8
  rw [UInt8.toNat_ofNat_of_lt' (by show x.toNat < 256; omega)]
  omega
def edB (es : List Ed) : List UInt8 := es.flatMap fun o => [u8 o.1, u8 o.2]
theorem edB_snoc (os : List Ed) (o : Ed) : edB (os ++ [o]) = edB os ++ [u8 o.1, u8 o.2] := by simp [edB]
theorem edB_length (os : List Ed) : (edB os).length = 2 * os.length := by
  induction os with
  | nil => rfl
  | cons o r ih => simp only [edB, List.flatMap_cons, List.length_append, List.length_cons, List.length_nil] at ih ⊢; omega
/-- A state's bytes. -/
def stB (own seq : Int) (es : List Ed) : List UInt8 := u8 own :: u8 (seq % 256) :: u8 (seq / 256 % 256) :: u8 (seq / 65536) :: edB es
/-- The bytes behind the head, two by two. -/
def pairs : List UInt8 → List Ed
  | k :: n :: r => ((k.toNat : Int), (n.toNat : Int)) :: pairs r
  | _ => []
theorem pairs_length : ∀ l : List UInt8, (pairs l).length = l.length / 2
  | [] => rfl
  | [_] => by simp [pairs]
  | a :: b :: r => by
    have ih := pairs_length r
    simp only [pairs, List.length_cons, ih]
    omega
theorem pairs_edB : ∀ (os : List Ed), (∀ o ∈ os, (0 ≤ o.1 ∧ o.1 ≤ 255) ∧ (0 ≤ o.2 ∧ o.2 ≤ 255)) → pairs (edB os) = os
  | [], _ => rfl
  | o :: r, h => by
    have e1 : edB (o :: r) = u8 o.1 :: u8 o.2 :: edB r := by simp [edB]
    obtain ⟨h1, h2⟩ := h o (by simp)
    rw [e1, pairs, u8_nat o.1 h1.1 h1.2, u8_nat o.2 h2.1 h2.2, pairs_edB r (fun x hx => h x (by simp [hx]))]
def seqOf (l : List UInt8) : Int := ((l.getD 1 0).toNat : Int) + 256 * ((l.getD 2 0).toNat : Int) + 65536 * ((l.getD 3 0).toNat : Int)
/-- What bytes are as a state: owner, number, edges; the error's number. -/
def parseR (l : List UInt8) : Int × Int × List Ed × Nat :=
  if l.length < 4 ∨ l.length % 2 = 1 then (0, 0, [], 4)
  else if stF ((l.getD 0 0).toNat : Int) (seqOf l) (pairs (l.drop 4)) = 0 then (((l.getD 0 0).toNat : Int), seqOf l, pairs (l.drop 4), 0)
  else (0, 0, [], 4)
/-- Too long: no state. -/
theorem parseR_long (l : List UInt8) (h : 16 < l.length) : parseR l = (0, 0, [], 4) := by
  unfold parseR
  split
  · rfl
  · rename_i h1
    have hl : 6 < (pairs (l.drop 4)).length := by rw [pairs_length]; simp; omega
    split
    · rename_i h2
      have := (stF_zero h2).2.2.1
      omega
    · rfl
theorem parse_bytes (own seq : Int) (es : List Ed) (hf : stF own seq es = 0) : parseR (stB own seq es) = (own, seq, es, 0) := by
  obtain ⟨p1, p2, p3, p4⟩ := stF_zero hf
  have hall := edgF_all own es 0 p4
  have hl : (stB own seq es).length = 4 + 2 * es.length := by
    unfold stB
    simp only [List.length_cons, edB_length]
    omega
  have g0 : (stB own seq es).getD 0 0 = u8 own := rfl
  have g3 : (stB own seq es).drop 4 = edB es := rfl
  have hs : seqOf (stB own seq es) = seq := by
    show ((u8 (seq % 256)).toNat : Int) + 256 * ((u8 (seq / 256 % 256)).toNat : Int) + 65536 * ((u8 (seq / 65536)).toNat : Int) = seq
    rw [u8_nat _ (by omega) (by omega), u8_nat _ (by omega) (by omega), u8_nat _ (by omega) (by omega)]
    omega
  unfold parseR
  rw [g0, g3, hs, u8_nat own (by omega) (by omega), pairs_edB es (fun o ho => by have := hall o ho; omega), hl, if_neg (by omega), if_pos hf]

/-- Which is greater. -/
def cmpI (a b : Int) : Int := if a < b then -1 else if b < a then 1 else 0
def cmpE (a b : Ed) : Int := if cmpI a.1 b.1 ≠ 0 then cmpI a.1 b.1 else cmpI a.2 b.2
def newE : List Ed → List Ed → Int
  | [], [] => 0
  | [], _ :: _ => -1
  | _ :: _, [] => 1
  | a :: r, b :: q => if cmpE a b ≠ 0 then cmpE a b else newE r q
def newS (s1 : Int) (e1 : List Ed) (s2 : Int) (e2 : List Ed) : Int := if cmpI s1 s2 ≠ 0 then cmpI s1 s2 else newE e1 e2

theorem cmpI_anti (a b : Int) : cmpI a b = - cmpI b a := by unfold cmpI; split <;> split <;> (try split) <;> omega
theorem cmpI_zero {a b : Int} : cmpI a b = 0 ↔ a = b := by unfold cmpI; constructor <;> intro h <;> (try split at h) <;> (try split at h) <;> (try split) <;> (try split) <;> omega
theorem cmpI_three (a b : Int) : cmpI a b = -1 ∨ cmpI a b = 0 ∨ cmpI a b = 1 := by unfold cmpI; split <;> (try split) <;> simp
theorem cmpI_pos {a b : Int} : 0 < cmpI a b ↔ b < a := by unfold cmpI; split <;> (try split) <;> omega
theorem cmpI_neg {a b : Int} : cmpI a b < 0 ↔ a < b := by unfold cmpI; split <;> (try split) <;> omega
theorem cmpE_cases (a b : Ed) : (cmpE a b = 1 ∧ (b.1 < a.1 ∨ b.1 = a.1 ∧ b.2 < a.2)) ∨ (cmpE a b = -1 ∧ (a.1 < b.1 ∨ a.1 = b.1 ∧ a.2 < b.2)) ∨ (cmpE a b = 0 ∧ a = b) := by
  obtain ⟨a1, a2⟩ := a
  obtain ⟨b1, b2⟩ := b
  simp only [cmpE, cmpI, Prod.mk.injEq]
  repeat' split
  all_goals omega
theorem cmpE_anti (a b : Ed) : cmpE a b = - cmpE b a := by
  obtain ⟨a1, a2⟩ := a
  obtain ⟨b1, b2⟩ := b
  simp only [cmpE, cmpI]
  repeat' split
  all_goals omega
theorem newE_three : ∀ a b : List Ed, newE a b = -1 ∨ newE a b = 0 ∨ newE a b = 1
  | [], [] => by simp [newE]
  | [], _ :: _ => by simp [newE]
  | _ :: _, [] => by simp [newE]
  | a :: r, b :: q => by
    unfold newE
    split
    · rcases cmpE_cases a b with h | h | h <;> simp [h.1]
    · exact newE_three r q
theorem newE_anti : ∀ a b : List Ed, newE a b = - newE b a
  | [], [] => by simp [newE]
  | [], _ :: _ => by simp [newE]
  | _ :: _, [] => by simp [newE]
  | a :: r, b :: q => by
    have h := cmpE_anti a b
    have ih := newE_anti r q
    unfold newE
    split <;> split <;> omega
theorem newE_zero : ∀ {a b : List Ed}, newE a b = 0 ↔ a = b
  | [], [] => by simp [newE]
  | [], _ :: _ => by simp [newE]
  | _ :: _, [] => by simp [newE]
  | a :: r, b :: q => by
    have ih := @newE_zero r q
    unfold newE
    rcases cmpE_cases a b with h | h | h
    · rw [if_pos (by omega), h.1]
      constructor
      · intro e; simp at e
      · intro e; obtain ⟨a1, a2⟩ := a; obtain ⟨b1, b2⟩ := b; simp at e h; omega
    · rw [if_pos (by omega), h.1]
      constructor
      · intro e; simp at e
      · intro e; obtain ⟨a1, a2⟩ := a; obtain ⟨b1, b2⟩ := b; simp at e h; omega
    · rw [if_neg (by omega), ih]
      simp [h.2]
theorem newE_trans : ∀ {a b c : List Ed}, 0 ≤ newE a b → 0 ≤ newE b c → 0 ≤ newE a c ∧ (0 < newE a b ∨ 0 < newE b c → 0 < newE a c)
  | [], [], [], _, _ => by simp [newE]
  | [], [], _ :: _, _, h => by simp [newE] at h
  | [], _ :: _, _, h, _ => by simp [newE] at h
  | _ :: _, [], [], _, _ => by simp [newE]
  | _ :: _, [], _ :: _, _, h => by simp [newE] at h
  | _ :: _, _ :: _, [], _, _ => by simp [newE]
  | a :: r, b :: q, c :: s, h1, h2 => by
    have ih := @newE_trans r q s
    unfold newE at h1 h2 ⊢
    rcases cmpE_cases a b with ⟨e1, h3⟩ | ⟨e1, h3⟩ | ⟨e1, rfl⟩
    · rcases cmpE_cases b c with ⟨e2, h4⟩ | ⟨e2, h4⟩ | ⟨e2, rfl⟩
      · rcases cmpE_cases a c with ⟨e3, h5⟩ | ⟨e3, h5⟩ | ⟨e3, rfl⟩
        · simp [e3]
        · omega
        · omega
      · simp [e2] at h2
      · simp [e1]
    · simp [e1] at h1
    · rcases cmpE_cases a c with ⟨e2, h4⟩ | ⟨e2, h4⟩ | ⟨e2, rfl⟩
      · simp [e2]
      · simp [e2] at h2
      · simp only [e1] at h1 h2 ⊢
        simp at h1 h2 ⊢
        exact ih h1 h2
theorem newS_anti (s1 s2 : Int) (e1 e2 : List Ed) : newS s1 e1 s2 e2 = - newS s2 e2 s1 e1 := by
  have h := cmpI_anti s1 s2
  have ih := newE_anti e1 e2
  unfold newS
  split <;> split <;> omega
theorem newS_zero {s1 s2 : Int} {e1 e2 : List Ed} : newS s1 e1 s2 e2 = 0 ↔ s1 = s2 ∧ e1 = e2 := by
  unfold newS
  split
  · rename_i h
    constructor
    · intro e; exact absurd e h
    · intro ⟨e, _⟩; exact absurd (cmpI_zero.2 e) h
  · rename_i h
    have : s1 = s2 := cmpI_zero.1 (by omega)
    rw [newE_zero]
    simp [this]
theorem newS_three (s1 s2 : Int) (e1 e2 : List Ed) : newS s1 e1 s2 e2 = -1 ∨ newS s1 e1 s2 e2 = 0 ∨ newS s1 e1 s2 e2 = 1 := by
  unfold newS
  split
  · rcases cmpI_three s1 s2 with h | h | h <;> simp [h]
  · exact newE_three e1 e2
theorem newS_trans {s1 s2 s3 : Int} {e1 e2 e3 : List Ed} (h1 : 0 ≤ newS s1 e1 s2 e2) (h2 : 0 ≤ newS s2 e2 s3 e3) : 0 ≤ newS s1 e1 s3 e3 ∧ (0 < newS s1 e1 s2 e2 ∨ 0 < newS s2 e2 s3 e3 → 0 < newS s1 e1 s3 e3) := by
  unfold newS at h1 h2 ⊢
  by_cases a : s1 = s2
  · by_cases b : s2 = s3
    · have c : s1 = s3 := a.trans b
      rw [if_neg (by simp [cmpI_zero.2 a])] at h1
      rw [if_neg (by simp [cmpI_zero.2 b])] at h2
      have ha := cmpI_zero.2 a
      have hb := cmpI_zero.2 b
      have hc := cmpI_zero.2 c
      rw [if_neg (show ¬ cmpI s1 s2 ≠ 0 by omega), if_neg (show ¬ cmpI s2 s3 ≠ 0 by omega), if_neg (show ¬ cmpI s1 s3 ≠ 0 by omega)]
      exact newE_trans h1 h2
    · have hb : cmpI s2 s3 ≠ 0 := fun e => b (cmpI_zero.1 e)
      rw [if_pos hb] at h2
      have p : s3 < s2 := cmpI_pos.1 (by omega)
      have q : 0 < cmpI s1 s3 := cmpI_pos.2 (by omega)
      rw [if_pos (show cmpI s1 s3 ≠ 0 by omega)]
      exact ⟨by omega, fun _ => q⟩
  · have ha : cmpI s1 s2 ≠ 0 := fun e => a (cmpI_zero.1 e)
    rw [if_pos ha] at h1
    have p : s2 < s1 := cmpI_pos.1 (by omega)
    have p2 : s3 ≤ s2 := by
      by_cases b : cmpI s2 s3 = 0
      · have := cmpI_zero.1 b; omega
      · rw [if_pos b] at h2
        have := cmpI_pos.1 (show 0 < cmpI s2 s3 by omega)
        omega
    have q : 0 < cmpI s1 s3 := cmpI_pos.2 (by omega)
    rw [if_pos (show cmpI s1 s3 ≠ 0 by omega)]
    exact ⟨by omega, fun _ => q⟩
end St
end Go.Proofs.YtgfjgenkpfdofaaDoor
