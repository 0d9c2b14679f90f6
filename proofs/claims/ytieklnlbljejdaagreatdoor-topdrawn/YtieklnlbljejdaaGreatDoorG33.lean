/-
  RtTake2 RtRecv RtRecv2
-/
import Derived.Test.YtieklnlbljejdaaGreatDoorG32
namespace Go.Proofs.YtieklnlbljejdaaGreatDoor
open Go.RowKit St
namespace Rt
def linkM (r : RtM) (i : Nat) (c : UInt8) (s : List UInt8) : RtM := if c = 76 then r.setP i ((r.P i).packet s) else r
def restM (r1 : RtM) (i : Nat) (c : UInt8) (s : List UInt8) : RtM :=
 if c = 72 then (if (helR s).2.2 = 0 then r1.meet i (peerHear r1.id (helR s).1 (helR s).2.1) else r1)
 else if c = 83 then stateM r1 i s
 else if c = 65 then heardM r1 i s
 else if c = 77 then msgM r1 s
 else r1
theorem take_eq (r : RtM) (i : Nat) (c : UInt8) (s : List UInt8) : r.take i c s = if ((linkM r i c s).P i).L.st ≠ 9 then (linkM r i c s).meet i nobody else restM (linkM r i c s) i c s := rfl
set_option maxRecDepth 100000 in
set_option maxHeartbeats 2000000 in
theorem take_any (T s : ByteArray) (c : UInt8) (z : Zt) (r : RtM) (i k : Nat) (w : World) (h : RtR w z r) (hT : T = ⟨#[c]⟩) (hTab : TabOk w) (hok : ROk r) (hf : Fit r k) (hk : k ≤ 99999) (hi : i < r.n) (hs : s.size ≤ 1000) :
 Calls Tryz.prog 79 #[.pointer (some ⟨z.R, 0, none⟩), .int .i64 (i : Int), .string T, .string s] w fun e w' => e = .returned (.tuple #[]) ∧ WentR w w' z (r.take i c s.data.toList) r.n := by
 have hi' : (i : Int) < (r.n : Int) := by omega
 have hi0 : (0 : Int) ≤ (i : Int) := by omega
 have c1 := h.c1
 have cl := h.lt
 have gl := h.glt
 have HEq := take_eq r i c s.data.toList
 obtain ⟨r1, hr1⟩ : ∃ r1, linkM r i c s.data.toList = r1 := ⟨_, rfl⟩
 rw [hr1] at HEq
 have hn1 : r1.n = r.n := by rw [← hr1]; unfold linkM; split <;> rfl
 have hok1 : ROk r1 := by
  rw [← hr1]
  unfold linkM
  split
  · exact hok.setP i _ (packet_m _ _).1 (fun hi => by rw [(packet_m _ _).2]; exact hok.pe i hi)
  · exact hok
 have hf1 : Fit r1 (k + 1) := by
  rw [← hr1]
  unfold linkM
  split
  · exact hf.grow i _ (Nat.le_trans (packet_len _ _) (by omega))
  · exact hf.mono (Nat.le_succ k)
 have hi1 : i < r1.n := by rw [hn1]; exact hi
 have hop : Hid (∀ W, WentR w W z r1 r.n → Calls Tryz.prog 83 #[.pointer (some ⟨z.g, i * 71, none⟩)] W fun e w' => e = .returned (.bool ((r1.P i).L.st == 9)) ∧ W = w') := by
  intro W hW
  obtain ⟨v, hv⟩ := hW.pt hi1
  exact opened_any z.g (i * 71) (z.B i) v (r1.P i) W hv
 have hlk : Hid (c = 76 → Calls Tryz.prog 133 #[.pointer (some ⟨z.g, i * 71, none⟩), .string s] w fun e w' => e = .returned (.tuple #[]) ∧ WentR w w' z r1 r.n) := by
  intro e
  refine (packet_port s z.g (i * 71) (z.B i) (z.v i) (r.P i) w (h.pt i hi) hTab hs (by have := hf.out i hi; omega)).mono ?_
  rintro e1 w1 ⟨rfl, hw⟩
  refine ⟨rfl, ?_⟩
  rw [← hr1]
  unfold linkM
  rw [if_pos e]
  exact h.port hi hw
 have hnl : Hid (c ≠ 76 → WentR w w z r1 r.n) := by
  intro e
  rw [← hr1]
  unfold linkM
  rw [if_neg e]
  exact WentR.refl h
 have hmt : Hid ((r1.P i).L.st ≠ 9 → ∀ W, WentR w W z r1 r.n → Calls Tryz.prog 74 #[.pointer (some ⟨z.R, 0, none⟩), .int .i64 (i : Int), .agg #[.int .i64 0, .bool false, .int .i64 0]] W fun e w' => e = .returned (.tuple #[]) ∧ WentR w w' z (r.take i c s.data.toList) r.n) := by
  intro e W hW
  rw [HEq, if_pos e]
  refine hW.call fun z1 R1 hl => ?_
  rw [← hl.R, ← hn1]
  exact meet_any z1 r1 i nobody W R1 hok1 hi1 (PeOk.nobody hok1.id.1)
 have hhe : Hid ((r1.P i).L.st = 9 → c = 72 → ∀ W, WentR w W z r1 r.n → Calls Tryz.prog 134 #[.pointer (some ⟨z.R, 0, none⟩), .int .i64 (i : Int), .string s] W fun e w' => e = .returned (.tuple #[]) ∧ WentR w w' z (r.take i c s.data.toList) r.n) := by
  intro e e2 W hW
  rw [HEq, if_neg (by simp [e])]
  unfold restM
  rw [if_pos e2]
  refine hW.call fun z1 R1 hl => ?_
  rw [← hl.R, ← hn1]
  exact takeHello_any s z1 r1 i W R1 hok1 hi1
 have hst : Hid ((r1.P i).L.st = 9 → c = 83 → ∀ W, WentR w W z r1 r.n → Calls Tryz.prog 135 #[.pointer (some ⟨z.R, 0, none⟩), .int .i64 (i : Int), .string s] W fun e w' => e = .returned (.tuple #[]) ∧ WentR w w' z (r.take i c s.data.toList) r.n) := by
  intro e e2 W hW
  rw [HEq, if_neg (by simp [e])]
  unfold restM
  rw [if_neg (by rw [e2]; decide), if_pos e2]
  refine hW.call fun z1 R1 hl => ?_
  rw [← hl.R, ← hn1]
  exact takeState_any s z1 r1 i W R1 hok1 hi1 hs (by have := hf1.out i hi1; omega)
 have hhd : Hid ((r1.P i).L.st = 9 → c = 65 → ∀ W, WentR w W z r1 r.n → Calls Tryz.prog 136 #[.pointer (some ⟨z.R, 0, none⟩), .int .i64 (i : Int), .string s] W fun e w' => e = .returned (.tuple #[]) ∧ WentR w w' z (r.take i c s.data.toList) r.n) := by
  intro e e2 W hW
  rw [HEq, if_neg (by simp [e])]
  unfold restM
  rw [if_neg (by rw [e2]; decide), if_neg (by rw [e2]; decide), if_pos e2]
  refine hW.call fun z1 R1 hl => ?_
  rw [← hl.R, ← hn1]
  exact takeHeard_any s z1 r1 i W R1 hi1 hs
 have hmg : Hid ((r1.P i).L.st = 9 → c = 77 → ∀ W, WentR w W z r1 r.n → Calls Tryz.prog 137 #[.pointer (some ⟨z.R, 0, none⟩), .string s] W fun e w' => e = .returned (.tuple #[]) ∧ WentR w w' z (r.take i c s.data.toList) r.n) := by
  intro e e2 W hW
  rw [HEq, if_neg (by simp [e])]
  unfold restM
  rw [if_neg (by rw [e2]; decide), if_neg (by rw [e2]; decide), if_neg (by rw [e2]; decide), if_pos e2]
  refine hW.call fun z1 R1 hl => ?_
  rw [← hl.R, ← hn1]
  exact takeMessage_any s z1 r1 (k + 1) W R1 hok1 hf1 (by omega) hs
 have hno : Hid ((r1.P i).L.st = 9 → c ≠ 72 → c ≠ 83 → c ≠ 65 → c ≠ 77 → ∀ W, WentR w W z r1 r.n → WentR w W z (r.take i c s.data.toList) r.n) := by
  intro e e1 e2 e3 e4 W hW
  rw [HEq, if_neg (by simp [e])]
  unfold restM
  rw [if_neg e1, if_neg e2, if_neg e3, if_neg e4]
  exact hW
 have HT : Hid (T = ⟨#[c]⟩) := hT
 generalize (r1.P i).L.st = st at hop hmt hhe hst hhd hmg hno
 obtain ⟨Q, hQ⟩ : ∃ Q : World → Prop, (fun x => WentR w x z (r.take i c s.data.toList) r.n) = Q := ⟨_, rfl⟩
 have hQ' : ∀ x, WentR w x z (r.take i c s.data.toList) r.n = Q x := fun x => congrFun hQ x
 simp only [hQ'] at hmt hhe hst hhd hmg hno ⊢
 obtain ⟨Q1, hQ1⟩ : ∃ Q : World → Prop, (fun x => WentR w x z r1 r.n) = Q := ⟨_, rfl⟩
 have hQ1' : ∀ x, WentR w x z r1 r.n = Q1 x := fun x => congrFun hQ1 x
 simp only [hQ1'] at hop hlk hnl hmt hhe hst hhd hmg hno
 clear h hok hf hok1 hf1 hi1 hn1 hr1 HEq hQ hQ' hQ1 hQ1' hTab
 go_enter Tryz.func79, Tryz.ntmps79
 cases q76 : (c == 76) with
 | true =>
   have hl0 := hlk.out (by simpa using q76)
   go_wp2_with (fail)
   refine hl0.mono ?_
   rintro e W3 ⟨rfl, hW3⟩
   clear hl0
   have ho3 := hop.out _ hW3
   go_wp2_with (fail)
   refine ho3.mono ?_
   rintro e W4 ⟨rfl, rfl⟩
   clear ho3
   cases q9 : (st == 9) with
   | false =>
     have hm4 := hmt.out (by simpa using q9) _ hW3
     clear hmt hhe hst hhd hmg hno hlk hnl hop
     go_wp2_with (fail)
     refine hm4.mono ?_
     rintro e W5 ⟨rfl, hw5⟩
     clear hm4
     go_wp2_with (fail)
     first | go_end0 | refine bodyPost_ret (results_none rfl _ _ _) rfl ?_
     exact ⟨rfl, hw5⟩
   | true =>
     have e9 : st = 9 := by simpa using q9
     have q72 : (c == 72) = false := by rw [show c = 76 by simpa using q76]; rfl
     have q83 : (c == 83) = false := by rw [show c = 76 by simpa using q76]; rfl
     have q65 : (c == 65) = false := by rw [show c = 76 by simpa using q76]; rfl
     have q77 : (c == 77) = false := by rw [show c = 76 by simpa using q76]; rfl
     have hw5 := hno.out e9 (by simpa using q72) (by simpa using q83) (by simpa using q65) (by simpa using q77) _ hW3
     clear hmt hhe hst hhd hmg hno hlk hnl hop e9
     go_wp2_with (fail)
     first | go_end0 | refine bodyPost_ret (results_none rfl _ _ _) rfl ?_
     exact ⟨rfl, hw5⟩
 | false =>
   have hW3 := hnl.out (by simpa using q76)
   have ho3 := hop.out _ hW3
   go_wp2_with (fail)
   refine ho3.mono ?_
   rintro e W4 ⟨rfl, rfl⟩
   clear ho3
   cases q9 : (st == 9) with
   | false =>
     have hm4 := hmt.out (by simpa using q9) _ hW3
     clear hmt hhe hst hhd hmg hno hlk hnl hop
     go_wp2_with (fail)
     refine hm4.mono ?_
     rintro e W5 ⟨rfl, hw5⟩
     clear hm4
     go_wp2_with (fail)
     first | go_end0 | refine bodyPost_ret (results_none rfl _ _ _) rfl ?_
     exact ⟨rfl, hw5⟩
   | true =>
     have e9 : st = 9 := by simpa using q9
     cases q72 : (c == 72) with
     | true =>
       have hm4 := hhe.out e9 (by simpa using q72) _ hW3
       clear hmt hhe hst hhd hmg hno hlk hnl hop e9
       go_wp2_with (fail)
       refine hm4.mono ?_
       rintro e W5 ⟨rfl, hw5⟩
       clear hm4
       go_wp2_with (fail)
       first | go_end0 | refine bodyPost_ret (results_none rfl _ _ _) rfl ?_
       exact ⟨rfl, hw5⟩
     | false =>
       cases q83 : (c == 83) with
       | true =>
         have hm4 := hst.out e9 (by simpa using q83) _ hW3
         clear hmt hhe hst hhd hmg hno hlk hnl hop e9
         go_wp2_with (fail)
         refine hm4.mono ?_
         rintro e W5 ⟨rfl, hw5⟩
         clear hm4
         go_wp2_with (fail)
         first | go_end0 | refine bodyPost_ret (results_none rfl _ _ _) rfl ?_
         exact ⟨rfl, hw5⟩
       | false =>
         cases q65 : (c == 65) with
         | true =>
           have hm4 := hhd.out e9 (by simpa using q65) _ hW3
           clear hmt hhe hst hhd hmg hno hlk hnl hop e9
           go_wp2_with (fail)
           refine hm4.mono ?_
           rintro e W5 ⟨rfl, hw5⟩
           clear hm4
           go_wp2_with (fail)
           first | go_end0 | refine bodyPost_ret (results_none rfl _ _ _) rfl ?_
           exact ⟨rfl, hw5⟩
         | false =>
           cases q77 : (c == 77) with
           | true =>
             have hm4 := hmg.out e9 (by simpa using q77) _ hW3
             clear hmt hhe hst hhd hmg hno hlk hnl hop e9
             go_wp2_with (fail)
             refine hm4.mono ?_
             rintro e W5 ⟨rfl, hw5⟩
             clear hm4
             go_wp2_with (fail)
             first | go_end0 | refine bodyPost_ret (results_none rfl _ _ _) rfl ?_
             exact ⟨rfl, hw5⟩
           | false =>
             have hw5 := hno.out e9 (by simpa using q72) (by simpa using q83) (by simpa using q65) (by simpa using q77) _ hW3
             clear hmt hhe hst hhd hmg hno hlk hnl hop e9
             go_wp2_with (fail)
             first | go_end0 | refine bodyPost_ret (results_none rfl _ _ _) rfl ?_
             exact ⟨rfl, hw5⟩
end Rt
end Go.Proofs.YtieklnlbljejdaaGreatDoor

namespace Go.Proofs.YtieklnlbljejdaaGreatDoor
open Go.RowKit St
namespace Rt
theorem told_len (l : List UInt8) (e d : Bool) (h : l.length ≤ 62) : (ftoldR l e d).1.length ≤ 62 := by
 unfold ftoldR
 split
 · simp
 · split
   · simp
   · split
     · simp
     · split
       · simp; omega
       · simp
theorem addR_len (s : RState) (c : UInt8) (h : s.1.length ≤ 62) : (addR s c).1.length ≤ 62 := by
 obtain ⟨l, e, d⟩ := s
 unfold addR
 simp only at h ⊢
 split
 · exact h
 · split
   · exact h
   · split
     · exact h
     · simp; omega
theorem stepA_len (a : List (List UInt8) × Nat × RState) (c : UInt8) (h : a.2.2.1.length ≤ 62) (h2 : ∀ t ∈ a.1, t.length ≤ 62) : (stepA a c).2.2.1.length ≤ 62 ∧ ∀ t ∈ (stepA a c).1, t.length ≤ 62 := by
 have hr : (ftakeR a.2.2.1 a.2.2.2.1 a.2.2.2.2 c).1.length ≤ 62 := by
  unfold ftakeR
  split
  · simp
  · exact addR_len _ c h
 have ht : (ftakeA a.2.2.1 a.2.2.2.1 a.2.2.2.2 c).1.length ≤ 62 := by
  unfold ftakeA
  split
  · exact told_len _ _ _ h
  · simp
 unfold stepA
 simp only
 split
 · exact ⟨hr, h2⟩
 · split
   · refine ⟨hr, fun t htm => ?_⟩
     rcases List.mem_append.1 htm with h3 | h3
     · exact h2 t h3
     · rw [List.mem_singleton.1 h3]
       exact ht
   · exact ⟨hr, h2⟩
theorem foldl_len : ∀ (l : List UInt8) (a : List (List UInt8) × Nat × RState), a.2.2.1.length ≤ 62 → (∀ t ∈ a.1, t.length ≤ 62) → ∀ t ∈ (l.foldl stepA a).1, t.length ≤ 62
 | [], _, _, h2 => h2
 | c :: l, a, h1, h2 => by
   have := stepA_len a c h1 h2
   exact foldl_len l (stepA a c) this.1 this.2
theorem allR_len (st : RState) (l : List UInt8) (h : st.1.length ≤ 62) : ∀ t ∈ (allR st l).1, t.length ≤ 62 := foldl_len l ([], 0, st) h (fun t ht => by simp at ht)
theorem linkM_n (r : RtM) (i : Nat) (c : UInt8) (s : List UInt8) : (linkM r i c s).n = r.n ∧ (linkM r i c s).id = r.id := by
 unfold linkM
 split <;> exact ⟨rfl, rfl⟩
theorem restM_n (r : RtM) (i : Nat) (c : UInt8) (s : List UInt8) : (restM r i c s).n = r.n ∧ (restM r i c s).id = r.id := by
 unfold restM
 split
 · split
   · exact ⟨meet_n _ _ _, meet_id _ _ _⟩
   · exact ⟨rfl, rfl⟩
 · split
   · exact state_n _ _ _
   · split
     · unfold heardM
       simp only
       split <;> exact ⟨rfl, rfl⟩
     · split
       · unfold msgM
         split
         · exact send_n _ _
         · exact ⟨rfl, rfl⟩
       · exact ⟨rfl, rfl⟩
theorem take_n (r : RtM) (i : Nat) (c : UInt8) (s : List UInt8) : (r.take i c s).n = r.n ∧ (r.take i c s).id = r.id := by
 rw [take_eq]
 have h1 := linkM_n r i c s
 split
 · exact ⟨(meet_n _ _ _).trans h1.1, (meet_id _ _ _).trans h1.2⟩
 · have h2 := restM_n (linkM r i c s) i c s
   exact ⟨h2.1.trans h1.1, h2.2.trans h1.2⟩
theorem ROk.link {r : RtM} (h : ROk r) (i : Nat) (c : UInt8) (s : List UInt8) : ROk (linkM r i c s) := by
 unfold linkM
 split
 · exact h.setP i _ (packet_m _ _).1 (fun hi => by rw [(packet_m _ _).2]; exact h.pe i hi)
 · exact h
theorem Fit.link {r : RtM} {k : Nat} (h : Fit r k) (i : Nat) (c : UInt8) (s : List UInt8) : Fit (linkM r i c s) (k + 1) := by
 unfold linkM
 split
 · exact h.grow i _ (Nat.le_trans (packet_len _ _) (by omega))
 · exact h.mono (Nat.le_succ k)
theorem helR_who {s : List UInt8} (hz : (helR s).2.2 = 0) : 1 ≤ (helR s).1 ∧ (helR s).1 ≤ 6 := by
 unfold helR at hz ⊢
 split at hz
 · rename_i hc
   rw [if_pos hc]
   have := hc.2
   simp only [helB, Bool.and_eq_true, decide_eq_true_eq] at this
   simp only
   omega
 · simp at hz
theorem ROk.rest {r : RtM} (h : ROk r) (i : Nat) (c : UInt8) (s : List UInt8) : ROk (restM r i c s) := by
 unfold restM
 split
 · split
   · rename_i hz
     exact h.meet i (PeOk.hear h.id.1 (helR_who hz))
   · exact h
 · split
   · exact h.state i s
   · split
     · unfold heardM
       simp only
       split
       · exact h.congrO _
       · exact h
     · split
       · unfold msgM
         split
         · exact h.send _
         · exact h
       · exact h
theorem Fit.rest {r : RtM} {k : Nat} (h : Fit r k) (i : Nat) (c : UInt8) (s : List UInt8) : Fit (restM r i c s) (k + 1) := by
 unfold restM
 split
 · split
   · exact (h.meet i _).mono (Nat.le_succ k)
   · exact h.mono (Nat.le_succ k)
 · split
   · exact h.state i s
   · split
     · unfold heardM
       simp only
       split
       · exact Fit.mono (h.congr rfl rfl rfl rfl) (Nat.le_succ k)
       · exact h.mono (Nat.le_succ k)
     · split
       · unfold msgM
         split
         · exact h.send _
         · exact h.mono (Nat.le_succ k)
       · exact h.mono (Nat.le_succ k)
theorem ROk.take {r : RtM} (h : ROk r) (i : Nat) (c : UInt8) (s : List UInt8) : ROk (r.take i c s) := by
 rw [take_eq]
 split
 · exact (h.link i c s).meet i (PeOk.nobody (h.link i c s).id.1)
 · exact (h.link i c s).rest i c s
theorem Fit.take {r : RtM} {k : Nat} (h : Fit r k) (i : Nat) (c : UInt8) (s : List UInt8) : Fit (r.take i c s) (k + 2) := by
 rw [take_eq]
 split
 · exact ((h.link i c s).meet i _).mono (by omega)
 · exact (h.link i c s).rest i c s
def take1 (r : RtM) (i : Nat) : List UInt8 → RtM
 | [] => r
 | c :: s => r.take i c s
theorem takes_snoc : ∀ (l : List (List UInt8)) (r : RtM) (i : Nat) (t : List UInt8), r.takes i (l ++ [t]) = take1 (r.takes i l) i t
 | [], r, i, t => by cases t <;> rfl
 | x :: l, r, i, t => by
   show (match x with | [] => r | c :: s => r.take i c s).takes i (l ++ [t]) = take1 ((match x with | [] => r | c :: s => r.take i c s).takes i l) i t
   exact takes_snoc l _ i t
theorem take1_all {r : RtM} {k : Nat} (h : ROk r) (hf : Fit r k) (i : Nat) (t : List UInt8) : (take1 r i t).n = r.n ∧ ROk (take1 r i t) ∧ Fit (take1 r i t) (k + 2) := by
 cases t with
 | nil => exact ⟨rfl, h, hf.mono (by omega)⟩
 | cons c s => exact ⟨(take_n r i c s).1, h.take i c s, hf.take i c s⟩
theorem takes_all : ∀ (l : List (List UInt8)) {r : RtM} {k : Nat} (_ : ROk r) (_ : Fit r k) (i : Nat), (r.takes i l).n = r.n ∧ ROk (r.takes i l) ∧ Fit (r.takes i l) (k + 2 * l.length)
 | [], r, k, h, hf, i => ⟨rfl, h, hf⟩
 | x :: l, r, k, h, hf, i => by
   have h1 := take1_all h hf i x
   have e : r.takes i (x :: l) = (take1 r i x).takes i l := by cases x <;> rfl
   have h2 := takes_all l h1.2.1 h1.2.2 i
   rw [e]
   refine ⟨h2.1.trans h1.1, h2.2.1, h2.2.2.mono (by simp; omega)⟩
end Rt
end Go.Proofs.YtieklnlbljejdaaGreatDoor

namespace Go.Proofs.YtieklnlbljejdaaGreatDoor
open Go.RowKit St
namespace Rt
theorem PtR.rdC {w : World} {g o B : Nat} {v : Value} {p : PtM} (h : PtR w g o B v p) : Rd w g (o + 2) p.rd.1 p.rd.2.1 p.rd.2.2 := by
 obtain ⟨F, hC, hF⟩ := h.cel
 refine ⟨F, (hC.sub 2 65 (by decide)).congr (fun j hj => ?_), hF⟩
 unfold ptF
 rw [if_neg (by omega), if_neg (by omega), if_pos (by omega), show 2 + j - 2 = j by omega]
theorem PtR.read {w w' : World} {g o B : Nat} {v : Value} {p : PtM} (h : PtR w g o B v p) (r : RState) (hr : Rd w' g (o + 2) r.1 r.2.1 r.2.2) (hk : KeptC w w' g (o + 2) 65) : PtR w' g o B v { p with rd := r } ∧ KeptP w w' g o B v := by
 obtain ⟨F, hC, hF⟩ := h.cel
 obtain ⟨G, hG, hGF⟩ := hr
 have hj := Cel.join (a := 2) (k := 65) hC hk hG
 refine ⟨⟨⟨G, hj.congr (fun j hj => ptF_rd p B v F G r j hj), hGF⟩, h.lk.keep (hk.block B h.lk.lt (fun e => h.gB e.symm)), h.ou.keep hk.size (fun x hx => hk.block x (h.ou.lt x hx) (fun e => h.vg (by rw [hx, e]))), h.few, h.ok, h.gB, h.vg, h.vB, h.nz⟩, ⟨hk.os, hk.tape, hk.output, hk.size, fun i hi h1 _ _ => hk.block i hi h1, fun j hj => hk.cell j (by omega), hk.fz⟩⟩
theorem RtR.portS {w w' : World} {z : Zt} {r : RtM} {i : Nat} {p : PtM} (h : RtR w z r) (hi : i < r.n) (hP : PtR w' z.g (i * 71) (z.B i) (z.v i) p) (hK : KeptP w w' z.g (i * 71) (z.B i) (z.v i)) : RtR w' z (r.setP i p) ∧ KeptZ w w' z r.n := by
 have hmi : z.mine r.n z.g ∧ z.mine r.n (z.B i) ∧ ∀ k, (z.v i).ownBlock = some k → z.mine r.n k := ⟨.inr (.inl rfl), .inr (.inr (.inl ⟨i, hi, .inl rfl⟩)), fun k hk => .inr (.inr (.inl ⟨i, hi, .inr hk⟩))⟩
 have hoth : ∀ k, k < w.heap.size → ¬ z.mine r.n k → w'.heap[k]? = w.heap[k]? := fun k hk hm => hK.block k hk (fun e => hm (by rw [e]; exact hmi.1)) (fun e => hm (by rw [e]; exact hmi.2.1)) (fun e => hm (hmi.2.2 k e))
 have hbs := h.bs.still hK.size (fun j hj hn => hoth j hj (fun e => hn (h.no j e))) h.nb.1 h.nb.2.1 h.nb.2.2 z.fm.no (fun j hj => .inl hj) (fun j hj => Nat.lt_of_lt_of_le (h.bs.nob j hj) hK.size)
 refine ⟨⟨h.n1, h.n3, h.ncap, h.id, ?_, ?_, ?_, hbs, h.bl, h.no, h.nb, h.sR, h.sB, h.sV, h.sI, h.nz0⟩, ⟨hK.os, hK.tape, hK.output, hK.size, fun k hk hm _ _ => hoth k hk hm⟩⟩
 · exact h.blk.keep (hK.block z.R h.blk.lt h.sR.1 (fun e => (h.sR.2.2 i hi).1 e.symm) (h.sR.2.2 i hi).2)
 · intro j hj
   by_cases e : j = i
   · subst e
     show PtR w' z.g (j * 71) (z.B j) (z.v j) (updP r.P j p j)
     rw [updP_same]
     exact hP
   · show PtR w' z.g (j * 71) (z.B j) (z.v j) (updP r.P i p j)
     rw [updP_other _ _ e]
     have hj0 := h.pt j hj
     obtain ⟨F, hC, hF⟩ := hj0.cel
     have hs := h.sB j i hj hi e
     refine ⟨⟨F, fun x hx => ⟨(hK.cell (j * 71 + x) ?_).trans (hC.cell x hx), (hK.fz _).trans (hC.fz x hx)⟩, hF⟩, hj0.lk.keep (hK.block (z.B j) hj0.lk.lt (fun e => hj0.gB e.symm) hs.1 (h.sV i j hi hj)), hj0.ou.keep hK.size (fun k hk => hK.block k (hj0.ou.lt k hk) (fun e => hj0.vg (by rw [hk, e])) (fun e => h.sV j i hj hi (by rw [hk, e])) (hs.2 k hk)), hj0.few, hj0.ok, hj0.gB, hj0.vg, hj0.vB, hj0.nz⟩
     rcases Nat.lt_or_gt_of_ne e with h1 | h1
     · exact .inl (by omega)
     · exact .inr (by omega)
 · exact h.ib.keep hK.size (fun k hk => hK.block k (h.ib.lt k hk) (h.sI k hk).2.1 ((h.sI k hk).2.2 i hi).1 ((h.sI k hk).2.2 i hi).2)
theorem strs_at (l : List (List UInt8)) (j : Nat) (h : j < l.length) : (strs l)[j]? = some (.string ⟨l[j].toArray⟩) := by simp [strs, h]
set_option maxRecDepth 100000 in
set_option maxHeartbeats 2000000 in
theorem recv_any (s : ByteArray) (z : Zt) (r : RtM) (i k : Nat) (w : World) (h : RtR w z r) (hTab : TabOk w) (hok : ROk r) (hf : Fit r k) (hk : k + 2 * s.size ≤ 99999) (hi : i < r.n) :
 Calls Tryz.prog 23 #[.pointer (some ⟨z.R, 0, none⟩), .int .i64 (i : Int), .string s] w fun e w' => e = .returned .nilIface ∧ WentR w w' z (r.recv i s.data.toList) r.n := by
 have hh := hasR_any z r i w h
 rw [hasB_yes hi] at hh
 have hi' : (i : Int) < (r.n : Int) := by omega
 have hi0 : (0 : Int) ≤ (i : Int) := by omega
 have c1 := h.c1
 have cl := h.lt
 have gl := h.glt
 have hp := h.pt i hi
 obtain ⟨A, hA⟩ : ∃ A, allR (r.P i).rd s.data.toList = A := ⟨_, rfl⟩
 have hal := fall_any z.g (i * 71 + 2) (r.P i).rd s w hp.rdC (by omega)
 rw [hA] at hal
 have hAl : A.1.length ≤ s.size := by
  have := allR_le (r.P i).rd s.data.toList
  rw [hA] at this
  have e : s.data.toList.length = s.size := by simp
  omega
 have hAt : Hid (∀ t ∈ A.1, t.length ≤ 62) := by
  show ∀ t ∈ A.1, _
  rw [← hA]
  obtain ⟨F, _, hF⟩ := hp.cel
  exact allR_len _ _ hF.len
 obtain ⟨r1, hr1⟩ : ∃ r1, r.setP i { r.P i with rd := A.2.2 } = r1 := ⟨_, rfl⟩
 have hn1 : r1.n = r.n := by rw [← hr1]; rfl
 have hok1 : ROk r1 := by rw [← hr1]; exact hok.setP i _ rfl (fun hi => hok.pe i hi)
 have hf1 : Fit r1 k := by rw [← hr1]; exact hf.setP i _ (fun hi => hf.out i hi)
 have hE : Hid (r.recv i s.data.toList = r1.takes i A.1) := by
  show _ = _
  unfold RtM.recv
  simp only [hA]
  rw [hr1]
 have hal2 : Calls Tryz.prog 78 #[.pointer (some ⟨z.g, i * 71 + 2, none⟩), .string s] w fun e w' => ∃ v, e = .returned (.tuple #[v, .int .i64 (A.2.1 : Int)]) ∧ Row w' 1 v A.1.length (strs A.1) ∧ (∀ k, v.ownBlock = some k → w.heap.size ≤ k) ∧ RtR w' z r1 ∧ KeptZ w w' z r.n := by
  refine hal.mono ?_
  rintro e w1 ⟨v, rfl, h1, h2, _, h4, h5⟩
  refine ⟨v, rfl, h1, h2, ?_⟩
  rw [← hr1]
  have h6 := PtR.read hp A.2.2 h4 h5
  exact h.portS hi h6.1 h6.2
 have HR : Hid _ := h
 have HTab : Hid _ := hTab
 clear h hok hf hp hal hTab
 go_enter Tryz.func23, Tryz.ntmps23
 go_wp2_with (fail)
 refine hh.mono ?_
 rintro e w0 ⟨rfl, rfl⟩
 clear hh
 go_wp2_with (fail)
 refine hal2.mono ?_
 rintro e W1 ⟨v, rfl, hrow, hnew, R1, hK1⟩
 clear hal2 c1 cl gl
 obtain ⟨n, hn⟩ : ∃ n, A.1.length = n := ⟨_, rfl⟩
 have hsh : ∃ a cp, v = .slice a n cp := by
  rcases hrow.2 with ⟨e, h0⟩ | ⟨g, c, e, _⟩
  · exact ⟨none, 0, by rw [e, ← hn, h0]⟩
  · exact ⟨_, c, by rw [e, hn]⟩
 obtain ⟨a, cp, rfl⟩ := hsh
 have hnm : ∀ j, Value.ownBlock (.slice a n cp) = some j → ¬ z.mine r.n j := fun j hj => HR.out.not_mine (hnew j hj)
 have HTab1 : Hid (∀ wr rr, WentR W1 wr z rr r.n → TabOk wr) := by
  have h1 : TabOk W1 := WentR.tab (z := z) (r := r1) ⟨⟨z, R1, z.like_refl, fun _ e => .inl e, fun _ e => e⟩, hK1⟩ HR.out rfl HTab.out
  intro wr rr hw
  exact hw.tab R1 hn1 h1
 have HCel : Hid (∀ wr rr, WentR W1 wr z rr r.n → ∀ j, (hj : j < A.1.length) → ∃ g, a = some ⟨g, 0, none⟩ ∧ wr.cell? ⟨g, j, none⟩ = some (.string ⟨(A.1[j]).toArray⟩)) := by
  intro wr rr hw j hj
  rcases hrow.2 with ⟨e, h0⟩ | ⟨g, c, e, _, _, _, hc, _⟩
  · omega
  · have ea : a = some ⟨g, 0, none⟩ := (Value.slice.inj e).1
    refine ⟨g, ea, hw.cell R1 (p := ⟨g, j, none⟩) (hnm g (by rw [ea]; rfl)) (hc j _ (strs_at A.1 j hj))⟩
 have HFin : Hid (∀ wr, WentR W1 wr z (r1.takes i A.1) r.n → WentR w wr z (r.recv i s.data.toList) r.n) := by
  intro wr hw
  rw [hE.out]
  exact WentR.thenBy (r := r1) ⟨⟨z, R1, z.like_refl, fun _ e => .inl e, fun _ e => e⟩, hK1⟩ R1 z.like_refl (fun _ e => .inl e) (fun _ e => e) hw
 have H0 : Hid (WentR W1 W1 z (r1.takes i (A.1.take 0)) r.n) := by
  show WentR _ _ _ _ _
  rw [← hn1]
  exact WentR.refl R1
 have HN : Hid _ := hn
 have HOk1 : Hid _ := hok1
 have HF1 : Hid _ := hf1
 clear hrow hnew R1 hK1 hnm hE hok1 hf1 hr1 hA
 have hns : n ≤ s.size := by omega
 go_wp2_with (fail)
 go_loopw [30] (fun x wr => ∃ q : Nat, q ≤ n ∧ x = .int .i64 q ∧ WentR W1 wr z (r1.takes i (A.1.take q)) r.n) (fun x _ => n - (intOf x).toNat)
 case atStart => exact ⟨0, Nat.zero_le _, rfl, H0.out⟩
 case round =>
  obtain ⟨q, hq, rfl, hwq⟩ := hrel
  by_cases hlt : q < n
  · have hlt' : (q : Int) < (n : Int) := by omega
    have hq0 : (0 : Int) ≤ (q : Int) := by omega
    have hqA : q < A.1.length := by have := HN.out; omega
    obtain ⟨g, rfl, hcell⟩ := HCel.out _ _ hwq q hqA
    have hT1 := HTab1.out _ _ hwq
    have ht62 := hAt.out _ (List.getElem_mem hqA)
    have hts : Hid (r1.takes i (A.1.take (q + 1)) = take1 (r1.takes i (A.1.take q)) i A.1[q]) := by
     show _ = _
     rw [List.take_succ_eq_append_getElem hqA, takes_snoc]
    have hall := takes_all (A.1.take q) HOk1.out HF1.out i
    have hlq : (A.1.take q).length ≤ q := List.length_take_le _ _
    have gl := World.block_lt_of_cell? _ _ hcell
    generalize A.1[q] = tt at hcell ht62 hts
    obtain ⟨rq, hrq⟩ : ∃ rq, r1.takes i (A.1.take q) = rq := ⟨_, rfl⟩
    rw [hrq] at hwq hts hall
    cases tt with
    | nil =>
      have HW : Hid (WentR W1 wr z (r1.takes i (A.1.take (q + 1))) r.n) := by
       show WentR _ _ _ _ _
       rw [hts.out]
       exact hwq
      clear hwq hts hall hrq
      obtain ⟨TT, hTT⟩ : ∃ TT : ByteArray, (⟨([] : List UInt8).toArray⟩ : ByteArray) = TT := ⟨_, rfl⟩
      rw [hTT] at hcell
      have hne : TT.toList.isEmpty = true := by rw [← hTT, ByteArray.toList_eq]; rfl
      clear hTT
      go_wp2_with (fail)
      go_roundw
      case rel => exact ⟨q + 1, by omega, by go_num, HW.out⟩
      case measure => simp [intOf]; omega
    | cons c tl =>
      obtain ⟨TT, hTT⟩ : ∃ TT : ByteArray, (⟨(c :: tl).toArray⟩ : ByteArray) = TT := ⟨_, rfl⟩
      have hsz : TT.size = tl.length + 1 := by rw [← hTT]; simp [ByteArray.size]
      have hx0 : TT.extract 0 1 = ⟨#[c]⟩ := by
       rw [← hTT]
       apply ByteArray.ext
       apply Array.toList_inj.1
       rw [extract_mid]
       simp
      have hx1 : TT.extract 1 TT.size = ⟨tl.toArray⟩ := by
       apply ByteArray.ext
       apply Array.toList_inj.1
       rw [extract_mid, hsz, ← hTT]
       simp
      have htl : TT.toList = c :: tl := by rw [ByteArray.toList_eq, ← hTT]
      have hne : TT.toList.isEmpty = false := by rw [htl]; rfl
      rw [hTT] at hcell
      have g1 : (1 : Int) ≤ (TT.size : Int) := by omega
      have g0 : (0 : Int) ≤ (TT.size : Int) := by omega
      have hiq : i < rq.n := by rw [hall.1, hn1]; exact hi
      have htk : Calls Tryz.prog 79 #[.pointer (some ⟨z.R, 0, none⟩), .int .i64 (i : Int), .string ⟨#[c]⟩, .string ⟨tl.toArray⟩] wr.drew fun e w' => e = .returned (.tuple #[]) ∧ WentR W1 w' z (r1.takes i (A.1.take (q + 1))) r.n := by
       rw [hts.out]
       have hwd := hwq.below (by rw [hall.1]; exact hn1) (below_d wr)
       refine hwd.call fun z1 Rz hl => ?_
       have hlen : (⟨tl.toArray⟩ : ByteArray).size ≤ 1000 := by
        show tl.toArray.size ≤ 1000
        simp at ht62 ⊢
        omega
       have := take_any ⟨#[c]⟩ ⟨tl.toArray⟩ c z1 rq i (k + 2 * (A.1.take q).length) wr.drew Rz rfl hT1 hall.2.1 hall.2.2 (by omega) hiq hlen
       rw [hl.R, hall.1, hn1] at this
       have e1 : (⟨tl.toArray⟩ : ByteArray).data.toList = tl := by simp
       rw [e1] at this
       exact this
      have g1n : 1 ≤ TT.size := by omega
      clear hwq hts hall hrq hTT hT1 htl hsz
      go_wp2_with (fail)
      go_region_held3 (fun _ => True)
       (first | trivial)
       (first
         | (go_at_call 79; refine htk.mono ?_; rintro e w6 ⟨rfl, hw6⟩))
      all_goals
       have HW6 : Hid _ := hw6
       clear htk hw6
       go_wp2_with (fail)
       go_roundw
       case rel => exact ⟨q + 1, by omega, by go_num, HW6.out⟩
       case measure => simp [intOf]; omega
  · have hge : ¬ (q : Int) < (n : Int) := by omega
    have HW : Hid (WentR w wr z (r.recv i s.data.toList) r.n) := by
     show WentR _ _ _ _ _
     refine HFin.out _ ?_
     have e1 : A.1.take q = A.1 := List.take_of_length_le (by have := HN.out; omega)
     rw [e1] at hwq
     exact hwq
    clear hwq
    go_wp2_with (fail)
    go_ret
    exact ⟨rfl, HW.out⟩
end Rt
end Go.Proofs.YtieklnlbljejdaaGreatDoor
