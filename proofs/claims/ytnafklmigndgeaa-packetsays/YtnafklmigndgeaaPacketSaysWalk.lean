/-
  'PacketSays' returns true at every packet and every text, and changes nothing that was there.
-/
import Derived.Test.YtnafklmigndgeaaRBytesWalk
import Derived.Test.YtnafklmigndgeaaOfWalk
import Derived.Test.YtnafklmigndgeaaSaysBase
namespace Go.Proofs.Ytnafklmigndgeaa
open Go.RowKit Plain
namespace packetSays

theorem opt_one (w : World) : OptR (w.alloc (.cells #[.int .i64 1, .int .i64 90] 70)) (some ⟨w.heap.size, 0, none⟩) 1 [(1, 90)] := by
  refine ⟨rfl, .inr ⟨w.heap.size, 0, rfl, fun j hj => ?_⟩⟩
  have hj0 : j = 0 := by simpa using hj
  subst hj0
  exact ⟨World.cell?_alloc_mark w #[.int .i64 1, .int .i64 90] 70 (0, 0) 0, World.cell?_alloc_mark w #[.int .i64 1, .int .i64 90] 70 (0, 0) 1⟩

set_option maxRecDepth 100000 in
set_option maxHeartbeats 2000000 in
theorem packets_true (w : World) : Calls Try.prog 19 #[] w fun e w' => e = .returned (.bool true) ∧ Below w.heap.size w w' := by
  have h := bytes_good 1 7 (some ⟨w.heap.size, 0, none⟩) 1 1 [(1, 90)] (w.alloc (.cells #[.int .i64 1, .int .i64 90] 70)) (Nat.le_refl _) (opt_one w) (by decide +kernel)
  have e : (packB 1 7 [(1, 90)]).toArray = #[1, 7, 1, 1, 90] := by decide +kernel
  rw [e] at h
  have hz := zero47
  have hw0 : Below w.heap.size w (w.alloc (.cells #[.int .i64 1, .int .i64 90] 70)) := (Below.refl _ _).alloc (Nat.le_refl _) _
  go_enter Try.func19, Try.ntmps19
  go_wp2_with (fail)
  refine h.mono ?_
  rintro e w1 ⟨rfl, hb1⟩
  have hw1 := below_chain hw0 hb1
  clear h
  go_wp2_with (fail)
  refine (same_ok 0 _).mono ?_
  rintro e w2 ⟨rfl, rfl⟩
  go_wp2_with (fail)
  go_ret
  exact ⟨rfl, hw1⟩

/-- What Parse and PacketOf make of one text is the same. -/
theorem tail_calls (s : ByteArray) (hs : s.size ≤ 100) : ∃ (code id : Int) (os : List Opt) (f : Nat),
    (∀ W, Calls Try.prog 25 #[.string s] W fun e w' => ∃ (a : Option Addr) (n cap : Nat), e = .returned (.tuple #[.agg #[.int .i64 code, .int .i64 id, .slice a n cap], errV f]) ∧ OptR w' a n os ∧ Below W.heap.size W w') ∧
    (∀ W, Calls Try.prog 26 #[.string s] W fun e w' => ∃ (a : Option Addr) (n cap : Nat), e = .returned (.tuple #[.agg #[.int .i64 code, .int .i64 id, .slice a n cap], .int .i64 (f : Int)]) ∧ OptR w' a n os ∧ Below W.heap.size W w') ∧ os.length ≤ 1000 := by
  obtain ⟨code, id, os, f, hp⟩ : ∃ code id os f, parseR s.data.toList = (code, id, os, f) := ⟨_, _, _, _, rfl⟩
  refine ⟨code, id, os, f, fun W => (parse_any s W (by omega)).mono ?_, fun W => (of_any s W (by omega)).mono ?_, ?_⟩
  · rintro e w' ⟨a, n, cap, f', c', i', o', rfl, h1, _, h2, h3⟩
    rw [hp] at h2
    simp only [Prod.mk.injEq] at h2
    obtain ⟨rfl, rfl, rfl, rfl⟩ := h2
    exact ⟨a, n, cap, rfl, h1, h3⟩
  · rintro e w' ⟨a, n, cap, f', c', i', o', rfl, h1, _, h2, h3⟩
    rw [hp] at h2
    simp only [Prod.mk.injEq] at h2
    obtain ⟨rfl, rfl, rfl, rfl⟩ := h2
    exact ⟨a, n, cap, rfl, h1, h3⟩
  · unfold parseR at hp
    split at hp
    · simp only [Prod.mk.injEq] at hp
      obtain ⟨_, _, rfl, _⟩ := hp
      simp
    · split at hp
      · rename_i hz
        simp only [Prod.mk.injEq] at hp
        obtain ⟨_, _, rfl, _⟩ := hp
        have := (packF_zero hz).2.2.2.1
        omega
      · simp only [Prod.mk.injEq] at hp
        obtain ⟨_, _, rfl, _⟩ := hp
        simp

set_option maxRecDepth 100000 in
set_option maxHeartbeats 8000000 in
theorem walk (code id : Int) (a : Option Addr) (n cap : Nat) (os : List Opt) (s : ByteArray) (w : World) (ho : OptR w a n os) (hcap : n ≤ cap) (hn : n ≤ maxLen) (hs : s.size ≤ maxLen) :
    Calls Try.prog 4 #[.agg #[.int .i64 code, .int .i64 id, .slice a n cap], .string s] w fun e w' => e = .returned (.bool true) ∧ Below w.heap.size w w' := by
  have hz := zero47
  have hss : s.size ≤ 9223372036854775807 := by unfold maxLen at hs; omega
  have hw0 : Below w.heap.size w (w.alloc (.cells #[.int .i64 code, .int .i64 id, .slice a n cap] 47)) := (Below.refl _ _).alloc (Nat.le_refl _) _
  go_enter Try.func4, Try.ntmps4
  go_wp2_with (fail)
  refine (packets_true _).mono ?_
  rintro e w1 ⟨rfl, hb1⟩
  obtain ⟨q0, q1, q2, q3⟩ := box_cells hb1
  go_wp2_with (fail)
  refine (light_any code id a n cap _ hn).mono ?_
  rintro e w2 ⟨rfl, hb2⟩
  have hb12 := below_chain hb1 hb2
  obtain ⟨r0, r1, r2, r3⟩ := box_cells hb12
  have hw2 := below_chain hw0 hb12
  clear q0 q1 q2 q3 hb1 hb2
  by_cases h12 : n ≤ 12
  · have hd : decide (n ≤ 12) = true := by simp [h12]
    by_cases h100 : (100 : Int) < (s.size : Int)
    · go_wp2_with (fail)
      go_ret
      exact ⟨rfl, hw2⟩
    · obtain ⟨pc, pi, po, pf, t1, t2, t3⟩ := tail_calls s (by omega)
      go_wp2_with (fail)
      refine (fault_any code id a n cap os _ hn (ho.below hw2)).mono ?_
      rintro e w3 ⟨rfl, hb3⟩
      have hb13 := below_chain hb12 hb3
      obtain ⟨s0, s1, s2, s3⟩ := box_cells hb13
      have hw3 := below_chain hw0 hb13
      clear r0 r1 r2 r3 hb3 hb12
      have hck := fun W h => check_any code id a n cap os W (by omega) hcap h
      have hsm := same_ok (packF code id os)
      by_cases hf : packF code id os = 0
      · have hby := bytes_good code id a n cap os w3 hcap (ho.below hw3) hf
        have hrb := fun W h => rbytes_good code id a n cap os W h hf
        obtain ⟨S, hS⟩ : ∃ S : ByteArray, S = ⟨(packB code id os).toArray⟩ := ⟨_, rfl⟩
        rw [← hS] at hby hrb
        have e0 : errV 0 = .nilIface := rfl
        rw [hf] at hck hsm
        rw [e0] at hck hsm
        rw [hf]
        clear hS e0
        go_wp2_with (fail)
        refine hby.mono ?_
        rintro e w4 ⟨rfl, hb4⟩
        have hb14 := below_chain hb13 hb4
        obtain ⟨u0, u1, u2, u3⟩ := box_cells hb14
        have hw4 := below_chain hw0 hb14
        clear hby s0 s1 s2 s3 hb4
        go_wp2_with (fail)
        refine (hck _ (ho.below hw4)).mono ?_
        rintro e w5 ⟨rfl, hb5⟩
        have hb15 := below_chain hb14 hb5
        obtain ⟨v0, v1, v2, v3⟩ := box_cells hb15
        have hw5 := below_chain hw0 hb15
        clear hck u0 u1 u2 u3 hb5
        go_wp2_with (fail)
        refine (hsm _).mono ?_
        rintro e w6 ⟨rfl, rfl⟩
        go_wp2_with (fail)
        refine (hsm _).mono ?_
        rintro e w6 ⟨rfl, rfl⟩
        go_wp2_with (fail)
        refine (hrb _ (ho.below hw5)).mono ?_
        rintro e w6 ⟨rfl, hb6⟩
        have hw6 := below_chain hw5 hb6
        clear hrb hsm v0 v1 v2 v3
        go_wp2_with (fail)
        refine (t1 _).mono ?_
        rintro e w7 ⟨a7, n7, c7, rfl, ho7, hb7⟩
        have hw7 := below_chain hw6 hb7
        have hx7 : Below w7.heap.size w7 (w7.alloc (.cells #[.int .i64 pc, .int .i64 pi, .slice a7 n7 c7] 47)) := (Below.refl _ _).alloc (Nat.le_refl _) _
        have hwx := below_chain hw7 hx7
        clear t1 hb7
        go_wp2_with (fail)
        refine (t2 _).mono ?_
        rintro e w8 ⟨a8, n8, c8, rfl, ho8, hb8⟩
        obtain ⟨x0, x1, x2, x3⟩ := box_cells hb8
        have hw8 := below_chain hwx hb8
        have ho7' := (ho7.below hx7).below hb8
        have hnn : n7 = n8 := by rw [← ho7.1, ho8.1]
        subst hnn
        have hn7 : n7 ≤ 1000000 := by rw [← ho8.1]; omega
        have hx8 : Below w8.heap.size w8 (w8.alloc (.cells #[.int .i64 pc, .int .i64 pi, .slice a8 n7 c8] 47)) := (Below.refl _ _).alloc (Nat.le_refl _) _
        have hwy := below_chain hw8 hx8
        clear t2 hb8 hx7 hwx hw7
        go_wp2_with (fail)
        refine (same_ok pf _).mono ?_
        rintro e w9 ⟨rfl, rfl⟩
        go_wp2_with (fail)
        refine (samePacket_true pc pi a7 a8 c7 c8 n7 po _ (ho7'.below hx8) (ho8.below hx8) hn7).mono ?_
        rintro e w9 ⟨rfl, hb9⟩
        have hw9 := below_chain hwy hb9
        go_wp2_with (fail)
        go_ret
        exact ⟨rfl, hw9⟩
      · have hby := bytes_bad code id a n cap os w3 (by omega) hcap (ho.below hw3) hf
        obtain ⟨ff, hff⟩ : ∃ ff, packF code id os = ff := ⟨_, rfl⟩
        rw [hff] at hf
        rw [hff] at hby hck hsm ⊢
        have e0 : errV ff = .iface 64 (.int .i64 (ff : Int)) := by simp [errV, hf]
        rw [e0] at hby hck hsm
        have hp : (0 : Int) < (ff : Int) := by omega
        have hp2 : ((ff : Int) == 0) = false := by rw [beq_eq_false_iff_ne]; omega
        clear hff e0 hf
        go_wp2_with (fail)
        refine hby.mono ?_
        rintro e w4 ⟨rfl, hb4⟩
        have hb14 := below_chain hb13 hb4
        obtain ⟨u0, u1, u2, u3⟩ := box_cells hb14
        have hw4 := below_chain hw0 hb14
        clear hby s0 s1 s2 s3 hb4
        go_wp2_with (fail)
        refine (hck _ (ho.below hw4)).mono ?_
        rintro e w5 ⟨rfl, hb5⟩
        have hb15 := below_chain hb14 hb5
        obtain ⟨v0, v1, v2, v3⟩ := box_cells hb15
        have hw6 := below_chain hw0 hb15
        clear hck u0 u1 u2 u3 hb5
        go_wp2_with (fail)
        refine (hsm _).mono ?_
        rintro e w6 ⟨rfl, rfl⟩
        go_wp2_with (fail)
        refine (hsm _).mono ?_
        rintro e w6 ⟨rfl, rfl⟩
        clear hsm v0 v1 v2 v3
        go_wp2_with (fail)
        refine (t1 _).mono ?_
        rintro e w7 ⟨a7, n7, c7, rfl, ho7, hb7⟩
        have hw7 := below_chain hw6 hb7
        have hx7 : Below w7.heap.size w7 (w7.alloc (.cells #[.int .i64 pc, .int .i64 pi, .slice a7 n7 c7] 47)) := (Below.refl _ _).alloc (Nat.le_refl _) _
        have hwx := below_chain hw7 hx7
        clear t1 hb7
        go_wp2_with (fail)
        refine (t2 _).mono ?_
        rintro e w8 ⟨a8, n8, c8, rfl, ho8, hb8⟩
        obtain ⟨x0, x1, x2, x3⟩ := box_cells hb8
        have hw8 := below_chain hwx hb8
        have ho7' := (ho7.below hx7).below hb8
        have hnn : n7 = n8 := by rw [← ho7.1, ho8.1]
        subst hnn
        have hn7 : n7 ≤ 1000000 := by rw [← ho8.1]; omega
        have hx8 : Below w8.heap.size w8 (w8.alloc (.cells #[.int .i64 pc, .int .i64 pi, .slice a8 n7 c8] 47)) := (Below.refl _ _).alloc (Nat.le_refl _) _
        have hwy := below_chain hw8 hx8
        clear t2 hb8 hx7 hwx hw7
        go_wp2_with (fail)
        refine (same_ok pf _).mono ?_
        rintro e w9 ⟨rfl, rfl⟩
        go_wp2_with (fail)
        refine (samePacket_true pc pi a7 a8 c7 c8 n7 po _ (ho7'.below hx8) (ho8.below hx8) hn7).mono ?_
        rintro e w9 ⟨rfl, hb9⟩
        have hw9 := below_chain hwy hb9
        go_wp2_with (fail)
        go_ret
        exact ⟨rfl, hw9⟩
  · have hd : decide (n ≤ 12) = false := by simp [h12]
    go_wp2_with (fail)
    go_ret
    exact ⟨rfl, hw2⟩
end packetSays
end Go.Proofs.Ytnafklmigndgeaa
