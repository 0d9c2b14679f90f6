/-
  'TopPacket' returns true at every packet, and changes nothing that was there.
-/
import Derived.Test.YtnafklmigndgeaaPackBase
namespace Go.Proofs.Ytnafklmigndgeaa
open Go.RowKit Plain
namespace topPacket

theorem bytes_five (w : World) : Calls Try.prog 22 #[.agg #[.int .i64 5, .int .i64 0, .slice none 0 0]] w fun e w' => e = .returned (.tuple #[.string ⟨#[5, 0, 0]⟩, .nilIface]) ∧ Below w.heap.size w w' := by
  have h := bytes_good 5 0 none 0 0 [] w (Nat.le_refl _) ⟨rfl, .inl rfl⟩ (by decide +kernel)
  have e : (packB 5 0 []).toArray = #[5, 0, 0] := by decide +kernel
  rw [e] at h
  exact h

set_option maxRecDepth 100000 in
set_option maxHeartbeats 4000000 in
theorem walk (code id : Int) (a : Option Addr) (n cap : Nat) (os : List Opt) (w : World) (ho : OptR w a n os) (hcap : n ≤ cap) (hn : n ≤ maxLen) :
    Calls Try.prog 8 #[.agg #[.int .i64 code, .int .i64 id, .slice a n cap]] w fun e w' => e = .returned (.bool true) ∧ Below w.heap.size w w' := by
  have hz := zero47
  have hw0 : Below w.heap.size w (w.alloc (.cells #[.int .i64 code, .int .i64 id, .slice a n cap] 47)) := (Below.refl _ _).alloc (Nat.le_refl _) _
  have hcells : ∀ w1 : World, Below (w.alloc (.cells #[.int .i64 code, .int .i64 id, .slice a n cap] 47)).heap.size (w.alloc (.cells #[.int .i64 code, .int .i64 id, .slice a n cap] 47)) w1 →
      w1.cell? ⟨w.heap.size, 0, none⟩ = some (.int .i64 code) ∧ w1.cell? ⟨w.heap.size, 1, none⟩ = some (.int .i64 id) ∧ w1.cell? ⟨w.heap.size, 2, none⟩ = some (.slice a n cap) ∧ w.heap.size < w1.heap.size := by
    intro w1 hb
    have hz : w.heap.size < (w.alloc (.cells #[.int .i64 code, .int .i64 id, .slice a n cap] 47)).heap.size := by simp
    have hA := fun j => World.cell?_alloc_mark w #[.int .i64 code, .int .i64 id, .slice a n cap] 47 (0, 0) j
    exact ⟨(hb.cell (p := ⟨w.heap.size, 0, none⟩) hz).trans (hA 0), (hb.cell (p := ⟨w.heap.size, 1, none⟩) hz).trans (hA 1), (hb.cell (p := ⟨w.heap.size, 2, none⟩) hz).trans (hA 2), Nat.lt_of_lt_of_le hz hb.size⟩
  go_enter Try.func8, Try.ntmps8
  go_wp2_with (fail)
  refine (bytes_five _).mono ?_
  rintro e w1 ⟨rfl, hb1⟩
  obtain ⟨q0, q1, q2, q3⟩ := hcells w1 hb1
  go_wp2_with (fail)
  refine (light_any code id a n cap _ hn).mono ?_
  rintro e w2 ⟨rfl, hb2⟩
  have hb12 := below_chain hb1 hb2
  obtain ⟨r0, r1, r2, r3⟩ := hcells w2 hb12
  have hw2 := below_chain hw0 hb12
  clear q0 q1 q2 q3 hb1 hb2
  by_cases h12 : n ≤ 12
  · have hd : decide (n ≤ 12) = true := by simp [h12]
    by_cases hf : packF code id os = 0
    · have hcall := bytes_good code id a n cap os w2 hcap (ho.below hw2) hf
      have hpr := parse_bytes code id os hf
      have hlen := (packF_zero hf).2.2.2.1
      obtain ⟨S, hS⟩ : ∃ S : ByteArray, S = ⟨(packB code id os).toArray⟩ := ⟨_, rfl⟩
      have hSl : S.data.toList = packB code id os := by rw [hS]
      rw [← hS] at hcall
      have hSz : S.size ≤ 1000 := by
        have h1 : S.size = S.data.toList.length := by simp
        rw [h1, hSl]
        unfold packB
        simp only [List.length_cons, optsB_length]
        omega
      have hparse := fun W => parse_any S W hSz
      rw [hSl] at hparse
      clear hS hSl
      go_wp2_with (fail)
      refine hcall.mono ?_
      rintro e w3 ⟨rfl, hb3⟩
      have hb13 := below_chain hb12 hb3
      have hw3 := below_chain hw0 hb13
      clear hcall
      go_wp2_with (fail)
      refine (hparse _).mono ?_
      rintro e w4 ⟨pa, pn, pc, pf, pcode, pid, pos, rfl, hpo, hpc, hpe, hb4⟩
      rw [hpr] at hpe
      simp only [Prod.mk.injEq] at hpe
      obtain ⟨rfl, rfl, rfl, rfl⟩ := hpe
      have hnn : pn = n := by rw [← hpo.1, ho.1]
      subst hnn
      have hb14 := below_chain hb13 hb4
      obtain ⟨s0, s1, s2, s3⟩ := hcells w4 hb14
      have hw4 := below_chain hw0 hb14
      have e0 : errV 0 = .nilIface := rfl
      rw [e0]
      clear e0
      go_wp2_with (fail)
      have hb5 : Below w4.heap.size w4 (w4.alloc (.cells #[.int .i64 code, .int .i64 id, .slice pa pn pc] 47)) := (Below.refl _ _).alloc (Nat.le_refl _) _
      have hw5 := below_chain hw4 hb5
      refine (samePacket_true code id pa a pc cap pn os _ (hpo.below hb5) (ho.below hw5) (by omega)).mono ?_
      rintro e w6 ⟨rfl, hb6⟩
      have hw6 := below_chain hw5 hb6
      go_wp2_with (fail)
      go_ret
      exact ⟨rfl, hw6⟩
    · have hcall := bytes_bad code id a n cap os w2 (by omega) hcap (ho.below hw2) hf
      have e0 : errV (packF code id os) = .iface 64 (.int .i64 (packF code id os : Int)) := by simp [errV, hf]
      rw [e0] at hcall
      go_wp2_with (fail)
      refine hcall.mono ?_
      rintro e w3 ⟨rfl, hb3⟩
      have hw3 := below_chain hw2 hb3
      clear hcall
      go_wp2_with (fail)
      go_ret
      exact ⟨rfl, hw3⟩
  · have hd : decide (n ≤ 12) = false := by simp [h12]
    go_wp2_with (fail)
    go_ret
    exact ⟨rfl, hw2⟩
end topPacket
end Go.Proofs.Ytnafklmigndgeaa
