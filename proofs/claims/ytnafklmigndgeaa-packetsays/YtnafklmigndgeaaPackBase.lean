/-
  Packets held against each other; a packet's bytes, read, are it.
-/
import Derived.Test.YtnafklmigndgeaaParseWalk
import Derived.ProofKit
import Derived.Lib.SmallJoins
import Derived.Deep.SlicePairs
namespace Go.Proofs.Ytnafklmigndgeaa
open Go.RowKit Plain
open Go.ChangeShapes Go.WideShapes Go.ChangeAt

set_option maxRecDepth 100000 in
set_option maxHeartbeats 2000000 in
theorem sameOptions_true (a b : Option Addr) (ca cb n : Nat) (os : List Opt) (w : World) (ha : OptR w a n os) (hb : OptR w b n os) (hn : n ≤ 1000000) :
    Calls Try.prog 34 #[.slice a n ca, .slice b n cb] w fun e w' => e = .returned (.bool true) ∧ ∃ m, w' = w.drewN m := by
  have heq : ((n : Int) != (n : Int)) = false := by simp
  have hll := ha.1
  go_enter Try.func34, Try.ntmps34
  go_wp2_with (fail)
  go_loopw [5] (fun i wr => ∃ k m : Nat, k ≤ n ∧ i = .int .i64 k ∧ wr = w.drewN m) (fun i _ => n - (intOf i).toNat)
  case atStart => exact ⟨0, 0, Nat.zero_le _, rfl, rfl⟩
  case round =>
    obtain ⟨k, m, hk, rfl, rfl⟩ := hrel
    by_cases hlt : k < n
    · rcases ha.2 with hA | ⟨b1, o1, rfl, hA⟩
      · omega
      rcases hb.2 with hB | ⟨b2, o2, rfl, hB⟩
      · omega
      obtain ⟨c1, c2⟩ := hA k (by omega)
      obtain ⟨c3, c4⟩ := hB k (by omega)
      clear hA hB
      generalize os[k]'(by omega) = o at c1 c2 c3 c4
      have hlt' : (k : Int) < (n : Int) := by omega
      go_wp2_with (fail)
      go_quiet (fail)
      go_wp2_with (fail)
      go_roundw
      case rel => exact ⟨k + 1, _, by omega, by go_num, rfl⟩
      case measure => simp [intOf]; omega
    · go_wp2_with (fail)
      go_ret
      exact ⟨rfl, m, rfl⟩

set_option maxRecDepth 100000 in
set_option maxHeartbeats 2000000 in
theorem samePacket_true (code id : Int) (a b : Option Addr) (ca cb n : Nat) (os : List Opt) (w : World) (ha : OptR w a n os) (hb : OptR w b n os) (hn : n ≤ 1000000) :
    Calls Try.prog 27 #[.agg #[.int .i64 code, .int .i64 id, .slice a n ca], .agg #[.int .i64 code, .int .i64 id, .slice b n cb]] w fun e w' => e = .returned (.bool true) ∧ Below w.heap.size w w' := by
  have hw1 : Below w.heap.size w ((w.alloc (.cells #[.int .i64 code, .int .i64 id, .slice a n ca] 47)).alloc (.cells #[.int .i64 code, .int .i64 id, .slice b n cb] 47)) := ((Below.refl _ _).alloc (Nat.le_refl _) _).alloc (by simp) _
  have hcall := sameOptions_true a b ca cb n os _ (ha.below hw1) (hb.below hw1) hn
  go_enter Try.func27, Try.ntmps27
  go_wp2_with (fail)
  refine hcall.mono ?_
  rintro e w1 ⟨rfl, m, rfl⟩
  have hw2 := below_drewN hw1 m
  clear hcall
  go_wp2_with (fail)
  go_ret
  exact ⟨rfl, hw2⟩

set_option maxRecDepth 100000 in
theorem light_any (code id : Int) (a : Option Addr) (n cap : Nat) (w : World) (hn : n ≤ maxLen) :
    Calls Try.prog 20 #[.agg #[.int .i64 code, .int .i64 id, .slice a n cap]] w fun e w' => e = .returned (.bool (decide (n ≤ 12))) ∧ Below w.heap.size w w' := by
  unfold maxLen at hn
  go_enter Try.func20, Try.ntmps20
  go_wp2_with (fail)
  go_ret
  refine ⟨?_, (Below.refl _ _).alloc (Nat.le_refl _) _⟩
  have : decide (n ≤ 12) = decide ((n : Int) ≤ 12) := by rw [decide_eq_decide]; omega
  rw [this]
  rfl

theorem u8_toNat (x : Int) (h : isB x = true) : ((u8 x).toNat : Int) = x := u8_nat x ((isB_iff x).mp h).1 ((isB_iff x).mp h).2
theorem pairs_optsB : ∀ (os : List Opt), (∀ o ∈ os, isB o.1 = true ∧ isB o.2 = true) → pairs (optsB os) = os
  | [], _ => rfl
  | o :: r, h => by
    have e1 : optsB (o :: r) = u8 o.1 :: u8 o.2 :: optsB r := by simp [optsB]
    obtain ⟨h1, h2⟩ := h o (by simp)
    rw [e1, pairs, u8_toNat o.1 h1, u8_toNat o.2 h2, pairs_optsB r (fun x hx => h x (by simp [hx]))]
/-- A packet's bytes, read, are it. -/
theorem parse_bytes (code id : Int) (os : List Opt) (hf : packF code id os = 0) : parseR (packB code id os) = (code, id, os, 0) := by
  obtain ⟨p1, p2, ⟨p3, p4⟩, p5, p6, p7⟩ := packF_zero hf
  have hall := optF_all os [] p7
  have hl : (packB code id os).length = 3 + 2 * os.length := by
    unfold packB
    simp only [List.length_cons, optsB_length]
    omega
  have g0 : (packB code id os).getD 0 0 = u8 code := rfl
  have g1 : (packB code id os).getD 1 0 = u8 id := rfl
  have g2 : (packB code id os).getD 2 0 = u8 os.length := rfl
  have g3 : (packB code id os).drop 3 = optsB os := rfl
  unfold parseR
  rw [g0, g1, g2, g3, u8_nat (os.length : Int) (by omega) (by omega), u8_nat code (by omega) (by omega), u8_nat id p3 p4, pairs_optsB os hall, hl, if_neg (by omega), if_pos hf]

/-- A packet that came in, as the walks want it. -/
theorem open_packet {H : Type} {enc : TypeId × Value → H} {W : World} {r : Reach} {b0 : Nat} {v : Value} {d : DataW H} {ps : List MemPlace}
    (hv : Value.okWide Try.prog W r b0 47 v) (h : DataW.Trod enc Try.prog W 0 (fun _ => true) true 47 v d ps) :
    ∃ (code id : Int) (a : Option Addr) (n cap : Nat) (os : List Opt), v = .agg #[.int .i64 code, .int .i64 id, .slice a n cap] ∧ OptR W a n os ∧ n ≤ cap ∧ n ≤ maxLen := by
  obtain ⟨v0, v1, v2, y0, y1, y2, m, rfl, _, _, h0, h1, h2⟩ := Go.Joins.open_agg3 Try.underlying47 (by kernel_rfl) (by kernel_rfl) hv h
  obtain ⟨code, e0, _, _⟩ := DataW.trod_int Try.underlying3 h0
  obtain ⟨id, e1, _, _⟩ := DataW.trod_int Try.underlying3 h1
  simp at e0 e1
  subst e0 e1
  rcases Go.Deep.open_slice_pairs Try.underlying45 Try.underlying70 (by kernel_rfl) rfl rfl (by kernel_rfl) (by kernel_rfl) h2 with ⟨hcs, _⟩ | ⟨a, len, cap, m', n', V0, V1, D0, D1, P0, P1, hcs, _, hl, hm, hmm, _, hx⟩
  · simp at hcs
    subst hcs
    exact ⟨code, id, none, 0, 0, [], rfl, ⟨rfl, .inl rfl⟩, Nat.le_refl _, by decide⟩
  · simp at hcs
    subst hcs
    simp at hmm
    have each : ∀ i, i < len → W.cell? (a.add (i * 2)) = some (.int .i64 (intOf (V0 i))) ∧ W.cell? (a.add (i * 2 + 1)) = some (.int .i64 (intOf (V1 i))) := by
      intro i hi
      obtain ⟨q1, q2, q3, q4⟩ := hx i (by omega)
      obtain ⟨k, f0, _, _⟩ := DataW.trod_int Try.underlying3 q3
      obtain ⟨n, f1, _, _⟩ := DataW.trod_int Try.underlying3 q4
      simp at f0 f1
      exact ⟨by rw [q1, f0]; rfl, by rw [q2, f1]; rfl⟩
    refine ⟨code, id, some a, len, cap, (List.range len).map (fun i => (intOf (V0 i), intOf (V1 i))), rfl, ⟨by simp, ?_⟩, hl, by omega⟩
    by_cases h0 : len = 0
    · exact .inl h0
    · obtain ⟨b, off, spot⟩ := a
      have hc := (each 0 (by omega)).1
      have hspot : spot = none := by simpa [Addr.add] using World.cell?_spot hc
      subst hspot
      refine .inr ⟨b, off, rfl, fun j hj => ?_⟩
      have hj' : j < len := by simpa using hj
      have hq := each j hj'
      rw [add_plain', add_plain'] at hq
      simpa [Nat.add_assoc] using hq
end Go.Proofs.Ytnafklmigndgeaa
