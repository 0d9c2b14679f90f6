/-
  What stands ahead of the laws over bases: lightList, based.
-/
import Derived.Test.YtielnomhdahciaaFloodRead
namespace Go.Proofs.Ytielnomhdahciaa
open Go.RowKit St

set_option maxRecDepth 100000 in
set_option maxHeartbeats 4000000 in
theorem lightList_any (a : Option Addr) (n cap : Nat) (S : Nat → SV) (E : Nat → List Opt) (most : Int) (w : World) (h : StsR w a n S E) (hm : most ≤ 1000) :
    Calls Try.prog 32 #[.slice a n cap, .int .i64 most] w fun e w' => (∃ b : Bool, e = .returned (.bool b) ∧ (b = true → (n : Int) ≤ most ∧ ∀ j, j < n → stF (S j).own (S j).seq (E j) = 0)) ∧ Below w.heap.size w w' := by
  by_cases h0 : most < (n : Int)
  · go_enter Try.func32, Try.ntmps32
    go_wp2_with (fail)
    go_ret
    exact ⟨⟨false, rfl, fun h => by cases h⟩, Below.refl _ _⟩
  go_enter Try.func32, Try.ntmps32
  go_wp2_with (fail)
  go_loopw [5] (fun i wr => ∃ k : Nat, k ≤ n ∧ i = .int .i64 k ∧ (∀ j, j < k → stF (S j).own (S j).seq (E j) = 0) ∧ Below w.heap.size w wr) (fun i _ => n - (intOf i).toNat)
  case atStart => exact ⟨0, Nat.zero_le _, rfl, fun j hj => by omega, Below.refl _ _⟩
  case round =>
    obtain ⟨k, hk, rfl, hA, hbel⟩ := hrel
    have HA : Hid _ := hA
    clear hA
    by_cases hlt : k < n
    · have hlt' : (k : Int) < (n : Int) := by omega
      have hw := h.below hbel
      obtain ⟨ho, hz, hx⟩ := hw.opt k hlt
      rcases hw.row with h1 | ⟨b, off, rfl, hc⟩
      · omega
      obtain ⟨c0, c1, c2⟩ := hc k hlt
      clear hc hw
      have HS : Hid (S k = S k) := rfl
      have HE : Hid (E k = E k) := rfl
      obtain ⟨s, hs⟩ : ∃ s, S k = s := ⟨_, rfl⟩
      obtain ⟨es, he⟩ : ∃ es, E k = es := ⟨_, rfl⟩
      rw [hs] at c0 c1 c2 ho hz hx
      rw [he] at ho
      have HSS : Hid (S k = s ∧ E k = es) := ⟨hs, he⟩
      clear hs he HS HE
      obtain ⟨so, sq, sa, sn, sc⟩ := s
      simp only at c0 c1 c2 ho hz hx
      have hl := light_any so sq sa sn sc wr hx
      have hck := fun (W : World) (hb : Below wr.heap.size wr W) => check_all so sq sa sn sc es W hx (ho.below hb)
      have lb : b < wr.heap.size := World.block_lt_of_cell? wr _ c0
      by_cases h9 : sn ≤ 9
      · have e9 : decide (sn ≤ 9) = true := by simpa using h9
        rw [e9] at hl
        clear e9 h9
        by_cases hz0 : stF so sq es = 0
        · have HZ : Hid (errV (stF so sq es) = .nilIface) := by show _ = _; rw [hz0]; rfl
          go_wp2_with (fail)
          refine hl.mono ?_
          rintro e w1 ⟨rfl, k1⟩
          have d0 : w1.cell? ⟨b, off + k * 3, none⟩ = some (.int .i64 so) := (k1.cell (p := ⟨b, off + k * 3, none⟩) lb).trans c0
          have d1 : w1.cell? ⟨b, off + k * 3 + 1, none⟩ = some (.int .i64 sq) := (k1.cell (p := ⟨b, off + k * 3 + 1, none⟩) lb).trans c1
          have d2 : w1.cell? ⟨b, off + k * 3 + 2, none⟩ = some (.slice sa sn sc) := (k1.cell (p := ⟨b, off + k * 3 + 2, none⟩) lb).trans c2
          have hb1 := below_chain hbel k1
          have hck1 := hck w1 k1
          rw [HZ.out] at hck1
          clear hl hck
          go_wp2_with (fail)
          refine hck1.mono ?_
          rintro e w2 ⟨rfl, k2⟩
          have hb2 := below_chain hb1 k2
          clear hck1
          go_wp2_with (fail)
          go_roundw
          case rel =>
            refine ⟨k + 1, by omega, by go_num, fun j hj => ?_, hb2⟩
            by_cases hjk : j = k
            · subst hjk
              rw [HSS.out.1, HSS.out.2]
              exact hz0
            · exact HA.out j (by omega)
          case measure => simp [intOf]; omega
        · have HZ : Hid (∃ z : Int, errV (stF so sq es) = .iface 81 (.int .i64 z)) := by
            show ∃ z : Int, _
            generalize stF so sq es = r at hz0
            cases r with
            | zero => exact absurd rfl hz0
            | succ r => exact ⟨_, rfl⟩
          clear hz0
          go_wp2_with (fail)
          refine hl.mono ?_
          rintro e w1 ⟨rfl, k1⟩
          have d0 : w1.cell? ⟨b, off + k * 3, none⟩ = some (.int .i64 so) := (k1.cell (p := ⟨b, off + k * 3, none⟩) lb).trans c0
          have d1 : w1.cell? ⟨b, off + k * 3 + 1, none⟩ = some (.int .i64 sq) := (k1.cell (p := ⟨b, off + k * 3 + 1, none⟩) lb).trans c1
          have d2 : w1.cell? ⟨b, off + k * 3 + 2, none⟩ = some (.slice sa sn sc) := (k1.cell (p := ⟨b, off + k * 3 + 2, none⟩) lb).trans c2
          have hb1 := below_chain hbel k1
          have hck1 := hck w1 k1
          obtain ⟨z, hz1⟩ := HZ.out
          rw [hz1] at hck1
          clear hl hck hz1 HZ
          go_wp2_with (fail)
          refine hck1.mono ?_
          rintro e w2 ⟨rfl, k2⟩
          have hb2 := below_chain hb1 k2
          clear hck1
          go_wp2_with (fail)
          go_ret
          exact ⟨⟨false, rfl, fun h => by cases h⟩, hb2⟩
      · have e9 : decide (sn ≤ 9) = false := by simpa using h9
        rw [e9] at hl
        clear e9 h9
        go_wp2_with (fail)
        refine hl.mono ?_
        rintro e w1 ⟨rfl, k1⟩
        have hb1 := below_chain hbel k1
        clear hl hck
        go_wp2_with (fail)
        go_ret
        exact ⟨⟨false, rfl, fun h => by cases h⟩, hb1⟩
    · have hge : ¬ (k : Int) < (n : Int) := by omega
      go_wp2_with (fail)
      go_ret
      exact ⟨.inr ⟨rfl, fun j hj => HA.out j (by omega)⟩, hbel⟩

theorem hS3 (seq : Int) (es : List Opt) : ∀ q : PS, newS seq es q.1 q.2 = -1 ∨ newS seq es q.1 q.2 = 0 ∨ newS seq es q.1 q.2 = 1 := fun _ => newS_three _ _ _ _
theorem one_listed {F : Int → Option PS} {n : Nat} {S : Nat → SV} {E : Nat → List Opt} (h : Lists F n S E) (k : Int) (hk : inR k) (h1 : (F k).isSome = true) (h2 : ∀ x, x ≠ k → F x = none) : n = 1 := by
  obtain ⟨j, hj, ho⟩ := h.all k hk h1
  by_cases h2n : 2 ≤ n
  · have e0 : (S 0).own = k := by
      by_cases e : (S 0).own = k
      · exact e
      · have := (h.at_ 0 (by omega)).2
        rw [h2 _ e] at this
        cases this
    have e1 : (S 1).own = k := by
      by_cases e : (S 1).own = k
      · exact e
      · have := (h.at_ 1 (by omega)).2
        rw [h2 _ e] at this
        cases this
    have := h.ris 0 1 (by omega) (by omega)
    omega
  · omega
set_option maxRecDepth 100000 in
set_option maxHeartbeats 4000000 in
theorem based_any (w : World) : Calls Try.prog 31 #[] w fun e w' => e = .returned (.bool true) ∧ Below w.heap.size w w' := by
  have hn := new_base 1 w ⟨by decide, by decide⟩
  go_enter Try.func31, Try.ntmps31
  go_wp2_with (fail)
  refine hn.mono ?_
  rintro e w1 ⟨rfl, m, hm, hB, hbel, g1, g2, g3⟩
  have hs := set_base _ m 0 _ _ 1 1 none 0 0 [] w1 hB (by unfold inR; omega) ⟨rfl, .inl rfl⟩ (fun _ => rfl) (by omega) (by decide)
  have HB : Hid _ := hbel
  clear hn hB hbel
  go_wp2_with (fail)
  refine hs.mono ?_
  rintro e w2 ⟨rfl, hB2, M2⟩
  have b2 := KeptM.below HB.out M2 g1 g3
  clear hs M2 HB
  have ho := owed_base _ m _ _ _ 0 w2 hB2 (by omega)
  have HB2 : Hid _ := b2
  clear b2
  go_wp2_with (fail)
  refine ho.mono ?_
  rintro e w3 ⟨a, n, cap, S, E, rfl, r1, r2, r3, r4, b3⟩
  have hst := states_base _ m _ _ _ w3 (hB2.below b3)
  have hb3 := below_chain HB2.out b3
  have n1 : n = 1 := one_listed r2 1 (by unfold inR; omega) (by simp [updF]) (fun x hx => by simp [updF, hx])
  subst n1
  clear ho r1 r2 r3 r4 b3 HB2
  have HB3 : Hid _ := hb3
  clear hb3 hB2
  go_wp2_with (fail)
  refine hst.mono ?_
  rintro e w4 ⟨a4, n4, cap4, S4, E4, rfl, r1, r2, r3, r4, b4⟩
  have n1 : n4 = 1 := one_listed r2 1 (by unfold inR; omega) (by simp [updF]) (fun x hx => by simp [updF, hx])
  subst n1
  have HB4 : Hid _ := below_chain HB3.out b4
  clear hst r1 r2 r3 r4 b4
  go_wp2_with (fail)
  go_ret
  exact ⟨rfl, HB4.out⟩
end Go.Proofs.Ytielnomhdahciaa
