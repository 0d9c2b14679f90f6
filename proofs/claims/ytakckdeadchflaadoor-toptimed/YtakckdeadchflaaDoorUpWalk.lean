/-
  'TopUp' returns true at every list of events, and changes nothing that was there.
-/
import Derived.Test.YtakckdeadchflaaDoorAutoWalk
namespace Go.Proofs.YtakckdeadchflaaDoor
open Go.RowKit

/-- The slice reads as the numbers xs (a cell each). -/
def IntsR (w : World) (a : Option Addr) (n : Nat) (xs : List Int) : Prop :=
  xs.length = n ∧ (n = 0 ∨ ∃ b off, a = some ⟨b, off, none⟩ ∧ ∀ j (h : j < xs.length), w.cell? ⟨b, off + j, none⟩ = some (.int .i64 xs[j]))
theorem IntsR.below {w w' : World} {a : Option Addr} {n : Nat} {xs : List Int} (h : IntsR w a n xs) (hb : Below w.heap.size w w') : IntsR w' a n xs := by
  refine ⟨h.1, ?_⟩
  rcases h.2 with h2 | ⟨b, off, rfl, h2⟩
  · exact .inl h2
  · exact .inr ⟨b, off, rfl, fun j hj => (hb.cell (World.block_lt_of_cell? w _ (h2 j hj))).trans (h2 j hj)⟩
theorem IntsR.drewN {w : World} {a : Option Addr} {n : Nat} {xs : List Int} (h : IntsR w a n xs) (m : Nat) : IntsR (w.drewN m) a n xs := h

/-- Numbers that came in, as the walks want them. -/
theorem open_nums {H : Type} {enc : TypeId × Value → H} {W : World} {a : Option Addr} {n cap : Nat} {d : DataW H} {ps : List MemPlace}
    (h : DataW.Trod enc Tryd.prog W 0 (fun _ => true) true 22 (.slice a n cap) d ps) :
    ∃ xs : List Int, IntsR W a n xs ∧ n ≤ maxLen := by
  obtain ⟨fuel, hf⟩ := h
  rcases Go.ChangeShapes.open_ints Tryd.underlying22 Tryd.underlying3 (by kernel_rfl) hf with ⟨hcs, _⟩ | ⟨x, l, c, zs, hcs, _, hl, hm, hz, _, hcell, _⟩
  · simp [Value.cells] at hcs
    obtain ⟨rfl, rfl, rfl⟩ := hcs
    exact ⟨[], ⟨rfl, .inl rfl⟩, by decide⟩
  · simp [Value.cells] at hcs
    obtain ⟨rfl, rfl, rfl⟩ := hcs
    simp at hz
    refine ⟨zs.take n, ⟨by simp; omega, ?_⟩, by omega⟩
    by_cases h0 : n = 0
    · exact .inl h0
    · obtain ⟨b, off, spot⟩ := x
      have hc := hcell 0 (by omega)
      have hspot : spot = none := by simpa [Addr.add] using World.cell?_spot hc
      subst hspot
      refine .inr ⟨b, off, rfl, fun j hj => ?_⟩
      have hj' : j < n := by simp at hj; omega
      have h2 := hcell j (by omega)
      rw [add_plain'] at h2
      rw [h2]
      simp [List.getD_eq_getElem?_getD, List.getElem?_eq_getElem (show j < zs.length by omega)]

namespace topUp
/-- What an event's letters do to 'up': none where a letter comes that may not. -/
def upL : List UInt8 → Bool → Option Bool
  | [], up => some up
  | c :: r, up => if c = 117 then (if up then none else upL r true) else if c = 100 then (if up then upL r false else none) else upL r up
theorem upL_ok : ∀ e, e < 12 → ∀ s, s < 10 → (stepR s e).2.2 = 0 → upL (stepR s e).1 ((s : Int) == 9) = some ((stepR s e).2.1 == 9) ∧ (stepR s e).1.length ≤ 4 ∧ 0 ≤ (stepR s e).2.1 ∧ (stepR s e).2.1 < 10 := by decide +kernel

set_option maxRecDepth 100000 in
set_option maxHeartbeats 4000000 in
theorem walk (a : Option Addr) (n cap : Nat) (xs : List Int) (w : World) (h : TabOk w) (hx : IntsR w a n xs) (hn : n ≤ maxLen) :
    Calls Tryd.prog 6 #[.slice a n cap] w fun x w' => x = .returned (.bool true) ∧ Below w.heap.size w w' := by
  have hfirst := step_as 7 6 [97, 117] 9 0 (by decide +kernel) w h
  have e0 : errV 0 = .nilIface := rfl
  rw [e0] at hfirst
  unfold maxLen at hn
  by_cases hbig : (100 : Int) < (n : Int)
  · go_enter Tryd.func6, Tryd.ntmps6
    go_wp2_with (fail)
    refine hfirst.mono ?_
    rintro x w1 ⟨rfl, m1, rfl⟩
    clear hfirst
    go_wp2_with (fail)
    go_ret
    exact ⟨rfl, below_drewN (Below.refl _ _) _⟩
  · go_enter Tryd.func6, Tryd.ntmps6
    go_wp2_with (fail)
    refine hfirst.mono ?_
    rintro x w1 ⟨rfl, m1, rfl⟩
    clear hfirst
    go_wp2_with (fail)
    go_loopw [6, 7, 8] (fun at' up i wr => ∃ k s m : Nat, k ≤ n ∧ s < 10 ∧ at' = .int .i64 s ∧ up = .bool ((s : Int) == 9) ∧ i = .int .i64 k ∧ wr = w.drewN m) (fun _ _ i _ => n - (intOf i).toNat)
    case atStart => exact ⟨0, 0, m1, Nat.zero_le _, by decide, rfl, rfl, rfl, rfl⟩
    case round =>
      obtain ⟨k, s, m, hk, hs, rfl, rfl, rfl, rfl⟩ := hrel
      by_cases hlt : k < n
      · rcases hx.2 with h0 | ⟨b, off, rfl, hc⟩
        · omega
        have c1 := hc k (by rw [hx.1]; exact hlt)
        generalize xs[k]'(by rw [hx.1]; exact hlt) = ev at c1
        clear hc
        have hlt' : (k : Int) < (n : Int) := by omega
        obtain ⟨D, nx, f, hR⟩ : ∃ D nx f, stepI s ev = (D, nx, f) := ⟨_, _, _, rfl⟩
        have hst := step_as s ev D nx f hR (w.drewN m) (h.drewN m)
        have hcase : (f ≠ 0) ∨ (f = 0 ∧ upL D ((s : Int) == 9) = some (nx == 9) ∧ D.length ≤ 4 ∧ 0 ≤ nx ∧ nx < 10) := by
          by_cases ho : (s : Int) < 0 ∨ 10 ≤ (s : Int) ∨ ev < 0 ∨ 12 ≤ ev
          · left
            unfold stepI at hR
            rw [if_pos ho] at hR
            simp only [Prod.mk.injEq] at hR
            omega
          · obtain ⟨e', rfl⟩ : ∃ e' : Nat, ev = e' := ⟨ev.toNat, by omega⟩
            rw [stepI_in s e' hs (by omega)] at hR
            have := upL_ok e' (by omega) s hs
            rw [hR] at this
            by_cases hf : f = 0
            · exact .inr ⟨hf, this hf⟩
            · exact .inl hf
        rcases hcase with hf | ⟨hf, hup, hD, hn0, hn9⟩
        · have e1 : errV f = .iface 23 (.int .i64 (f : Int)) := by simp [errV, hf]
          rw [e1] at hst
          clear hR e1 e0
          go_wp2_with (fail)
          refine hst.mono ?_
          rintro x w1 ⟨rfl, m2, rfl⟩
          clear hst
          go_wp2_with (fail)
          go_roundw
          case rel => exact ⟨k + 1, s, _, by omega, hs, rfl, rfl, by go_num, rfl⟩
          case measure => simp [intOf]; omega
        · subst hf
          rw [e0] at hst
          obtain ⟨s', rfl⟩ : ∃ s' : Nat, nx = s' := ⟨nx.toNat, by omega⟩
          obtain ⟨S, rfl⟩ : ∃ S : ByteArray, D = S.data.toList := ⟨⟨D.toArray⟩, rfl⟩
          have eS : (⟨S.data.toList.toArray⟩ : ByteArray) = S := by simp
          rw [eS] at hst
          have hSz : S.size ≤ 4 := by simpa using hD
          have HU : Hid _ := hup
          clear hR e0 hup eS hD
          go_wp2_with (fail)
          refine hst.mono ?_
          rintro x w1 ⟨rfl, m2, rfl⟩
          clear hst
          go_wp2_with (fail)
          obtain ⟨W0, hW0⟩ : ∃ W0, W0 = w.drewN (m + m2) := ⟨_, rfl⟩
          rw [← hW0]
          have HW : Hid _ := hW0
          clear hW0
          go_loopw [7, 12] (fun up i wr => ∃ (j : Nat) (u : Bool), j ≤ S.size ∧ up = .bool u ∧ i = .int .i64 j ∧ upL (S.data.toList.drop j) u = some ((s' : Int) == 9) ∧ wr = W0) (fun _ i _ => S.size - (intOf i).toNat)
          case atStart => exact ⟨0, _, Nat.zero_le _, rfl, rfl, HU.out, rfl⟩
          case round =>
            obtain ⟨j, u, hj, rfl, rfl, hu0, rfl⟩ := hrel
            have hu : Hid _ := hu0
            clear hu0
            by_cases hjl : j < S.size
            · have HD : Hid (S.data.toList.drop j = S[j] :: S.data.toList.drop (j + 1)) := by
                show _ = _
                rw [List.drop_eq_getElem_cons (by simpa using hjl)]; rfl
              have hjl' : (j : Int) < (S.size : Int) := by omega
              have hu1 : Hid (upL (S[j] :: S.data.toList.drop (j + 1)) u = some ((s' : Int) == 9)) := by
                show _ = _
                rw [← HD.out]; exact hu.out
              have hcc : ∀ c : UInt8, S[j] = c → S[j].toNat = c.toNat := fun c h => by rw [h]
              by_cases q1 : S[j] = 117
              · have p1 : ((S[j].toNat : Int) == 117) = true := by rw [q1]; rfl
                have hu2 : Hid (u = false ∧ upL (S.data.toList.drop (j + 1)) true = some ((s' : Int) == 9)) := by
                  show _ ∧ _
                  have := hu1.out
                  rw [upL, if_pos q1] at this
                  cases u
                  · exact ⟨rfl, this⟩
                  · simp at this
                obtain ⟨rfl, hu3⟩ := hu2.out
                have hu4 : Hid _ := hu3
                clear hu hu1 hu2 hu3 q1 hcc HD
                go_wp2_with (fail)
                go_roundw
                case rel => exact ⟨j + 1, true, by omega, rfl, by go_num, hu4.out, by first | trivial | rfl⟩
                case measure => simp [intOf]; omega
              · have p1 : ((S[j].toNat : Int) == 117) = false := by
                  rw [beq_eq_false_iff_ne]
                  intro hh
                  apply q1
                  apply UInt8.toNat_inj.mp
                  show S[j].toNat = 117
                  omega
                by_cases q2 : S[j] = 100
                · have p2 : ((S[j].toNat : Int) == 100) = true := by rw [q2]; rfl
                  have hu2 : Hid (u = true ∧ upL (S.data.toList.drop (j + 1)) false = some ((s' : Int) == 9)) := by
                    show _ ∧ _
                    have := hu1.out
                    rw [upL, if_neg q1, if_pos q2] at this
                    cases u
                    · simp at this
                    · exact ⟨rfl, this⟩
                  obtain ⟨rfl, hu3⟩ := hu2.out
                  have hu4 : Hid _ := hu3
                  clear hu hu1 hu2 hu3 q1 q2 hcc HD
                  go_wp2_with (fail)
                  go_roundw
                  case rel => exact ⟨j + 1, false, by omega, rfl, by go_num, hu4.out, by first | trivial | rfl⟩
                  case measure => simp [intOf]; omega
                · have p2 : ((S[j].toNat : Int) == 100) = false := by
                    rw [beq_eq_false_iff_ne]
                    intro hh
                    apply q2
                    apply UInt8.toNat_inj.mp
                    show S[j].toNat = 100
                    omega
                  have hu4 : Hid (upL (S.data.toList.drop (j + 1)) u = some ((s' : Int) == 9)) := by
                    show _ = _
                    have := hu1.out
                    rw [upL, if_neg q1, if_neg q2] at this
                    exact this
                  clear hu hu1 q1 q2 hcc HD
                  go_wp2_with (fail)
                  go_roundw
                  case rel => exact ⟨j + 1, u, by omega, rfl, by go_num, hu4.out, by first | trivial | rfl⟩
                  case measure => simp [intOf]; omega
            · have hdd : S.data.toList.drop j = [] := List.drop_eq_nil_of_le (by have : S.data.toList.length = S.size := by simp
                                                                                 omega)
              have hue : u = ((s' : Int) == 9) := by
                have := hu.out
                rw [hdd, upL] at this
                exact Option.some.inj this
              subst hue
              clear hu hdd
              cases hB : ((s' : Int) == 9)
              · go_wp2_with (fail)
                go_roundw
                case rel => exact ⟨k + 1, s', _, by omega, by omega, rfl, by rw [hB], by go_num, HW.out⟩
                case measure => simp [intOf]; omega
              · go_wp2_with (fail)
                go_roundw
                case rel => exact ⟨k + 1, s', _, by omega, by omega, rfl, by rw [hB], by go_num, HW.out⟩
                case measure => simp [intOf]; omega
      · go_wp2_with (fail)
        go_ret
        exact ⟨rfl, below_drewN (Below.refl _ _) _⟩
end topUp
end Go.Proofs.YtakckdeadchflaaDoor
