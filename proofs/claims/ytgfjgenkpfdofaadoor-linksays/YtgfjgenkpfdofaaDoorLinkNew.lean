/-
  Ends that begin: New, NewLink; ends at rest; links.
-/
import Derived.Test.YtgfjgenkpfdofaaDoorRLink5
import Derived.Test.YtgfjgenkpfdofaaDoorLinkOk
import Derived.Test.YtgfjgenkpfdofaaDoorSame
namespace Go.Proofs.YtgfjgenkpfdofaaDoor
open Go.RowKit

theorem zeroLink (w : World) : (zeroValue 60).run Tryd.prog w = .ok (.agg #[.int .i64 0, .int .i64 0, .int .i64 0, .int .i64 0, .int .i64 0, .int .i64 0, .int .i64 0, .int .i64 0, .int .i64 0, .int .i64 0, .int .i64 0, .slice none 0 0]) w := by kernel_rfl
theorem heap_alloc_new' (w : World) (o : Obj) : (w.alloc o).heap[w.heap.size]? = some o := heap_alloc_new w o

set_option maxRecDepth 100000 in
set_option maxHeartbeats 2000000 in
theorem lnew_in (S M : Int) (w : World) (h1 : ¬ S < 40) (h2 : ¬ 255 < S) (h3 : ¬ M < 1) (h4 : ¬ 255 < M) :
    Calls Tryd.prog 6 #[.int .i64 S, .int .i64 M] w fun e w' => ∃ B, e = .returned (.tuple #[.pointer (some ⟨B, 0, none⟩), .nilIface]) ∧ Lk w' B (lkC S M S M 0 0 0 255 0 0 0 (.slice none 0 0)) ∧ w.heap.size ≤ B ∧ Below w.heap.size w w' := by
  have hz := zeroPol
  have hzl := zeroLink
  have hN := new_in S M w h1 h2 h3 h4
  clear h1 h2 h3 h4
  go_enter Tryd.func6, Tryd.ntmps6
  go_wp2_with (fail)
  refine hN.mono ?_
  rintro e w1 ⟨rfl, hb⟩
  have hs := hb.size
  have hb2 := (hb.alloc hb.size (.cells #[.int .i64 S, .int .i64 M] 56))
  have hb3 := below_chain hb2 (below_alloc _ (.cells (lkC S M S M 0 0 0 255 0 0 0 (.slice none 0 0)) 60))
  have hn := heap_alloc_new' (w1.alloc (.cells #[.int .i64 S, .int .i64 M] 56)) (.cells (lkC S M S M 0 0 0 255 0 0 0 (.slice none 0 0)) 60)
  have e1 : (w1.alloc (.cells #[.int .i64 S, .int .i64 M] 56)).heap.size = w1.heap.size + 1 := by simp
  rw [e1] at hn
  have HN : Hid _ := hn
  have HB : Hid _ := hb3
  clear hn hb3 hN
  go_wp2_with (fail)
  go_ret2
  exact ⟨w1.heap.size + 1, rfl, HN.out, by omega, HB.out⟩
set_option maxRecDepth 100000 in
set_option maxHeartbeats 2000000 in
theorem lnew_out (S M : Int) (w : World) (h : S < 40 ∨ 255 < S ∨ M < 1 ∨ 255 < M) :
    Calls Tryd.prog 6 #[.int .i64 S, .int .i64 M] w fun e w' => e = .returned (.tuple #[.pointer none, .iface 61 (.int .i64 1)]) ∧ Below w.heap.size w w' := by
  have hz := zeroPol
  have hN := new_out S M w h
  clear h
  go_enter Tryd.func6, Tryd.ntmps6
  go_wp2_with (fail)
  refine hN.mono ?_
  rintro e w1 ⟨rfl, hb⟩
  have hb2 := (hb.alloc hb.size (.cells #[.int .i64 0, .int .i64 0] 56))
  clear hN
  go_wp2_with (fail)
  go_ret2
  exact ⟨rfl, hb2⟩

theorem Rep.rest {w : World} {B : Nat} {s : LS} (h : Lk w B (s.c (.slice none 0 0))) : Rep w B (fun k => k < w.heap.size) s (.slice none 0 0) [] :=
  ⟨h, Row.nil _ 3, fun g hg => by simp [Value.ownBlock] at hg, h.lt, fun _ hk => hk, fun p hp => by simp at hp⟩
theorem Rep.restX {w : World} {B : Nat} {X : Nat → Prop} {s : LS} (h : Lk w B (s.c (.slice none 0 0))) (hB : X B) (ho : ∀ k, X k → k < w.heap.size) : Rep w B X s (.slice none 0 0) [] :=
  ⟨h, Row.nil _ 3, fun g hg => by simp [Value.ownBlock] at hg, hB, ho, fun p hp => by simp at hp⟩
theorem RRep.rest {w : World} {B : Nat} {X : Nat → Prop} {s : LS} {ak : Value} (h : Blk w B (s.r ak (.slice none 0 0)) 48) (ha : AskOk w B (.slice none 0 0) ak (asksL s.qs s.qm)) (hx : ∀ k, ak.ownBlock = some k → ¬ X k) (hB : X B) (ho : ∀ k, X k → k < w.heap.size) : RRep w B X s ak (.slice none 0 0) [] :=
  ⟨h, ha, Row.nil _ 3, fun g hg => by simp [Value.ownBlock] at hg, hB, ho, fun p hp => by simp at hp, hx⟩
theorem zeroRLink (w : World) : (zeroValue 48).run Tryd.prog w = .ok (.agg #[.int .i64 0, .int .i64 0, .int .i64 0, .int .i64 0, .int .i64 0, .int .i64 0, .int .i64 0, .int .i64 0, .slice none 0 0, .int .i64 0, .slice none 0 0]) w := by kernel_rfl
/-- An end that is new. -/
def freshL (S M : Int) : LS := ⟨S, M, S, M, 0, 0, 0, 255, 0, 0, 0⟩
theorem freshL_ok {S M : Int} (h3 : ¬ M < 1) (h4 : ¬ 255 < M) : LOk (freshL S M) := ⟨by rw [okSt_iff]; simp [freshL], by simp [freshL], by simp [freshL], by simp only [freshL]; omega, by simp only [freshL]; omega, by simp only [freshL]; omega, by simp only [freshL]; omega⟩
set_option maxRecDepth 100000 in
set_option maxHeartbeats 2000000 in
theorem rnew_in (S M : Int) (w : World) (h1 : ¬ S < 40) (h2 : ¬ 255 < S) (h3 : ¬ M < 1) (h4 : ¬ 255 < M) :
    Calls Tryd.prog 7 #[.int .i64 S, .int .i64 M] w fun e w' => ∃ B, e = .returned (.tuple #[.pointer (some ⟨B, 0, none⟩), .int .i64 0]) ∧ Blk w' B ((freshL S M).r (.slice none 0 0) (.slice none 0 0)) 48 ∧ w.heap.size ≤ B ∧ Below w.heap.size w w' := by
  have hz := zeroRPol
  have hzl := zeroRLink
  have hb1 := below_alloc w (.cells #[.int .i64 S, .int .i64 M] 45)
  have HB : Hid _ := below_chain hb1 (below_alloc _ (.cells ((freshL S M).r (.slice none 0 0) (.slice none 0 0)) 48))
  have hn := Blk.newN (w.alloc (.cells #[.int .i64 S, .int .i64 M] 45)) ((freshL S M).r (.slice none 0 0) (.slice none 0 0)) 48 (w.heap.size + 1) (by simp)
  have HN : Hid _ := hn
  clear hn hb1
  go_enter Tryd.func7, Tryd.ntmps7
  go_wp2_with (fail)
  go_ret2
  exact ⟨w.heap.size + 1, rfl, HN.out, by omega, HB.out⟩
set_option maxRecDepth 100000 in
set_option maxHeartbeats 2000000 in
theorem rnew_out (S M : Int) (w : World) (h : S < 40 ∨ 255 < S ∨ M < 1 ∨ 255 < M) :
    Calls Tryd.prog 7 #[.int .i64 S, .int .i64 M] w fun e w' => e = .returned (.tuple #[.pointer none, .int .i64 1]) ∧ w = w' := by
  by_cases h1 : S < 40
  · go_enter Tryd.func7, Tryd.ntmps7
    go_wp2_with (fail)
    go_ret2
    exact ⟨rfl, rfl⟩
  · by_cases h2 : 255 < S
    · go_enter Tryd.func7, Tryd.ntmps7
      go_wp2_with (fail)
      go_ret2
      exact ⟨rfl, rfl⟩
    · by_cases h3 : M < 1
      · go_enter Tryd.func7, Tryd.ntmps7
        go_wp2_with (fail)
        go_ret2
        exact ⟨rfl, rfl⟩
      · have h4 : 255 < M := by omega
        go_enter Tryd.func7, Tryd.ntmps7
        go_wp2_with (fail)
        go_ret2
        exact ⟨rfl, rfl⟩
theorem do_open (S M : Int) : doP (freshL S M) 2 = ({ freshL S M with st := 1 }, [], 0) := by kernel_rfl
theorem do_up (S M : Int) : (doP { freshL S M with st := 1 } 0).2.2 = 0 ∧ (doP { freshL S M with st := 1 } 0).1.st = 6 ∧ (doP { freshL S M with st := 1 } 0).2.1.length = 1 := ⟨by kernel_rfl, by kernel_rfl, by kernel_rfl⟩
set_option maxRecDepth 100000 in
set_option maxHeartbeats 4000000 in
theorem links_any (w : World) (hT : TabOk w) : Calls Tryd.prog 4 #[] w fun e w' => e = .returned (.bool true) ∧ Below w.heap.size w w' := by
  have hN := lnew_in 100 7 w (by decide) (by decide) (by decide) (by decide)
  go_enter Tryd.func4, Tryd.ntmps4
  go_wp2_with (fail)
  refine hN.mono ?_
  rintro e w1 ⟨B, rfl, hL, hB, b1⟩
  clear hN
  have hL' : Lk w1 B ((freshL 100 7).c (.slice none 0 0)) := hL
  have hok := freshL_ok (S := 100) (M := 7) (by decide) (by decide)
  have h1 := do_all 2 B _ (freshL 100 7) _ [] w1 (hT.below b1) (Rep.rest hL') hok.bd (by simp)
  rw [do_open] at h1
  clear hL hL'
  go_wp2_with (fail)
  refine h1.mono ?_
  rintro e w2 ⟨rfl, ⟨v2, q2, hR2, ho2, hv2⟩, hK2⟩
  clear h1
  have hq2 : q2 = [] := by simpa using ho2
  subst hq2
  have hok2 : LOk { freshL 100 7 with st := 1 } := ⟨by rw [okSt_iff]; simp [freshL], by simp [freshL], by simp [freshL], by simp [freshL], by simp [freshL], by simp [freshL], by simp [freshL]⟩
  have hB0 : B ≠ 0 := by have := hT.lt; omega
  have h2 := do_all 0 B _ { freshL 100 7 with st := 1 } v2 _ w2 (hK2.tab (hT.below b1) hB0 (by simp [Value.ownBlock])) hR2 hok2.bd (by simp)
  obtain ⟨u1, u2, u3⟩ := do_up 100 7
  rw [u1] at h2
  have e0 : errV 0 = .nilIface := rfl
  have hs := same_ok 0
  rw [e0] at hs h2
  go_wp2_with (fail)
  refine h2.mono ?_
  rintro e w3 ⟨rfl, ⟨v3, q3, hR3, ho3, hv3⟩, hK3⟩
  clear h2
  have hst := state_rep B _ _ _ _ w3 hR3
  rw [u2] at hst
  have hout := out_rep B _ _ _ _ w3 hR3
  have hlen : q3.length = 1 := by
    have := congrArg List.length ho3
    simpa [u3] using this
  have k1 : Below w.heap.size w w2 := hK2.below b1 hB (by simp [Value.ownBlock])
  have k2 : Below w.heap.size w w3 := hK3.below k1 hB (fun i hi => by
    rcases hv2 i hi with e | e
    · simp [Value.ownBlock] at e
    · exact Nat.le_trans b1.size e)
  have hlr := hR3.row
  have hnn : ([] ++ [] ++ q3 : List PV).length = 1 := by simpa using hlen
  rw [hnn] at hlr
  have hv : ∃ a c, v3 = .slice a 1 c := by
    rcases hlr.2 with ⟨_, e⟩ | ⟨g, c, e, _⟩
    · omega
    · exact ⟨_, _, e⟩
  obtain ⟨a3, c3, rfl⟩ := hv
  clear hlr hR3 hv3 hv2 ho3 hnn
  go_wp2_with (first | (go_at_call 8; refine (hs _).mono ?_; rintro e wz ⟨rfl, rfl⟩) | (go_at_call 15; refine hst.mono ?_; rintro e wz ⟨rfl, rfl⟩) | (go_at_call 18; refine hout.mono ?_; rintro e wz ⟨rfl, _, _, _, hK4⟩))
  go_ret
  exact ⟨rfl, hK4.below k2 hB (by simp)⟩
end Go.Proofs.YtgfjgenkpfdofaaDoor
