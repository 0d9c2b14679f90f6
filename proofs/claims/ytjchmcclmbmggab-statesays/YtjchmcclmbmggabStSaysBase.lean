/-
  'StateSays' returns true at every two states and every text, and changes nothing that was there.
-/
import Derived.Test.YtjchmcclmbmggabStRNewer
import Derived.Test.YtjchmcclmbmggabStParse
import Derived.Test.YtjchmcclmbmggabStOf
import Derived.Test.YtjchmcclmbmggabSame
namespace Go.Proofs.Ytjchmcclmbmggab
open Go.RowKit St
namespace stateSays
section
variable {P : Program} {md : Region.Mode} {ops : Array Oper} {Q : Exit → Act → World → Prop} {S : World → Prop}
/-- An operation that yields in every world that meets S is taken first; its slot is named. -/
theorem take_yes (i : Nat) (d : Option Tmp) {oi : Oper} {v : Value} {fuel : Nat} {listed : Array Bool} {a : Act} {w : World} (hi : ops[i]? = some oi) (hd : oi.dst = d)
    (hs : Region.noSelect ops = true) (hf : Region.free md ops listed i = true) (hr : (Region.ready md ops listed).contains i = true)
    (hQ : ∀ c a w, Q (.panic c) (a.put d v) w → Q (.panic c) a w) (hw : Region.wanted oi (yielded ops a.tmps) = true) (hy : ∀ w, S w → (execOp a.eval oi).run P w = .ok (.value v) w) (hS : S w)
    (h : wpAnyH P md ops Q S fuel (listed.setIfInBounds i true) (a.put d v) w) : wpAnyH P md ops Q S (fuel + 1) listed a w := by
  subst hd
  exact wpAnyH_take hi hs hf hr hQ (Or.inl ⟨hw, hy⟩) hS h
/-- An operation whose guard says no is passed by. -/
theorem take_no (i : Nat) (d : Option Tmp) {oi : Oper} {fuel : Nat} {listed : Array Bool} {a : Act} {w : World} (hi : ops[i]? = some oi) (hd : oi.dst = d)
    (hs : Region.noSelect ops = true) (hf : Region.free md ops listed i = true) (hr : (Region.ready md ops listed).contains i = true)
    (hQ : ∀ c a w, Q (.panic c) (a.put d undef) w → Q (.panic c) a w) (hw : Region.wanted oi (yielded ops a.tmps) = false) (hS : S w)
    (h : wpAnyH P md ops Q S fuel (listed.setIfInBounds i true) (a.put d undef) w) : wpAnyH P md ops Q S (fuel + 1) listed a w := by
  subst hd
  exact wpAnyH_take hi hs hf hr hQ (Or.inr ⟨hw, rfl⟩) hS h
end

theorem edge_one (w : World) : OptR (w.alloc (.cells #[.int .i64 1, .int .i64 9] 118)) (some ⟨w.heap.size, 0, none⟩) 1 [(1, 9)] := by
  refine ⟨rfl, .inr ⟨w.heap.size, 0, rfl, fun j hj => ?_⟩⟩
  have hj0 : j = 0 := by simpa using hj
  subst hj0
  exact ⟨World.cell?_alloc_mark w #[.int .i64 1, .int .i64 9] 118 (0, 0) 0, World.cell?_alloc_mark w #[.int .i64 1, .int .i64 9] 118 (0, 0) 1⟩

set_option maxRecDepth 100000 in
set_option maxHeartbeats 2000000 in
theorem told_true (w : World) : Calls Try.prog 27 #[] w fun e w' => e = .returned (.bool true) ∧ Below w.heap.size w w' := by
  have h := bytes_good 2 258 (some ⟨w.heap.size, 0, none⟩) 1 1 [(1, 9)] (w.alloc (.cells #[.int .i64 1, .int .i64 9] 118)) (edge_one w) (by decide +kernel)
  have e : (stB 2 258 [(1, 9)]).toArray = #[2, 2, 1, 0, 1, 9] := by decide +kernel
  rw [e] at h
  have hz := zeroState
  have hw0 : Below w.heap.size w (w.alloc (.cells #[.int .i64 1, .int .i64 9] 118)) := below_alloc _ _
  go_enter Try.func27, Try.ntmps27
  go_wp2_with (fail)
  refine h.mono ?_
  rintro e w1 ⟨rfl, hb1⟩
  have hw1 := below_chain hw0 hb1
  clear h
  go_wp2_with (fail)
  refine (same_ok 0 _).mono ?_
  rintro e w2 ⟨rfl, rfl⟩
  go_wp2_with (fail)
  go_ret
  exact ⟨rfl, hw1⟩

def tV (own seq : Int) (es : List Opt) : Value := if stF own seq es = 0 then .string ⟨(stB own seq es).toArray⟩ else .string ByteArray.empty
theorem six {w1 : World} {X : Nat} {u v z u' v' z' : Value} (h : (w1.cell? ⟨X, 0, none⟩ = some u ∧ w1.cell? ⟨X, 1, none⟩ = some v ∧ w1.cell? ⟨X, 2, none⟩ = some z ∧ X < w1.heap.size) ∧ (w1.cell? ⟨X + 1, 0, none⟩ = some u' ∧ w1.cell? ⟨X + 1, 1, none⟩ = some v' ∧ w1.cell? ⟨X + 1, 2, none⟩ = some z' ∧ X + 1 < w1.heap.size)) :
    w1.cell? ⟨X, 0, none⟩ = some u ∧ w1.cell? ⟨X, 1, none⟩ = some v ∧ w1.cell? ⟨X, 2, none⟩ = some z ∧ w1.cell? ⟨X + 1, 0, none⟩ = some u' ∧ w1.cell? ⟨X + 1, 1, none⟩ = some v' ∧ w1.cell? ⟨X + 1, 2, none⟩ = some z' := ⟨h.1.1, h.1.2.1, h.1.2.2.1, h.2.1, h.2.2.1, h.2.2.2.1⟩
theorem three {w1 : World} {X : Nat} {u v z : Value} (h : w1.cell? ⟨X, 0, none⟩ = some u ∧ w1.cell? ⟨X, 1, none⟩ = some v ∧ w1.cell? ⟨X, 2, none⟩ = some z ∧ X < w1.heap.size) : w1.cell? ⟨X, 0, none⟩ = some u ∧ w1.cell? ⟨X, 1, none⟩ = some v ∧ w1.cell? ⟨X, 2, none⟩ = some z := ⟨h.1, h.2.1, h.2.2.1⟩
theorem edgF_le (own : Int) : ∀ (es : List Ed) (ah : Int), edgF own ah es ≤ 3
  | [], _ => by simp [edgF]
  | e :: r, ah => by
    unfold edgF
    split
    · omega
    · split
      · omega
      · exact edgF_le own r _
theorem stF_le (own seq : Int) (es : List Ed) : stF own seq es ≤ 3 := by
  unfold stF
  split
  · omega
  · split
    · omega
    · exact edgF_le own es 0
/-- What Parse and StateOf make of one text is the same. -/
theorem tail_calls (s : ByteArray) (hs : s.size ≤ 60) : ∃ (own seq : Int) (os : List Opt) (f : Nat),
    (∀ W, Calls Try.prog 35 #[.string s] W fun e w' => ∃ (a : Option Addr) (n cap : Nat), e = .returned (.tuple #[.agg #[.int .i64 own, .int .i64 seq, .slice a n cap], errV f]) ∧ OptR w' a n os ∧ Below W.heap.size W w') ∧
    (∀ W, Calls Try.prog 36 #[.string s] W fun e w' => ∃ (a : Option Addr) (n cap : Nat), e = .returned (.tuple #[.agg #[.int .i64 own, .int .i64 seq, .slice a n cap], .int .i64 (f : Int)]) ∧ OptR w' a n os ∧ Below W.heap.size W w') ∧ os.length ≤ 6 := by
  obtain ⟨own, seq, os, f, hp⟩ : ∃ own seq os f, parseR s.data.toList = (own, seq, os, f) := ⟨_, _, _, _, rfl⟩
  refine ⟨own, seq, os, f, fun W => (parse_any s W (by unfold maxLen; omega)).mono ?_, fun W => (of_any s W (by omega)).mono ?_, ?_⟩
  · rintro e w' ⟨a, n, cap, f', c', i', o', rfl, h1, _, h2, h3⟩
    rw [hp] at h2
    simp only [Prod.mk.injEq] at h2
    obtain ⟨rfl, rfl, rfl, rfl⟩ := h2
    exact ⟨a, n, cap, rfl, h1, h3⟩
  · rintro e w' ⟨a, n, cap, f', c', i', o', rfl, h1, _, h2, h3⟩
    rw [hp] at h2
    simp only [Prod.mk.injEq] at h2
    obtain ⟨rfl, rfl, rfl, rfl⟩ := h2
    exact ⟨a, n, cap, rfl, h1, h3⟩
  · unfold parseR at hp
    split at hp
    · simp only [Prod.mk.injEq] at hp
      obtain ⟨_, _, rfl, _⟩ := hp
      simp
    · split at hp
      · rename_i hz
        simp only [Prod.mk.injEq] at hp
        obtain ⟨_, _, rfl, _⟩ := hp
        exact (stF_zero hz).2.2.1
      · simp only [Prod.mk.injEq] at hp
        obtain ⟨_, _, rfl, _⟩ := hp
        simp

end stateSays
end Go.Proofs.Ytjchmcclmbmggab
