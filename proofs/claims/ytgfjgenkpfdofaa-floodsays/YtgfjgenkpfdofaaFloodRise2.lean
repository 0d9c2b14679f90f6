/-
  rising: copies of a map's states by rising owners.
-/
import Derived.Test.YtgfjgenkpfdofaaFloodRise
namespace Go.Proofs.Ytgfjgenkpfdofaa
open Go.RowKit St

theorem infoState : (Try.prog.info? 35).map (fun i => (i.zero, i.size, i.bytes)) = some (some (.agg #[.int .i64 0, .int .i64 0, .slice none 0 0]), 3, 40) := by kernel_rfl
theorem cells_three (w : World) (x y z : Value) (t : TypeId) (g : Nat) (hg : w.heap.size = g) : ∀ (j : Nat) (u : Value), [x, y, z][j]? = some u → (w.alloc (.cells #[x, y, z] t)).cell? ((⟨g, 0, none⟩ : Addr).add j) = some u := by
  subst hg
  intro j u hu
  rw [add_plain, World.cell?_alloc_mark]
  simpa using hu
theorem one_sv (x y : Int) (a : Option Addr) (n c : Nat) : ∀ u ∈ [Value.int .i64 x, Value.int .i64 y, Value.slice a n c], u.oneCell' = true := by simp [Value.oneCell']
/-- What rising hands out. -/
structure Risen (w w' : World) (f : Int → Option SV) (es : Int → List Opt) (v : Value) (ts : List SV) : Prop where
  shape : (v = .slice none 0 0 ∧ ts = []) ∨ ∃ g cap, v = .slice (some ⟨g, 0, none⟩) ts.length cap ∧ SR w' g cap ts ∧ w.heap.size < g
  el : ∀ s ∈ ts, ElOk w w' f es v s
  ris : Ris ts
  all : ∀ k, inR k → (f k).isSome = true → ∃ s ∈ ts, s.own = k
  bel : Below w.heap.size w w'
theorem Col.risen0 {w wr : World} {f : Int → Option SV} {es : Int → List Opt} {left : Lit → Bool} {v : Value} {out : List SV} (h : Col w wr f es left v out) (hl : ∀ kl, left kl = false) (hv : v = .slice none 0 0) : Risen w wr f es v [] ∧ out = [] := by
  have ho : out = [] := by
    rcases h.row.2 with ⟨_, e⟩ | ⟨g, cap, e, _⟩
    · exact List.eq_nil_of_length_eq_zero e
    · rw [hv] at e; cases e
  subst ho
  exact ⟨⟨.inl ⟨hv, rfl⟩, fun s hs => by simp at hs, List.Pairwise.nil, fun k hk hs => h.all k hk hs (hl _), h.bel⟩, rfl⟩
theorem Col.risen {w wr w' : World} {f : Int → Option SV} {es : Int → List Opt} {left : Lit → Bool} {g cap : Nat} {out ts : List SV} (h : Col w wr f es left (.slice (some ⟨g, 0, none⟩) out.length cap) out) (hl : ∀ kl, left kl = false)
    (hs : SR w' g cap ts) (hp : ts.Perm out) (hr : Ris ts) (hg : wr.grownBy w' (some g)) : Risen w w' f es (.slice (some ⟨g, 0, none⟩) out.length cap) ts := by
  have hgw : w.heap.size < g := h.own g rfl
  refine ⟨.inr ⟨g, cap, by rw [hp.length_eq], hs, hgw⟩, fun s hq => ?_, hr, fun k hk h1 => ?_, ?_⟩
  · have a := (h.el s (hp.mem_iff.1 hq)).1
    refine ⟨a.at_, a.inr, a.n, a.opt.kept (cap := s.cap) (fun j hj => ?_), a.nil, fun j hj => ?_⟩
    · obtain ⟨c1, c2, c3⟩ := a.new j hj
      exact hg.block j c2 (fun e => c3 e.symm)
    · obtain ⟨c1, c2, c3⟩ := a.new j hj
      exact ⟨c1, Nat.lt_of_lt_of_le c2 hg.size, c3⟩
  · obtain ⟨s, h2, h3⟩ := h.all k hk h1 (hl _)
    exact ⟨s, hp.mem_iff.2 h2, h3⟩
  · refine ⟨hg.os.trans h.bel.os, hg.tape.trans h.bel.tape, hg.output.trans h.bel.output, Nat.le_trans h.bel.size hg.size, fun i hi => (hg.block i (Nat.lt_of_lt_of_le hi h.bel.size) (fun e => ?_)).trans (h.bel.block i hi)⟩
    have : i = g := by simpa using e
    omega

set_option maxRecDepth 100000 in
set_option maxHeartbeats 2000000 in
theorem sort_nil (w : World) : Calls Try.prog 39 #[.slice none 0 0, .func (.func 40) #[] #[]] w fun e w' => e = .returned (.tuple #[]) ∧ w = w' := by
  have hle := len_any 0 (by decide) w
  have hin : Calls Try.prog 49 #[.slice none 0 0, .int .i64 0, .int .i64 0, .func (.func 40) #[] #[]] w fun e w' => e = .returned (.tuple #[]) ∧ w = w' := by
    go_enter Try.func49, Try.ntmps49
    go_wp2_with (fail)
    refine wp_loop_rounds 1 ?_
    rw [rounds_succ]
    go_wp2_with (fail)
    first | go_end0 | refine bodyPost_ret (results_none rfl _ _ _) rfl ?_
    exact ⟨rfl, rfl⟩
  have hpd : ∀ L : Int, Calls Try.prog 46 #[.slice none 0 0, .int .i64 0, .int .i64 0, .int .i64 L, .func (.func 40) #[] #[]] w fun e w' => e = .returned (.tuple #[]) ∧ w = w' := by
    intro L
    go_enter Try.func46, Try.ntmps46
    go_wp2_with (fail)
    refine wp_loop_rounds 1 ?_
    rw [rounds_succ]
    go_wp2_with (fail)
    refine hin.mono ?_
    rintro e w1 ⟨rfl, rfl⟩
    go_wp2_with (fail)
    first | go_end0 | refine bodyPost_ret (results_none rfl _ _ _) rfl ?_
    exact ⟨rfl, rfl⟩
  go_enter Try.func39, Try.ntmps39
  go_wp2_with (fail)
  refine hle.mono ?_
  rintro e w1 ⟨r, rfl, rfl⟩
  go_wp2_with (fail)
  refine (hpd r).mono ?_
  rintro e w2 ⟨rfl, rfl⟩
  go_wp2_with (fail)
  first | go_end0 | refine bodyPost_ret (results_none rfl _ _ _) rfl ?_
  exact ⟨rfl, rfl⟩
end Go.Proofs.Ytgfjgenkpfdofaa
