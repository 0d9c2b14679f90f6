/-
  One end of a link: all that it takes and is told, whether it comes or not.
-/
import Derived.Test.YtgfjgenkpfdofaaDoorLinkDo
import Derived.Test.YtgfjgenkpfdofaaDoorPolicyWalk3
namespace Go.Proofs.YtgfjgenkpfdofaaDoor
open Go.RowKit

/-- An event: the end behind it, what it says, the error's number. -/
def evP (s : LS) (ev : Int) (ans : APkt) : LS × List APkt × Nat := if (stepI s.st ev).2.2 = 0 then (comeS s ev, comeO s ev ans, 0) else (s, [], (stepI s.st ev).2.2)
theorem evP_ok {s : LS} {ev : Int} (ans : APkt) (h : (stepI s.st ev).2.2 = 0) : evP s ev ans = (comeS s ev, comeO s ev ans, 0) := by unfold evP; rw [if_pos h]
theorem evP_no {s : LS} {ev : Int} (ans : APkt) (h : (stepI s.st ev).2.2 ≠ 0) : evP s ev ans = (s, [], (stepI s.st ev).2.2) := by unfold evP; rw [if_neg h]
theorem come_all (B : Nat) (X : Nat → Prop) (s : LS) (v : Value) (ps : List PV) (p : PV) (ev : Int) (w : World) (hT : TabOk w) (h : Rep w B X s v ps) (hb : Bd s 100) (hp : PvOk w X v p) (hn : ps.length ≤ 50) :
    Calls Tryd.prog 21 #[.pointer (some ⟨B, 0, none⟩), .int .i64 ev, .agg #[.int .i64 p.code, .int .i64 p.id, .slice p.a p.n p.cap]] w fun e w' => e = .returned (errV (evP s ev p.abs).2.2) ∧ Went w w' B X (evP s ev p.abs).1 v ps (evP s ev p.abs).2.1 := by
  by_cases hf : (stepI s.st ev).2.2 = 0
  · rw [evP_ok _ hf]
    exact come_ok B X s v ps p ev w hT h hb hp hn hf
  · rw [evP_no _ hf]
    obtain ⟨D, nx, f, hR⟩ : ∃ D nx f, stepI s.st ev = (D, nx, f) := ⟨_, _, _, rfl⟩
    rw [hR] at hf ⊢
    refine (come_no B X s v ps p ev D nx f w hT h hR hf).mono ?_
    rintro e w' ⟨rfl, hb⟩
    exact ⟨by simp only [errV]; rw [if_neg hf], Went.still (h.below hb) (Kept.of_below B _ hb)⟩
theorem judgeR_two {mg : Int} {os : List Opt} (h : (judgeR mg os).1 = 2) : judgeR mg os = (2, os) := by
  unfold judgeR at *
  split
  · rename_i h1; rw [if_pos h1] at h; simp at h
  · rename_i h1
    rw [if_neg h1] at h
    split
    · rename_i h2; rw [if_pos h2] at h; simp at h
    · rfl
/-- A request. -/
def reqP (s : LS) (id : Int) (os : List Opt) : LS × List APkt × Nat :=
  if (judgeR s.nm os).1 = 2 then (if (evP s 6 (2, id, os)).2.2 = 0 then ((evP s 6 (2, id, os)).1.sized os, (evP s 6 (2, id, os)).2.1, 0) else evP s 6 (2, id, os)) else evP s 7 ((judgeR s.nm os).1, id, (judgeR s.nm os).2)
theorem betL_few (mg : Int) : ∀ os : List Opt, (betL mg os).length ≤ os.length
  | [] => by simp [betL]
  | o :: r => by
    have ih := betL_few mg r
    have e : betL mg (o :: r) = bet1 mg o ++ betL mg r := by simp [betL]
    have h1 : (bet1 mg o).length ≤ 1 := by
      unfold bet1
      split
      · simp
      · split <;> simp
    rw [e, List.length_append, List.length_cons]
    omega
theorem judgeR_few (mg : Int) (os : List Opt) : (judgeR mg os).2.length ≤ os.length := by
  unfold judgeR
  split
  · exact List.length_filter_le _ _
  · split
    · exact betL_few mg os
    · exact Nat.le_refl _

set_option maxRecDepth 100000 in
set_option maxHeartbeats 8000000 in
theorem request_no (B : Nat) (X : Nat → Prop) (s : LS) (v : Value) (ps : List PV) (id : Int) (a : Option Addr) (n cap : Nat) (os : List Opt) (w : World) (hT : TabOk w) (h : Rep w B X s v ps) (hb : Bd s 100) (hn : ps.length ≤ 50)
    (ho : OptR w a n os) (hnil : NilOk a cap) (hnn : n ≤ 1000) (m1 : 0 ≤ s.nm) (m2 : s.nm ≤ 255) (cj : Int) (lj : List Opt) (hj : judgeR s.nm os = (cj, lj)) (ev : Int) (hev : cj = 2 ∧ ev = 6 ∧ (stepI s.st 6).2.2 ≠ 0 ∨ cj ≠ 2 ∧ ev = 7) :
    Calls Tryd.prog 25 #[.pointer (some ⟨B, 0, none⟩), .agg #[.int .i64 1, .int .i64 id, .slice a n cap]] w fun e w' => e = .returned (errV (evP s ev (cj, id, lj)).2.2) ∧ Went w w' B X (evP s ev (cj, id, lj)).1 v ps (evP s ev (cj, id, lj)).2.1 := by
  have hk := below_alloc w (.cells #[.int .i64 1, .int .i64 id, .slice a n cap] 36)
  have hA := fun j => World.cell?_alloc_mark w #[.int .i64 1, .int .i64 id, .slice a n cap] 36 (0, 0) j
  have hl := h.lk.lt
  have hvl := h.row.lt
  have h1 := h.below hk
  have hz : ∀ w : World, (zeroValue 36).run Tryd.prog w = .ok (.agg #[.int .i64 0, .int .i64 0, .slice none 0 0]) w := fun w => by kernel_rfl
  have hol := ho.1
  obtain ⟨W1, hW1⟩ : ∃ W1, w.alloc (.cells #[.int .i64 1, .int .i64 id, .slice a n cap] 36) = W1 := ⟨_, rfl⟩
  obtain ⟨Z, hZ⟩ : ∃ Z, w.heap.size = Z := ⟨_, rfl⟩
  have d1 : W1.cell? ⟨Z, 1, none⟩ = some (.int .i64 id) := by rw [← hW1, ← hZ]; exact hA 1
  have d2 : W1.cell? ⟨Z, 2, none⟩ = some (.slice a n cap) := by rw [← hW1, ← hZ]; exact hA 2
  rw [hW1] at h1 hk
  have HW : Hid (w.alloc (.cells #[.int .i64 1, .int .i64 id, .slice a n cap] 36) = W1) := hW1
  have HZ : Hid (w.heap.size = Z) := hZ
  clear hA hW1 hZ hl
  have c2 : W1.cell? ⟨B, 2, none⟩ = some (.int .i64 s.ns) := h1.lk.cell 2
  have c3 : W1.cell? ⟨B, 3, none⟩ = some (.int .i64 s.nm) := h1.lk.cell 3
  have hlB := h1.lk.lt
  have hlZ : Z < W1.heap.size := World.block_lt_of_cell? W1 _ d1
  have hxl := h1.old
  have hself := h1.self
  have hJ := judge_any s.ns s.nm a n cap os W1.drew m1 m2 (by omega) hnil (ho.below (below_drew hk))
  have hfew := judgeR_few s.nm os
  rw [hj] at hJ hfew
  simp only at hJ hfew
  have hlj : lj.length ≤ 1000 := by omega
  clear hfew hj
  obtain ⟨E, hE⟩ : ∃ E, errV (evP s ev (cj, id, lj)).2.2 = E := ⟨_, rfl⟩
  obtain ⟨S', hS'⟩ : ∃ S', (evP s ev (cj, id, lj)).1 = S' := ⟨_, rfl⟩
  obtain ⟨O', hO'⟩ : ∃ O', (evP s ev (cj, id, lj)).2.1 = O' := ⟨_, rfl⟩
  rw [hE, hS', hO']
  have hev2 : cj = 2 ∧ ev = 6 ∧ (∃ f : Nat, E = .iface 61 (.int .i64 (f : Int))) ∨ cj ≠ 2 ∧ ev = 7 := by
    rcases hev with ⟨rfl, rfl, hf⟩ | h7
    · refine .inl ⟨rfl, rfl, (stepI s.st 6).2.2, ?_⟩
      rw [← hE, evP_no _ hf]
      simp only [errV]
      rw [if_neg hf]
    · exact .inr h7
  have HE : Hid _ := And.intro hE (And.intro hS' hO')
  clear hev hE hS' hO'
  go_enter Tryd.func25, Tryd.ntmps25
  go_wp2_with (fail)
  rw [HW.out, HZ.out]
  go_region_with (go_at_call 38; refine hJ.mono ?_; rintro e w2 ⟨u, rfl, hM⟩)
  all_goals
    obtain ⟨a', n', cap', rfl, hP⟩ := pv_made (X := X) (v := v) cj id hM hlj hxl (fun k hk3 => Nat.lt_of_lt_of_le (hvl k hk3) hk.size)
    have k12 : Below W1.heap.size W1 w2 := below_chain (below_drew (Below.refl _ _)) hM.below
    have R2 := h1.below k12
    have d1' : w2.cell? ⟨Z, 1, none⟩ = some (.int .i64 id) := (k12.cell (p := ⟨Z, 1, none⟩) hlZ).trans d1
    have hlZ2 : Z < w2.heap.size := World.block_lt_of_cell? w2 _ d1'
    have k23 := below_alloc w2 (.cells #[.int .i64 cj, .int .i64 id, .slice a' n' cap'] 36)
    have k03 := below_chain hk (below_chain k12 k23)
    have R3 := R2.below k23
    have P3 := hP.kept hself (Kept.of_below B v.ownBlock k23) (fun _ e => .inl e)
    have HC := come_all B X s v ps ⟨cj, id, a', n', cap', lj⟩ ev _ (hT.below k03) R3 hb P3 hn
    have hab : PV.abs ⟨cj, id, a', n', cap', lj⟩ = (cj, id, lj) := rfl
    rw [hab, HE.out.1, HE.out.2.1, HE.out.2.2] at HC
    clear hab HE
    clear hM hP R2 k12 c2 c3 d1 d2 h1 hJ R3 P3
    rcases hev2 with ⟨rfl, rfl, f, rfl⟩ | ⟨hc, rfl⟩
    · go_wp2_with (fail)
      refine HC.mono ?_
      rintro e w4 ⟨rfl, hW⟩
      clear HC
      go_wp2_with (fail)
      go_ret
      exact ⟨rfl, hW.from (Kept.of_below B v.ownBlock k03)⟩
    · have hcb : (cj != 2) = true := by simpa using hc
      clear hc
      go_wp2_with (fail)
      refine HC.mono ?_
      rintro e w4 ⟨rfl, hW⟩
      clear HC
      go_wp2_with (fail)
      go_ret
      exact ⟨rfl, hW.from (Kept.of_below B v.ownBlock k03)⟩

theorem request_all (B : Nat) (X : Nat → Prop) (s : LS) (v : Value) (ps : List PV) (id : Int) (a : Option Addr) (n cap : Nat) (os : List Opt) (w : World) (hT : TabOk w) (h : Rep w B X s v ps) (hb : Bd s 100) (hn : ps.length ≤ 50)
    (ho : OptR w a n os) (hfar : ∀ k, optOwn a n = some k → ¬ X k ∧ v.ownBlock ≠ some k ∧ k < w.heap.size) (hnil : NilOk a cap) (hnn : n ≤ 1000) (m1 : 0 ≤ s.nm) (m2 : s.nm ≤ 255) :
    Calls Tryd.prog 25 #[.pointer (some ⟨B, 0, none⟩), .agg #[.int .i64 1, .int .i64 id, .slice a n cap]] w fun e w' => e = .returned (errV (reqP s id os).2.2) ∧ Went w w' B X (reqP s id os).1 v ps (reqP s id os).2.1 := by
  by_cases hj : (judgeR s.nm os).1 = 2
  · have hj2 := judgeR_two hj
    by_cases hf : (stepI s.st 6).2.2 = 0
    · have e : reqP s id os = ((comeS s 6).sized os, comeO s 6 (2, id, os), 0) := by
        unfold reqP
        rw [if_pos hj, evP_ok _ hf, if_pos rfl]
      rw [e]
      exact request_ack B X s v ps id a n cap os w hT h hb hn ho hfar hnil hnn m1 m2 hj2 hf
    · have e : reqP s id os = evP s 6 (2, id, os) := by
        unfold reqP
        rw [if_pos hj, evP_no _ hf, if_neg hf]
      rw [e]
      exact request_no B X s v ps id a n cap os w hT h hb hn ho hnil hnn m1 m2 2 os hj2 6 (.inl ⟨rfl, rfl, hf⟩)
  · have e : reqP s id os = evP s 7 ((judgeR s.nm os).1, id, (judgeR s.nm os).2) := by
      unfold reqP
      rw [if_neg hj]
    rw [e]
    exact request_no B X s v ps id a n cap os w hT h hb hn ho hnil hnn m1 m2 _ _ rfl 7 (.inr ⟨hj, rfl⟩)
end Go.Proofs.YtgfjgenkpfdofaaDoor
