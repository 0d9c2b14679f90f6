/-
  rising: the walk.
-/
import Derived.Test.YtgfjgenkpfdofaaFloodRise2
namespace Go.Proofs.Ytgfjgenkpfdofaa
open Go.RowKit St

theorem grow_chain {w1 w2 w3 : World} {o o2 : Obj} {row : Option Nat} (k2 : Below (w1.alloc o).heap.size (w1.alloc o) w2) (hg3 : (w2.alloc o2).grownBy w3 row) : w1.grownBy w3 row := by
  have s1 : (w1.alloc o).heap.size = w1.heap.size + 1 := by simp
  have s2 : (w2.alloc o2).heap.size = w2.heap.size + 1 := by simp
  have hk := k2.size
  have b1 := below_alloc w1 o
  have b2 := below_alloc w2 o2
  refine ⟨hg3.os.trans (b2.os.trans (k2.os.trans b1.os)), hg3.tape.trans (b2.tape.trans (k2.tape.trans b1.tape)), hg3.output.trans (b2.output.trans (k2.output.trans b1.output)), by have := hg3.size; omega, fun i hi hne => ?_⟩
  exact (hg3.block i (by omega) hne).trans ((b2.block i (by omega)).trans ((k2.block i (by omega)).trans (b1.block i hi)))

set_option maxRecDepth 100000 in
set_option maxHeartbeats 4000000 in
theorem rising_any (b n : Nat) (f : Int → Option SV) (es : Int → List Opt) (w : World) (h : SMap w b n f)
    (hf : ∀ k s, inR k → f k = some s → (1 ≤ k ∧ k ≤ 6) ∧ s.own = k ∧ OptR w s.a s.n (es k) ∧ NilOk s.a s.cap ∧ s.n ≤ 1000000) :
    Calls Try.prog 34 #[.map (some b)] w fun e w' => ∃ v ts, e = .returned v ∧ Risen w w' f es v ts := by
  obtain ⟨i0, hi, hz0, hz1, hz2⟩ := info_parts infoState
  obtain ⟨D, hown, hat0⟩ := h.own
  have hbw := h.lt
  have hz := zeroState
  have H0 : Hid (∀ k, inR k → f k = none → ∀ z, D.atKey (.int .i64 k) z = z) := fun k hk e => by have := hat0 k hk; rw [e] at this; exact this
  have H1 : Hid (∀ k s, inR k → f k = some s → ∀ z, D.atKey (.int .i64 k) z = .held s) := fun k s hk e => by have := hat0 k hk; rw [e] at this; exact this
  have HF : Hid _ := hf
  clear hat0 h hf
  go_enter Try.func34, Try.ntmps34
  go_wp2_with (first
    | (at_range; refine wpList_range_own _ rfl _ 66 rfl 3 35 keyLaw Try.underlying66 elemR b n _ rfl hown ?_; intro w0 hrg0 hg0 hs0)
    | fail)
  go_frame
  go_loopw [3] (fun v wr => ∃ (left : Lit → Bool) (cnt : Nat) (out : List SV), wr.ranges Try.prog 3 elemR b w.heap.size n D left cnt ∧ w.heap.size < wr.heap.size ∧ Col w wr f es left v out)
    (fun _ wr => wr.rangeLeft b w.heap.size)
  case atStart =>
    refine ⟨_, _, [], hrg0, by omega, ⟨Row.nil _ 3, fun g hg => by simp [Value.ownBlock] at hg, fun s hs => by simp at hs, List.Pairwise.nil, fun k hk h1 h2 => ?_, ⟨hg0.os, hg0.tape, hg0.output, hg0.size, fun i hi => hg0.block i hi (by simp)⟩⟩⟩
    cases e : f k with
    | none => rw [e] at h1; cases h1
    | some s =>
      rw [Maps.has_true_of_atKey (H1.out k s hk e)] at h2
      cases h2
  case round =>
    clear hrg0 hg0 hs0 hown
    obtain ⟨left, cnt, out, hrg, hww, hC⟩ := hrel
    go_wp2_with (first
      | (at_next; refine wpList_next_ranges _ rfl _ rfl 3 keyLaw elemR (Value.int .i64) SV.v (fun key kl hkey => by obtain ⟨x, rfl, _⟩ := Maps.keyOf_int_inv Try.underlying3 hkey; exact ⟨x, rfl⟩) (fun v y hv => by obtain ⟨s, rfl, _⟩ := elemR_inv hv; exact ⟨s, rfl⟩) b w.heap.size n _ _ _ rfl hrg ?_ ?_)
      | fail)
    · intro hc0 hl0
      have h6 := hC.few (fun k s hk e => (HF.out k s hk e).1)
      rcases hC.row.2 with ⟨hv, hn0⟩ | ⟨g, cap, hv, _⟩
      · subst hv
        have HR : Hid _ := (hC.risen0 hl0 rfl).1
        have hso := sort_nil wr
        clear hC hrg hl0 hn0 h6
        go_wp2_with (fail)
        refine hso.mono ?_
        rintro e w2 ⟨rfl, rfl⟩
        clear hso
        go_wp2_with (fail)
        go_ret
        exact ⟨_, _, rfl, HR.out⟩
      · subst hv
        have hso := sort_any g out.length cap out wr hC.row.sr rfl h6 hC.df
        have HC : Hid _ := hC
        have HL : Hid _ := hl0
        clear hC hrg hl0 h6
        go_wp2_with (fail)
        refine hso.mono ?_
        rintro e w2 ⟨rfl, ts, hS, hp, hr, hg⟩
        have HR : Hid _ := HC.out.risen HL.out hS hp hr hg
        clear hso hS hp hr hg
        go_wp2_with (fail)
        go_ret
        exact ⟨_, _, rfl, HR.out⟩
    · intro x c kl yd yp w1 cnt1 hkey hlx hv hat hrg1 hlt1 hg1 hs1 hen
      obtain ⟨x', ex, rfl, hwx⟩ := Maps.keyOf_int_inv Try.underlying3 hkey
      cases ex
      have hrx := inR_of_wf hwx
      obtain ⟨cw, cs, ca, cn, cc⟩ := c
      rw [elemR_v] at hv
      have hy : yd = .held ⟨cw, cs, ca, cn, cc⟩ := by have := Option.some.inj hv; simp only [Prod.mk.injEq] at this; exact this.1.symm
      have hfx : f x = some ⟨cw, cs, ca, cn, cc⟩ := by
        cases e : f x with
        | none =>
          have h1 := H0.out x hrx e .nil
          rw [hat, hy] at h1
          cases h1
        | some s =>
          have h1 := H1.out x s hrx e .nil
          rw [hat, hy] at h1
          cases h1
          rfl
      obtain ⟨hx6, hxo, hopt, hnil, hcn⟩ := HF.out x _ hrx hfx
      simp only at hxo hopt hnil hcn
      subst hxo
      have h6 := hC.few (fun k s hk e => (HF.out k s hk e).1)
      have hen' : (Instr.entry (.pointer (some ⟨w.heap.size, 0, none⟩))).run Try.prog w1 = .ok (.tuple #[.int .i64 cw, .agg #[.int .i64 cw, .int .i64 cs, .slice ca cn cc]]) w1 := hen
      have hb1 : Below w.heap.size w w1 := ⟨hg1.os.trans hC.bel.os, hg1.tape.trans hC.bel.tape, hg1.output.trans hC.bel.output, Nat.le_trans hC.bel.size hg1.size, fun i hi => (hg1.block i (by omega) (fun e => by simp at e; omega)).trans (hC.bel.block i hi)⟩
      have hcp := copy_any cw cs ca cn cc (es cw) (w1.alloc (.cells #[.int .i64 cw, .int .i64 cs, .slice ca cn cc] 35)) hcn hnil (hopt.below (hb1.alloc hb1.size _))
      have HC : Hid (Col w wr f es left u3 out) := hC
      have HX : Hid (left (.int .i64 cw) = true ∧ inR cw ∧ f cw = some ⟨cw, cs, ca, cn, cc⟩ ∧ wr.grownBy w1 (some w.heap.size) ∧ w1.heap.size = wr.heap.size ∧ w.heap.size < wr.heap.size ∧ out.length ≤ 6) := ⟨hlx, hrx, hfx, hg1, hs1, hww, h6⟩
      have HG : Hid (w1.ranges Try.prog 3 elemR b w.heap.size n D (fun z => left z && !z.sameKey (.int .i64 cw)) cnt1) := hrg1
      have HM : Hid (cnt1 < cnt) := hlt1
      have HO : Hid (wr.rangeLeft b w.heap.size = cnt) := hrg.left_eq
      clear hC hlx hrx hfx hg1 hs1 hww h6 hrg1 hlt1 hrg hen hat hy hv hkey hwx hx6 hopt hnil hcn hb1
      go_wp2_with (fail)
      refine hcp.mono ?_
      rintro e w2 ⟨⟨va, vc, rfl, vo, vn, vl, vnew⟩, k2⟩
      clear hcp hen'
      have hrow2 : Row w2 3 u3 out.length (svC out) := by
        obtain ⟨q1, q2, q3, q4, q5, q6, q7⟩ := HX.out
        have s1 : (w1.alloc (.cells #[.int .i64 cw, .int .i64 cs, .slice ca cn cc] 35)).heap.size = w1.heap.size + 1 := by simp
        refine HC.out.row.keep (by have := k2.size; omega) (fun k hk => ?_)
        have hk1 := HC.out.row.lt k hk
        have hk2 := HC.out.own k hk
        exact (k2.block k (by omega)).trans (((below_alloc w1 _).block k (by omega)).trans (q4.block k hk1 (fun e => by simp at e; omega)))
      have h7 : out.length ≤ 6 := HX.out.2.2.2.2.2.2
      obtain ⟨m, hm⟩ : ∃ m, out.length = m := ⟨_, rfl⟩
      rw [hm] at hrow2 h7
      have HN : Hid _ := hm
      clear hm
      go_wp2_with (at_builtin; go_must (refine wpList_append_row _ rfl (.tmp 12) (.tmp 15) 56 rfl 35 i0 (.agg #[.int .i64 0, .int .i64 0, .slice none 0 0]) 3 40 Try.underlying56 hi hz0 hz1 hz2 rfl (by decide) u3 m (svC out) rfl (hrow2.alloc _) _ 1 1 [.int .i64 cw, .int .i64 cs, .slice va (es cw).length vc] rfl rfl (by decide) (cells_three _ _ _ _ _ _ (by simp)) (one_sv _ _ _ _ _) (by unfold maxLen; omega) (by omega) ?_))
      intro g' cap' w3 hr3 hg3 hown3
      have HR : Hid (w3.ranges Try.prog 3 elemR b w.heap.size n D (fun z => left z && !z.sameKey (.int .i64 cw)) cnt1 ∧ w.heap.size < w3.heap.size ∧ Col w w3 f es (fun z => left z && !z.sameKey (.int .i64 cw)) (.slice (some ⟨g', 0, none⟩) (m + 1) cap') (out ++ [⟨cw, cs, va, (es cw).length, vc⟩])) := by
        obtain ⟨q1, q2, q3, q4, q5, q6, q7⟩ := HX.out
        have G := grow_chain k2 hg3
        have s1 : (w1.alloc (.cells #[.int .i64 cw, .int .i64 cs, .slice ca cn cc] 35)).heap.size = w1.heap.size + 1 := by simp
        have s2 : (w2.alloc (.cells #[.int .i64 cw, .int .i64 cs, .slice va (es cw).length vc] 35)).heap.size = w2.heap.size + 1 := by simp
        have k2s := k2.size
        have g3s := hg3.size
        have hvo : ∀ k, u3.ownBlock = some k → w.heap.size < k ∧ k < wr.heap.size := fun k hk => ⟨HC.out.own k hk, HC.out.row.lt k hk⟩
        refine ⟨World.ranges.kept HG.out G (fun e => by have := hvo b e.symm; omega) (fun e => by have := hvo _ e.symm; omega), by omega, ?_⟩
        refine HC.out.step (s := ⟨cw, cs, va, (es cw).length, vc⟩) (t := ⟨cw, cs, ca, cn, cc⟩) q4 G (by rw [HN.out]; exact hr3) (fun g hg => ?_) q6 (fun j hj => ?_) q2 q1 q3 rfl rfl (vo.kept (cap := vc) (fun j hj => ?_)) vn
        · have hgg : g' = g := by simpa [Value.ownBlock] using hg
          subst hgg
          rcases hown3 with e | e
          · exact .inl e
          · right; omega
        · obtain ⟨c1, c2⟩ := vnew j hj
          refine ⟨by omega, by omega, fun e => ?_⟩
          have hgg : g' = j := by simpa [Value.ownBlock] using e
          subst hgg
          rcases hown3 with e | e
          · have := hvo _ e; omega
          · omega
        · obtain ⟨c1, c2⟩ := vnew j hj
          exact (hg3.block j (by omega) (fun e => by have := hvo j e.symm; omega)).trans ((below_alloc w2 _).block j c2)
      have HM2 : Hid (w3.rangeLeft b w.heap.size < wr.rangeLeft b w.heap.size) := by
        show _ < _
        rw [World.ranges.left_eq HR.out.1, HO.out]
        exact HM.out
      clear hr3 hg3 hown3 k2 vo vnew hrow2 HO
      go_wp2_with (fail)
      go_roundw
      case rel => exact ⟨_, cnt1, _, HR.out⟩
      case measure => exact HM2.out
end Go.Proofs.Ytgfjgenkpfdofaa
