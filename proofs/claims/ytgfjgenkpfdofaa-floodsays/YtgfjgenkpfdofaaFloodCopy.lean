/-
  maps.Copy of a map of states into another.
-/
import Derived.Test.YtgfjgenkpfdofaaFloodGet
namespace Go.Proofs.Ytgfjgenkpfdofaa
open Go.RowKit St
open Go.Maps (Keyed)

theorem inR_of_wf {x : Int} (h : (Lit.int .i64 x).wf = true) : inR x := by
  simp [Lit.wf, IntKind.min, IntKind.max, IntKind.signed, IntKind.bits] at h
  exact ⟨by omega, by omega⟩
theorem sameKey_int (x y : Int) : (Lit.int .i64 x).sameKey (.int .i64 y) = decide (x = y) := by simp [Lit.sameKey]
/-- What dst holds: of src what has come. -/
def mix (fd fs : Int → Option SV) (left : Lit → Bool) : Int → Option SV := fun k => if left (.int .i64 k) = false ∧ (fs k).isSome = true then fs k else fd k
theorem mix_step {fd fs : Int → Option SV} {left : Lit → Bool} {x : Int} {s : SV} (h : fs x = some s) : (fun k => if k = x then some s else mix fd fs left k) = mix fd fs (fun z => left z && !z.sameKey (.int .i64 x)) := by
  funext k
  by_cases e : k = x
  · subst e
    simp [mix, sameKey_int, h]
  · simp [mix, sameKey_int, e]
def over (fd fs : Int → Option SV) : Int → Option SV := fun k => if (fs k).isSome = true then fs k else fd k
theorem mix_end {fd fs : Int → Option SV} {left : Lit → Bool} (h : ∀ kl, left kl = false) : mix fd fs left = over fd fs := by
  funext k
  simp [mix, over, h]
theorem SMap.congr {w : World} {b n : Nat} {f g : Int → Option SV} (h : SMap w b n f) (e : ∀ k, inR k → f k = g k) : SMap w b n g := by
  obtain ⟨D, h1, h2⟩ := h.own
  exact ⟨⟨D, h1, fun k hk => by rw [← e k hk]; exact h2 k hk⟩⟩

set_option maxRecDepth 100000 in
set_option maxHeartbeats 4000000 in
theorem mcopy_any (bd bs nd ns : Nat) (fd fs : Int → Option SV) (w : World) (hd : SMap w bd nd fd) (hs : SMap w bs ns fs) (hne : bd ≠ bs) (hroom : nd + ns ≤ 2000000) :
    Calls Try.prog 33 #[.map (some bd), .map (some bs)] w fun e w' => e = .returned (.tuple #[]) ∧ SMap w' bd (nd + ns) (over fd fs) ∧ w.grownBy w' (some bd) := by
  obtain ⟨D, hown, hat0⟩ := hs.own
  have hsz := hown.size_le
  have hlt := hd.lt
  have hbs := hs.lt
  have hz := zeroState
  have H0 : Hid (∀ k, inR k → fs k = none → ∀ z, D.atKey (.int .i64 k) z = z) := fun k hk e => by have := hat0 k hk; rw [e] at this; exact this
  have H1 : Hid (∀ k s, inR k → fs k = some s → ∀ z, D.atKey (.int .i64 k) z = .held s) := fun k s hk e => by have := hat0 k hk; rw [e] at this; exact this
  clear hat0 hs
  go_enter Try.func33, Try.ntmps33
  go_wp2_with (first
    | (at_range; refine wpList_range_own _ rfl _ 66 rfl 3 35 keyLaw Try.underlying66 elemR bs ns _ rfl hown ?_; intro w0 hrg0 hg0 hs0)
    | fail)
  go_frame
  go_loopw [8] (fun _ wr => ∃ (left : Lit → Bool) (cnt : Nat), wr.ranges Try.prog 3 elemR bs w.heap.size ns D left cnt ∧ cnt ≤ ns ∧ SMap wr bd (nd + (ns - cnt)) (mix fd fs left) ∧ w.grownBy wr (some bd))
    (fun _ wr => wr.rangeLeft bs w.heap.size)
  case atStart =>
    refine ⟨_, _, hrg0, hsz, ((hd.kept hg0 (by simp)).mono (by omega)).congr (fun k hk => ?_), hg0.but _⟩
    cases e : fs k with
    | none => simp [mix, e]
    | some s => simp [mix, Maps.has_true_of_atKey (H1.out k s hk e)]
  case round =>
    clear hrg0 hg0 hs0 hown hd
    obtain ⟨left, cnt, hrg, hcs, hout, hgw⟩ := hrel
    go_wp2_with (first
      | (at_next; refine wpList_next_ranges _ rfl _ rfl 3 keyLaw elemR (Value.int .i64) SV.v (fun key kl hkey => by obtain ⟨x, rfl, _⟩ := Maps.keyOf_int_inv Try.underlying3 hkey; exact ⟨x, rfl⟩) (fun v y hv => by obtain ⟨s, rfl, _⟩ := elemR_inv hv; exact ⟨s, rfl⟩) bs w.heap.size ns _ _ _ rfl hrg ?_ ?_)
      | fail)
    · intro hc0 hl0
      have HE : Hid (SMap wr bd (nd + ns) (over fd fs)) := by
        show SMap wr bd (nd + ns) (over fd fs)
        rw [← mix_end hl0]
        exact hout.mono (by omega)
      clear hrg hout
      go_wp2_with (fail)
      first | go_end0 | refine bodyPost_ret (results_none rfl _ _ _) rfl ?_
      exact ⟨rfl, HE.out, hgw⟩
    · intro x c kl yd yp w1 cnt1 hkey hlx hv hat hrg1 hlt1 hg1 hs1 hen
      obtain ⟨x', ex, rfl, hwx⟩ := Maps.keyOf_int_inv Try.underlying3 hkey
      cases ex
      have hrx := inR_of_wf hwx
      obtain ⟨cw, cs, ca, cn, cc⟩ := c
      rw [elemR_v] at hv
      have hy : yd = .held ⟨cw, cs, ca, cn, cc⟩ := by have := Option.some.inj hv; simp only [Prod.mk.injEq] at this; exact this.1.symm
      have hfx : fs x = some ⟨cw, cs, ca, cn, cc⟩ := by
        cases e : fs x with
        | none =>
          have h1 := H0.out x hrx e .nil
          rw [hat, hy] at h1
          cases h1
        | some s =>
          have h1 := H1.out x s hrx e .nil
          rw [hat, hy] at h1
          cases h1
          rfl
      have hout1 := (hout.kept hg1 (fun e => by have := Option.some.inj e; omega)).alloc (.cells #[.int .i64 cw, .int .i64 cs, .slice ca cn cc] 35)
      obtain ⟨w2, hr2, S2, T2⟩ := hout1.store (by unfold maxLen; omega) x hrx ⟨cw, cs, ca, cn, cc⟩
      have hr2' : (Instr.mapUpdate 66 (.map (some bd)) (.int .i64 x) (.agg #[.int .i64 cw, .int .i64 cs, .slice ca cn cc])).run Try.prog (w1.alloc (.cells #[.int .i64 cw, .int .i64 cs, .slice ca cn cc] 35)) = .ok () w2 := hr2
      rw [mix_step hfx] at S2
      have hen' : (Instr.entry (.pointer (some ⟨w.heap.size, 0, none⟩))).run Try.prog w1 = .ok (.tuple #[.int .i64 x, .agg #[.int .i64 cw, .int .i64 cs, .slice ca cn cc]]) w1 := hen
      have hrg2 := (hrg1.alloc (.cells #[.int .i64 cw, .int .i64 cs, .slice ca cn cc] 35)).kept T2.grown (fun e => hne (Option.some.inj e).symm) (fun e => by have := Option.some.inj e; omega)
      have hg2 : w.grownBy w2 (some bd) := ((hgw.andThen hg1 (fun j hj => .inl (by cases hj; exact Nat.le_refl _))).andThen ((World.grownBy_alloc w1 (.cells #[.int .i64 cw, .int .i64 cs, .slice ca cn cc] 35) none).but (some bd)) (fun j hj => .inr hj)).andThen T2.grown (fun j hj => .inr hj)
      have HR : Hid (w2.ranges Try.prog 3 elemR bs w.heap.size ns D (fun z => left z && !z.sameKey (.int .i64 x)) cnt1 ∧ cnt1 ≤ ns ∧ SMap w2 bd (nd + (ns - cnt1)) (mix fd fs (fun z => left z && !z.sameKey (.int .i64 x))) ∧ w.grownBy w2 (some bd)) := ⟨hrg2, by omega, S2.mono (by omega), hg2⟩
      have HM : Hid (w2.rangeLeft bs w.heap.size < wr.rangeLeft bs w.heap.size) := by
        show _ < _
        rw [hrg2.left_eq, hrg.left_eq]
        exact hlt1
      clear hr2 hen S2 T2 hout1 hout hrg hrg1 hrg2 hg1 hg2 hgw hat hy hv hfx hlx hkey hwx
      go_wp2_with (fail)
      first | go_frame | skip
      go_roundw
      case rel => exact ⟨_, cnt1, HR.out⟩
      case measure => exact HM.out
end Go.Proofs.Ytgfjgenkpfdofaa
