/-
  One end of a link: ask, act and come, at every letter, state and event.
-/
import Derived.Test.YtgfjgenkpfdofaaDoorLinkRep
import Derived.Test.YtgfjgenkpfdofaaDoorAutoWalk
namespace Go.Proofs.YtgfjgenkpfdofaaDoor
open Go.RowKit

abbrev APkt := Int × Int × List Opt
def PV.abs (p : PV) : APkt := (p.code, p.id, p.os)
def LS.asked (s : LS) : LS := { s with lf := s.lf - 1, wt := 3, ow := (s.ow + 1) % 256 }
/-- One letter: the end, and what it says. -/
def actS (c : UInt8) (s : LS) : LS :=
  if c = 105 then { s with lf := 4 } else if c = 122 then { s with lf := 0, wt := 3 } else if c = 114 then ({ s with qs := s.ns, qm := s.nm } : LS).asked else if c = 116 then s.asked else s
def actO (c : UInt8) (s : LS) (ans : APkt) : List APkt :=
  if c = 114 then [(1, (s.ow + 1) % 256, asksL s.ns s.nm)] else if c = 116 then [(5, (s.ow + 1) % 256, [])] else if c = 97 ∨ c = 110 then [ans] else if c = 107 then [(6, ans.2.1, [])] else []
def runS : List UInt8 → LS → LS
  | [], s => s
  | c :: r, s => runS r (actS c s)
def runO : List UInt8 → LS → APkt → List APkt
  | [], _, _ => []
  | c :: r, s, ans => actO c s ans ++ runO r (actS c s) ans
structure Bd (s : LS) (n : Int) : Prop where
  o1 : 0 ≤ s.ow
  o2 : s.ow ≤ 255
  l1 : -n ≤ s.lf
  l2 : s.lf ≤ n
theorem Bd.act {s : LS} {n : Int} (h : Bd s n) (hn : 4 ≤ n) (c : UInt8) : Bd (actS c s) (n + 1) := by
  obtain ⟨a, b, d, e⟩ := h
  unfold actS
  split
  · exact ⟨a, b, by simp; omega, by simp; omega⟩
  · split
    · exact ⟨a, b, by simp; omega, by simp; omega⟩
    · split
      · exact ⟨by simp [LS.asked]; omega, by simp [LS.asked]; omega, by simp [LS.asked]; omega, by simp [LS.asked]; omega⟩
      · split
        · exact ⟨by simp [LS.asked]; omega, by simp [LS.asked]; omega, by simp [LS.asked]; omega, by simp [LS.asked]; omega⟩
        · exact ⟨a, b, by omega, by omega⟩
/-- What a step of an end leaves: the end, its list (longer), the rest as it was. -/
structure Went (w w' : World) (B : Nat) (X : Nat → Prop) (s' : LS) (v : Value) (ps : List PV) (out : List APkt) : Prop where
  more : ∃ v' qs, Rep w' B X s' v' (ps ++ qs) ∧ qs.map PV.abs = out ∧ (∀ g, v'.ownBlock = some g → v.ownBlock = some g ∨ w.heap.size ≤ g)
  kept : Kept w w' B v.ownBlock

theorem Rep.setC {w : World} {B : Nat} {X : Nat → Prop} {s : LS} {v : Value} {ps : List PV} (h : Rep w B X s v ps) (j : Nat) (x : Value) (s' : LS) (hs : (s.c v).setIfInBounds j x = s'.c v) : Rep (w.setCell ⟨B, j, none⟩ x) B X s' v ps := by
  have hk : Kept w (w.setCell ⟨B, j, none⟩ x) B v.ownBlock := kept_set (Kept.refl w B _) j x
  refine ⟨?_, h.row.keep hk.size (fun k hk2 => ?_), h.own, h.self, fun k hk3 => Nat.lt_of_lt_of_le (h.old k hk3) hk.size, fun p hp => (h.pk p hp).kept h.self hk (fun _ e => .inl e)⟩
  · have := h.lk.set j x
    rw [hs] at this
    exact this
  · exact Below.heap_setCell _ _ _ k (fun e => h.ne (by rw [hk2]; exact congrArg some e))

set_option maxRecDepth 100000 in
set_option maxHeartbeats 4000000 in
theorem ask_any (B : Nat) (X : Nat → Prop) (s : LS) (v : Value) (ps : List PV) (code : Int) (a : Option Addr) (n cap : Nat) (os : List Opt) (w : World) (h : Rep w B X s v ps) (hb : Bd s 1000) (hp : PvOk w X v ⟨code, (s.ow + 1) % 256, a, n, cap, os⟩) (hn : ps.length ≤ 100) :
    Calls Tryd.prog 43 #[.pointer (some ⟨B, 0, none⟩), .int .i64 code, .slice a n cap] w fun e w' => e = .returned (.tuple #[]) ∧ Went w w' B X s.asked v ps [(code, (s.ow + 1) % 256, os)] := by
  obtain ⟨fs, fm, ns, nm, qs, qm, st, sz, lf, wt, ow⟩ := s
  obtain ⟨o1, o2, l1, l2⟩ := hb
  simp only at o1 o2 l1 l2 hp
  have c8 : w.cell? ⟨B, 8, none⟩ = some (.int .i64 lf) := h.lk.cell 8
  have c9 : w.cell? ⟨B, 9, none⟩ = some (.int .i64 wt) := h.lk.cell 9
  have c10 : w.cell? ⟨B, 10, none⟩ = some (.int .i64 ow) := h.lk.cell 10
  have fz : ∀ j, w.frozen? ⟨B, j, none⟩ = false := h.lk.frozen
  have hl := h.lk.lt
  have h1 : Rep (((w.setCell ⟨B, 10, none⟩ (.int .i64 ((ow + 1) % 256))).setCell ⟨B, 8, none⟩ (.int .i64 (lf - 1))).setCell ⟨B, 9, none⟩ (.int .i64 3)) B X ⟨fs, fm, ns, nm, qs, qm, st, sz, lf - 1, 3, (ow + 1) % 256⟩ v ps :=
    ((h.setC 10 _ ⟨fs, fm, ns, nm, qs, qm, st, sz, lf, wt, (ow + 1) % 256⟩ rfl).setC 8 _ ⟨fs, fm, ns, nm, qs, qm, st, sz, lf - 1, wt, (ow + 1) % 256⟩ rfl).setC 9 _ _ rfl
  have hk : Kept w (((w.setCell ⟨B, 10, none⟩ (.int .i64 ((ow + 1) % 256))).setCell ⟨B, 8, none⟩ (.int .i64 (lf - 1))).setCell ⟨B, 9, none⟩ (.int .i64 3)) B v.ownBlock := kept_set (kept_set (kept_set (Kept.refl w B _) 10 _) 8 _) 9 _
  have hp1 := hp.kept h.self hk (fun _ e => .inl e)
  have HC := say_any B X _ v ps ⟨code, (ow + 1) % 256, a, n, cap, os⟩ _ h1 hp1 hn
  clear h h1 hp hp1
  go_enter Tryd.func43, Tryd.ntmps43
  go_wp2_with (fail)
  refine HC.mono ?_
  rintro e w1 ⟨rfl, v', hR, hK, hv⟩
  clear HC
  go_wp2_with (fail)
  first | go_end0 | refine bodyPost_ret (results_none rfl _ _ _) rfl ?_
  refine ⟨rfl, ⟨v', [_], hR, rfl, fun g hg => ?_⟩, hk.trans hK (fun i e => .inl e)⟩
  rcases hv g hg with e | e
  · exact .inl e
  · exact .inr (Nat.le_trans hk.size e)
end Go.Proofs.YtgfjgenkpfdofaaDoor
