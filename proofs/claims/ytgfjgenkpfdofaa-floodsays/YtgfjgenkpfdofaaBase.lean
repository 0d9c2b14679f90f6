/-
  What all walks of this seat lean on: worlds one behind the other, errors by their numbers, options of a packet.
-/
import Derived.Test.YtgfjgenkpfdofaaRows
import Derived.Test.YtgfjgenkpfdofaaRowlib
import Derived.WalkKit
import Derived.WalkSpells
import Derived.WalkLawsBesides
import Derived.Handy
import Derived.Deep.QuietTactic
import Derived.BigQuiet
import Derived.Deep.RegionLaw
import Derived.Deep.RegionHeld3
import Derived.Deep.DrawnRows
namespace Go.Proofs.Ytgfjgenkpfdofaa
open Go.RowKit

theorem below_chain {w a b : World} (h : Below w.heap.size w a) (k : Below a.heap.size a b) : Below w.heap.size w b := h.trans (k.mono h.size)
theorem below_drewN {w a : World} {B : Nat} (h : Below B w a) (n : Nat) : Below B w (a.drewN n) := ⟨h.os, h.tape, h.output, h.size, h.block⟩
theorem below_alloc (w : World) (o : Obj) : Below w.heap.size w (w.alloc o) := (Below.refl _ _).alloc (Nat.le_refl _) _
theorem below_grown {w a c : World} {b : Nat} (h : Below w.heap.size w a) (hg : a.grownBy c (some b)) (hb : w.heap.size ≤ b) : Below w.heap.size w c :=
  h.grown hg h.size (fun k hk => by simp at hk; omega)
theorem below_grown0 {w a c : World} (h : Below w.heap.size w a) (hg : a.grownBy c none) : Below w.heap.size w c :=
  h.grown hg h.size (fun k hk => by simp at hk)
def errV (k : Nat) : Value := if k = 0 then .nilIface else .iface 64 (.int .i64 (k : Int))
theorem assertErr (k : Int) (w : World) : (Instr.typeAssert (.iface 64 (.int .i64 k)) 27 64 true).run Try.prog w = .ok (.tuple #[.int .i64 k, .bool true]) w := by kernel_rfl

abbrev Opt := Int × Int
/-- The slice v reads as the options os (two cells each). -/
def OptR (w : World) (a : Option Addr) (n : Nat) (os : List Opt) : Prop :=
  os.length = n ∧ (n = 0 ∨ ∃ b off, a = some ⟨b, off, none⟩ ∧ ∀ j (h : j < os.length), w.cell? ⟨b, off + j * 2, none⟩ = some (.int .i64 os[j].1) ∧ w.cell? ⟨b, off + j * 2 + 1, none⟩ = some (.int .i64 os[j].2))
theorem OptR.below {w w' : World} {a : Option Addr} {n : Nat} {os : List Opt} (h : OptR w a n os) (hb : Below w.heap.size w w') : OptR w' a n os := by
  refine ⟨h.1, ?_⟩
  rcases h.2 with h2 | ⟨b, off, rfl, h2⟩
  · exact .inl h2
  · refine .inr ⟨b, off, rfl, fun j hj => ?_⟩
    obtain ⟨c1, c2⟩ := h2 j hj
    exact ⟨(hb.cell (World.block_lt_of_cell? w _ c1)).trans c1, (hb.cell (World.block_lt_of_cell? w _ c2)).trans c2⟩
theorem OptR.drewN {w : World} {a : Option Addr} {n : Nat} {os : List Opt} (h : OptR w a n os) (m : Nat) : OptR (w.drewN m) a n os := h
theorem OptR.nil (w : World) (a : Option Addr) : OptR w a 0 [] := ⟨rfl, .inl rfl⟩
theorem OptR.take {w : World} {a : Option Addr} {n : Nat} {os : List Opt} (h : OptR w a n os) (k : Nat) (hk : k ≤ n) : OptR w a k (os.take k) := by
  refine ⟨by simp [h.1]; omega, ?_⟩
  rcases h.2 with h2 | ⟨b, off, rfl, h2⟩
  · exact .inl (by omega)
  · refine .inr ⟨b, off, rfl, fun j hj => ?_⟩
    have hj' : j < os.length := by simp at hj; omega
    have := h2 j hj'
    simpa using this

/-- 'append' as one step of a region that draws its order. -/
theorem step_append_row {P : Program} {ops : Array Oper} {o : Oper} {a : Act} {w : World} {K : Act → World → Prop} {Q : Exit → Act → World → Prop} {E : Prop}
    (hgd : o.guard = none) (s x : Operand) (t : TypeId) (ho : o.op = .call { callee := .builtin .append, args := #[s, x], argTypes := #[t, t] })
    (e : TypeId) (i : TypeInfo) (z : Value) (size bytes : Nat) (ht : P.underlying t = some (.slice e)) (hi : P.info? e = some i) (hz : i.zero = some z)
    (hsize : i.size = size) (hby : i.bytes = bytes) (hzs : z.cells.size = size) (hsz : 0 < size)
    (v : Value) (n : Nat) (xs : List Value) (hs : a.eval s = v) (hown : Row w size v n xs)
    (ad : Addr) (m c : Nat) (news : List Value) (hx : a.eval x = .slice (some ad) m c) (hl : news.length = m * size) (hm : 0 < m) (hnews : ∀ j u, news[j]? = some u → w.cell? (ad.add j) = some u) (h1 : ∀ u ∈ news, u.oneCell' = true)
    (h63 : n + m ≤ maxLen) (hbytes : (n + m) * bytes ≤ 140737488355328)
    (h : ∀ g' cap' w', Row w' size (.slice (some ⟨g', 0, none⟩) (n + m) cap') (n + m) (xs ++ news) → w.grownBy w' v.ownBlock → (v.ownBlock = some g' ∨ w.heap.size ≤ g') → K (a.put o.dst (.slice (some ⟨g', 0, none⟩) (n + m) cap')) w') :
    if Region.wanted o (yielded ops a.tmps) = true then Oper.wp P o a w K Q else E := by
  have hw : Region.wanted o (yielded ops a.tmps) = true := by simp [Region.wanted, hgd]
  rw [if_pos hw]
  obtain ⟨v', w', hr, h2, h3, h4⟩ := run_append_row (P := P) w t o.type e i z size bytes ht hi hz hsize hby hzs hsz v n xs hown ad m c news hl hm hnews h1 h63 hbytes
  unfold Oper.wp execOp
  simp only [ho, resolve, invoke, builtin, Sem.run_bind, Sem.run_pure, Result.andThen_ok, List.map_toArray, List.map_cons, List.map_nil, hs, hx, hr]
  rcases h2.2 with ⟨_, hn⟩ | ⟨g', cap', rfl, _⟩
  · omega
  · refine h g' cap' w' h2 h3 ?_
    rcases h4 with h4 | ⟨k, h4, hk⟩
    · exact .inl h4.symm
    · simp [Value.ownBlock] at h4
      subst h4
      exact .inr hk

def optCells (os : List Opt) : List Value := os.flatMap fun o => [.int .i64 o.1, .int .i64 o.2]
theorem optCells_snoc (os : List Opt) (o : Opt) : optCells (os ++ [o]) = optCells os ++ [.int .i64 o.1, .int .i64 o.2] := by simp [optCells]
theorem optCells_length (os : List Opt) : (optCells os).length = 2 * os.length := by
  induction os with
  | nil => rfl
  | cons o r ih => simp only [optCells, List.flatMap_cons, List.length_append, List.length_cons, List.length_nil] at ih ⊢; omega
theorem optCells_get : ∀ (os : List Opt) (j : Nat) (h : j < os.length), (optCells os)[j * 2]? = some (.int .i64 os[j].1) ∧ (optCells os)[j * 2 + 1]? = some (.int .i64 os[j].2)
  | o :: r, 0, _ => by simp [optCells]
  | o :: r, j + 1, h => by
    have ih := optCells_get r j (by simpa using h)
    have e1 : optCells (o :: r) = .int .i64 o.1 :: .int .i64 o.2 :: optCells r := by simp [optCells]
    rw [e1, show (j + 1) * 2 = j * 2 + 1 + 1 by omega]
    exact ih
theorem Row.opts {w : World} {ao : Option Addr} {k cp : Nat} {os : List Opt} (h : Row w 2 (.slice ao k cp) k (optCells os)) : OptR w ao k os := by
  have hl : os.length = k := by have := h.1; rw [optCells_length] at this; omega
  refine ⟨hl, ?_⟩
  rcases h.2 with ⟨_, hn⟩ | ⟨g, cap, he, _, _, _, hc, _⟩
  · exact .inl hn
  · have e1 : ao = some ⟨g, 0, none⟩ := by simp at he; exact he.1
    refine .inr ⟨g, 0, e1, fun j hj => ?_⟩
    obtain ⟨h1, h2⟩ := optCells_get os j hj
    rw [Nat.zero_add]
    exact ⟨hc _ _ h1, hc _ _ h2⟩
theorem Row.cap_le {w : World} {sz : Nat} {ao : Option Addr} {k cp : Nat} {xs : List Value} (h : Row w sz (.slice ao k cp) k xs) : k ≤ cp := by
  rcases h.2 with ⟨he, hn⟩ | ⟨g, cap, he, _, hnc, _⟩
  · omega
  · simp at he
    omega

end Go.Proofs.Ytgfjgenkpfdofaa
