/-
  What all walks of this seat lean on: worlds one behind the other, errors by their numbers, options of a packet.
-/
import Derived.Test.YtgfjgenkpfdofaaDoorRows
import Derived.Test.YtgfjgenkpfdofaaDoorRowlib
import Derived.WalkKit
import Derived.WalkSpells
import Derived.WalkLawsBesides
import Derived.Handy
import Derived.Deep.QuietTactic
import Derived.BigQuiet
import Derived.Deep.RegionLaw
import Derived.Deep.RegionHeld3
import Derived.Deep.DrawnRows
namespace Go.Proofs.YtgfjgenkpfdofaaDoor
open Go.RowKit

theorem below_chain {w a b : World} (h : Below w.heap.size w a) (k : Below a.heap.size a b) : Below w.heap.size w b := h.trans (k.mono h.size)
theorem below_drewN {w a : World} {B : Nat} (h : Below B w a) (n : Nat) : Below B w (a.drewN n) := ⟨h.os, h.tape, h.output, h.size, h.block⟩
theorem below_alloc (w : World) (o : Obj) : Below w.heap.size w (w.alloc o) := (Below.refl _ _).alloc (Nat.le_refl _) _
theorem below_grown {w a c : World} {b : Nat} (h : Below w.heap.size w a) (hg : a.grownBy c (some b)) (hb : w.heap.size ≤ b) : Below w.heap.size w c :=
  h.grown hg h.size (fun k hk => by simp at hk; omega)
theorem below_grown0 {w a c : World} (h : Below w.heap.size w a) (hg : a.grownBy c none) : Below w.heap.size w c :=
  h.grown hg h.size (fun k hk => by simp at hk)
def errV (k : Nat) : Value := if k = 0 then .nilIface else .iface 61 (.int .i64 (k : Int))
theorem assertErr (k : Int) (w : World) : (Instr.typeAssert (.iface 61 (.int .i64 k)) 27 61 true).run Tryd.prog w = .ok (.tuple #[.int .i64 k, .bool true]) w := by kernel_rfl

abbrev Opt := Int × Int
/-- The slice v reads as the options os (two cells each). -/
def OptR (w : World) (a : Option Addr) (n : Nat) (os : List Opt) : Prop :=
  os.length = n ∧ (n = 0 ∨ ∃ b off, a = some ⟨b, off, none⟩ ∧ ∀ j (h : j < os.length), w.cell? ⟨b, off + j * 2, none⟩ = some (.int .i64 os[j].1) ∧ w.cell? ⟨b, off + j * 2 + 1, none⟩ = some (.int .i64 os[j].2))
theorem OptR.below {w w' : World} {a : Option Addr} {n : Nat} {os : List Opt} (h : OptR w a n os) (hb : Below w.heap.size w w') : OptR w' a n os := by
  refine ⟨h.1, ?_⟩
  rcases h.2 with h2 | ⟨b, off, rfl, h2⟩
  · exact .inl h2
  · refine .inr ⟨b, off, rfl, fun j hj => ?_⟩
    obtain ⟨c1, c2⟩ := h2 j hj
    exact ⟨(hb.cell (World.block_lt_of_cell? w _ c1)).trans c1, (hb.cell (World.block_lt_of_cell? w _ c2)).trans c2⟩
theorem OptR.drewN {w : World} {a : Option Addr} {n : Nat} {os : List Opt} (h : OptR w a n os) (m : Nat) : OptR (w.drewN m) a n os := h
theorem OptR.nil (w : World) (a : Option Addr) : OptR w a 0 [] := ⟨rfl, .inl rfl⟩
theorem OptR.take {w : World} {a : Option Addr} {n : Nat} {os : List Opt} (h : OptR w a n os) (k : Nat) (hk : k ≤ n) : OptR w a k (os.take k) := by
  refine ⟨by simp [h.1]; omega, ?_⟩
  rcases h.2 with h2 | ⟨b, off, rfl, h2⟩
  · exact .inl (by omega)
  · refine .inr ⟨b, off, rfl, fun j hj => ?_⟩
    have hj' : j < os.length := by simp at hj; omega
    have := h2 j hj'
    simpa using this

/-- 'append' as one step of a region that draws its order. -/
theorem step_append_row {P : Program} {ops : Array Oper} {o : Oper} {a : Act} {w : World} {K : Act → World → Prop} {Q : Exit → Act → World → Prop} {E : Prop}
    (hgd : o.guard = none) (s x : Operand) (t : TypeId) (ho : o.op = .call { callee := .builtin .append, args := #[s, x], argTypes := #[t, t] })
    (e : TypeId) (i : TypeInfo) (z : Value) (size bytes : Nat) (ht : P.underlying t = some (.slice e)) (hi : P.info? e = some i) (hz : i.zero = some z)
    (hsize : i.size = size) (hby : i.bytes = bytes) (hzs : z.cells.size = size) (hsz : 0 < size)
    (v : Value) (n : Nat) (xs : List Value) (hs : a.eval s = v) (hown : Row w size v n xs)
    (ad : Addr) (m c : Nat) (news : List Value) (hx : a.eval x = .slice (some ad) m c) (hl : news.length = m * size) (hm : 0 < m) (hnews : ∀ j u, news[j]? = some u → w.cell? (ad.add j) = some u) (h1 : ∀ u ∈ news, u.oneCell' = true)
    (h63 : n + m ≤ maxLen) (hbytes : (n + m) * bytes ≤ 140737488355328)
    (h : ∀ g' cap' w', Row w' size (.slice (some ⟨g', 0, none⟩) (n + m) cap') (n + m) (xs ++ news) → w.grownBy w' v.ownBlock → (v.ownBlock = some g' ∨ w.heap.size ≤ g') → K (a.put o.dst (.slice (some ⟨g', 0, none⟩) (n + m) cap')) w') :
    if Region.wanted o (yielded ops a.tmps) = true then Oper.wp P o a w K Q else E := by
  have hw : Region.wanted o (yielded ops a.tmps) = true := by simp [Region.wanted, hgd]
  rw [if_pos hw]
  obtain ⟨v', w', hr, h2, h3, h4⟩ := run_append_row (P := P) w t o.type e i z size bytes ht hi hz hsize hby hzs hsz v n xs hown ad m c news hl hm hnews h1 h63 hbytes
  unfold Oper.wp execOp
  simp only [ho, resolve, invoke, builtin, Sem.run_bind, Sem.run_pure, Result.andThen_ok, List.map_toArray, List.map_cons, List.map_nil, hs, hx, hr]
  rcases h2.2 with ⟨_, hn⟩ | ⟨g', cap', rfl, _⟩
  · omega
  · refine h g' cap' w' h2 h3 ?_
    rcases h4 with h4 | ⟨k, h4, hk⟩
    · exact .inl h4.symm
    · simp [Value.ownBlock] at h4
      subst h4
      exact .inr hk

def optCells (os : List Opt) : List Value := os.flatMap fun o => [.int .i64 o.1, .int .i64 o.2]
theorem optCells_snoc (os : List Opt) (o : Opt) : optCells (os ++ [o]) = optCells os ++ [.int .i64 o.1, .int .i64 o.2] := by simp [optCells]
theorem optCells_length (os : List Opt) : (optCells os).length = 2 * os.length := by
  induction os with
  | nil => rfl
  | cons o r ih => simp only [optCells, List.flatMap_cons, List.length_append, List.length_cons, List.length_nil] at ih ⊢; omega
theorem optCells_get : ∀ (os : List Opt) (j : Nat) (h : j < os.length), (optCells os)[j * 2]? = some (.int .i64 os[j].1) ∧ (optCells os)[j * 2 + 1]? = some (.int .i64 os[j].2)
  | o :: r, 0, _ => by simp [optCells]
  | o :: r, j + 1, h => by
    have ih := optCells_get r j (by simpa using h)
    have e1 : optCells (o :: r) = .int .i64 o.1 :: .int .i64 o.2 :: optCells r := by simp [optCells]
    rw [e1, show (j + 1) * 2 = j * 2 + 1 + 1 by omega]
    exact ih
theorem Row.opts {w : World} {ao : Option Addr} {k cp : Nat} {os : List Opt} (h : Row w 2 (.slice ao k cp) k (optCells os)) : OptR w ao k os := by
  have hl : os.length = k := by have := h.1; rw [optCells_length] at this; omega
  refine ⟨hl, ?_⟩
  rcases h.2 with ⟨_, hn⟩ | ⟨g, cap, he, _, _, _, hc, _⟩
  · exact .inl hn
  · have e1 : ao = some ⟨g, 0, none⟩ := by simp at he; exact he.1
    refine .inr ⟨g, 0, e1, fun j hj => ?_⟩
    obtain ⟨h1, h2⟩ := optCells_get os j hj
    rw [Nat.zero_add]
    exact ⟨hc _ _ h1, hc _ _ h2⟩
theorem Row.cap_le {w : World} {sz : Nat} {ao : Option Addr} {k cp : Nat} {xs : List Value} (h : Row w sz (.slice ao k cp) k xs) : k ≤ cp := by
  rcases h.2 with ⟨he, hn⟩ | ⟨g, cap, he, _, hnc, _⟩
  · omega
  · simp at he
    omega

theorem grow_below {w x w' : World} {v : Value} (hbel : Below w.heap.size w x) (hg : x.grownBy w' v.ownBlock) (hnew : ∀ j, v.ownBlock = some j → w.heap.size ≤ j) : Below w.heap.size w w' :=
  hbel.grown hg hbel.size hnew
theorem grow_new {B n : Nat} {v : Value} {g : Nat} (hown : v.ownBlock = some g ∨ n ≤ g) (hs : B ≤ n) (hnew : ∀ j, v.ownBlock = some j → B ≤ j) : B ≤ g := by
  rcases hown with h | h
  · exact hnew g h
  · exact Nat.le_trans hs h
theorem grown_cell {x w' : World} {row : Option Nat} {b off : Nat} {u : Value} (hg : x.grownBy w' row) (hne : row ≠ some b) (hc : x.cell? ⟨b, off, none⟩ = some u) : w'.cell? ⟨b, off, none⟩ = some u :=
  (World.cell?_of_block (a := ⟨b, off, none⟩) (hg.block b (World.block_lt_of_cell? x _ hc) (fun e => hne e.symm))).trans hc
theorem own_some {g n cap j : Nat} {B : Nat} (h : B ≤ g) (hj : Value.ownBlock (.slice (some ⟨g, 0, none⟩) n cap) = some j) : B ≤ j := by
  have : g = j := by simpa [Value.ownBlock] using hj
  omega
theorem own_none {B j : Nat} (hj : Value.ownBlock (.slice none 0 0) = some j) : B ≤ j := by simp [Value.ownBlock] at hj
theorem cells_twoN (w : World) (x y : Value) (t : TypeId) (g : Nat) (hg : w.heap.size = g) : ∀ (j : Nat) (u : Value), [x, y][j]? = some u → (w.alloc (.cells #[x, y] t)).cell? ((⟨g, 0, none⟩ : Addr).add j) = some u := by
  subst hg
  exact cells_two w x y t
/-- A slice of options that the call made. -/
structure Made (w w' : World) (v : Value) (os : List Opt) : Prop where
  row : Row w' 2 v os.length (optCells os)
  new : ∀ j, v.ownBlock = some j → w.heap.size ≤ j
  below : Below w.heap.size w w'
theorem one_opts (os : List Opt) : ∀ u ∈ optCells os, u.oneCell' = true := by
  intro u hu
  simp [optCells] at hu
  obtain ⟨x, y, _, h⟩ := hu
  rcases h with rfl | rfl <;> rfl
theorem OptR.cells {w : World} {b off n : Nat} {os : List Opt} (h : OptR w (some ⟨b, off, none⟩) n os) (hn : 0 < n) : ∀ (j : Nat) (u : Value), (optCells os)[j]? = some u → w.cell? ((⟨b, off, none⟩ : Addr).add j) = some u := by
  intro j u hu
  rcases h.2 with h0 | ⟨b', off', he, hc⟩
  · omega
  · simp only [Option.some.injEq, Addr.mk.injEq] at he
    obtain ⟨rfl, rfl, _⟩ := he
    have hj : j < 2 * os.length := by have := (List.getElem?_eq_some_iff.1 hu).1; rwa [optCells_length] at this
    have hq : j / 2 < os.length := by omega
    obtain ⟨g1, g2⟩ := optCells_get os (j / 2) hq
    obtain ⟨c1, c2⟩ := hc (j / 2) hq
    rw [add_plain']
    rcases Nat.mod_two_eq_zero_or_one j with h2 | h2
    · have e : j / 2 * 2 = j := by omega
      rw [e] at g1 c1
      rw [hu] at g1
      rw [c1, g1]
    · have e : j / 2 * 2 + 1 = j := by omega
      rw [e] at g2
      rw [hu] at g2
      rw [show off + j / 2 * 2 + 1 = off + j by omega] at c2
      rw [c2, g2]
/-- A slice that is nil has no place. -/
def NilOk (a : Option Addr) (cap : Nat) : Prop := a = none → cap = 0
theorem Made.shape {w w' : World} {v : Value} {os : List Opt} (h : Made w w' v os) : ∃ a cap, v = .slice a os.length cap ∧ NilOk a cap ∧ os.length ≤ cap := by
  rcases h.row.2 with ⟨rfl, h0⟩ | ⟨g, cap, rfl, _, h1, _⟩
  · rw [h0]
    exact ⟨none, 0, rfl, fun _ => rfl, Nat.le_refl _⟩
  · exact ⟨some ⟨g, 0, none⟩, cap, rfl, fun h => by simp at h, h1⟩
theorem Made.opts {w w' : World} {a : Option Addr} {n cap : Nat} {os : List Opt} (h : Made w w' (.slice a n cap) os) : n = os.length ∧ OptR w' a n os := by
  have hn : n = os.length := by
    rcases h.row.2 with ⟨e, h0⟩ | ⟨g, cap, e, _⟩
    · simp at e; omega
    · simp at e; omega
  have hr := h.row
  rw [← hn] at hr
  exact ⟨hn, hr.opts⟩
theorem Made.from {w x w' : World} {v : Value} {os : List Opt} (h : Made x w' v os) (hb : Below w.heap.size w x) : Made w w' v os :=
  ⟨h.row, fun j hj => Nat.le_trans hb.size (h.new j hj), below_chain hb h.below⟩
theorem OptR.kept {w w' : World} {a : Option Addr} {n cap : Nat} {os : List Opt} (h : OptR w a n os) (hb : ∀ k, Value.ownBlock (.slice a n cap) = some k → w'.heap[k]? = w.heap[k]?) : OptR w' a n os := by
  refine ⟨h.1, ?_⟩
  rcases h.2 with h2 | ⟨b, off, rfl, h2⟩
  · exact .inl h2
  · refine .inr ⟨b, off, rfl, fun j hj => ?_⟩
    have e := hb b rfl
    obtain ⟨c1, c2⟩ := h2 j hj
    exact ⟨(World.cell?_of_block (a := ⟨b, off + j * 2, none⟩) e).trans c1, (World.cell?_of_block (a := ⟨b, off + j * 2 + 1, none⟩) e).trans c2⟩
/-- The block in which options lie, if there is one. -/
def optOwn (a : Option Addr) (n : Nat) : Option Nat := if n = 0 then none else a.map (·.block)
theorem optOwn_own {a : Option Addr} {n cap k : Nat} (h : optOwn a n = some k) : Value.ownBlock (.slice a n cap) = some k := by
  unfold optOwn at h
  split at h
  · cases h
  · cases a with
    | none => cases h
    | some x => simpa [Value.ownBlock] using h
theorem OptR.keptO {w w' : World} {a : Option Addr} {n : Nat} {os : List Opt} (h : OptR w a n os) (hb : ∀ k, optOwn a n = some k → w'.heap[k]? = w.heap[k]?) : OptR w' a n os := by
  by_cases h0 : n = 0
  · exact ⟨h.1, .inl h0⟩
  · refine h.kept (cap := 0) (fun k hk => hb k ?_)
    unfold optOwn
    rw [if_neg h0]
    cases a with
    | none => cases hk
    | some x => simpa [Value.ownBlock] using hk
/-- A block of cells. -/
def Blk (w : World) (B : Nat) (C : Array Value) (t : TypeId) : Prop := w.heap[B]? = some (.cells C t (0, 0))
theorem Blk.lt {w : World} {B : Nat} {C : Array Value} {t : TypeId} (h : Blk w B C t) : B < w.heap.size := (Array.getElem?_eq_some_iff.1 h).1
theorem Blk.cell {w : World} {B : Nat} {C : Array Value} {t : TypeId} (h : Blk w B C t) (j : Nat) : w.cell? ⟨B, j, none⟩ = C[j]? := cell_of_row w B j C _ (0, 0) h
theorem Blk.frozen {w : World} {B : Nat} {C : Array Value} {t : TypeId} (h : Blk w B C t) (j : Nat) : w.frozen? ⟨B, j, none⟩ = false := frozen_of_row w B j C _ h
theorem Blk.set {w : World} {B : Nat} {C : Array Value} {t : TypeId} (h : Blk w B C t) (j : Nat) (x : Value) : Blk (w.setCell ⟨B, j, none⟩ x) B (C.setIfInBounds j x) t := by
  unfold Blk
  rw [setCell_eq_setRow w B j C _ (0, 0) x h]
  exact setRow_heap w B C _ _ (0, 0) h
theorem Blk.other {w : World} {B B' j : Nat} {C : Array Value} {t : TypeId} (h : Blk w B C t) (hne : B ≠ B') (x : Value) : Blk (w.setCell ⟨B', j, none⟩ x) B C t :=
  (Below.heap_setCell _ _ _ B hne).trans h
theorem Blk.keep {w w' : World} {B : Nat} {C : Array Value} {t : TypeId} (h : Blk w B C t) (hb : w'.heap[B]? = w.heap[B]?) : Blk w' B C t := hb.trans h
theorem Blk.below {w w' : World} {B : Nat} {C : Array Value} {t : TypeId} (h : Blk w B C t) (hb : Below w.heap.size w w') : Blk w' B C t := h.keep (hb.block B h.lt)
theorem Blk.drewN {w : World} {B : Nat} {C : Array Value} {t : TypeId} (h : Blk w B C t) (n : Nat) : Blk (w.drewN n) B C t := h
theorem Blk.new (w : World) (C : Array Value) (t : TypeId) : Blk (w.alloc (.cells C t)) w.heap.size C t := heap_alloc_new w _
theorem Blk.newN (w : World) (C : Array Value) (t : TypeId) (g : Nat) (hg : w.heap.size = g) : Blk (w.alloc (.cells C t)) g C t := by subst hg; exact Blk.new w C t
theorem below_drew {w a : World} {B : Nat} (h : Below B w a) : Below B w a.drew := ⟨h.os, h.tape, h.output, h.size, h.block⟩
theorem byte_get (s : ByteArray) (k : Nat) (h : k < s.size) : s.data.toList.getD k 0 = s[k] := by
  have h' : k < s.data.toList.length := by simpa using h
  rw [List.getD_eq_getElem?_getD, List.getElem?_eq_getElem h']
  rfl
theorem grownBy_setC {a w : World} {b : Nat} (h : a.grownBy w (some b)) (j : Nat) (v : Value) : a.grownBy (w.setCell ⟨b, j, none⟩ v) (some b) := by
  have b1 : Below 0 w (w.setCell ⟨b, j, none⟩ v) := (Below.refl 0 w).setCell (Nat.zero_le _) _
  exact ⟨b1.os.trans h.os, b1.tape.trans h.tape, b1.output.trans h.output, Nat.le_trans h.size b1.size, fun i hi hne => (Below.heap_setCell _ _ _ i (fun e => hne (by rw [e]))).trans (h.block i hi hne)⟩
theorem drewN_drewN (w : World) (a b : Nat) : (w.drewN a).drewN b = w.drewN (a + b) := by go_simp
end Go.Proofs.YtgfjgenkpfdofaaDoor
