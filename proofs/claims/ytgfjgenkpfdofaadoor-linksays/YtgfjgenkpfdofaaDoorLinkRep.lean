/-
  One end of a link, with what it said: how it lies in memory; say.
-/
import Derived.Test.YtgfjgenkpfdofaaDoorLinkWalk
import Derived.Test.YtgfjgenkpfdofaaDoorPolicyWalk2
namespace Go.Proofs.YtgfjgenkpfdofaaDoor
open Go.RowKit

/-- A packet as it lies in a slot. -/
structure PV where
  code : Int
  id : Int
  a : Option Addr
  n : Nat
  cap : Nat
  os : List Opt
def PV.val (p : PV) : Value := .slice p.a p.n p.cap
def PV.cells (p : PV) : List Value := [.int .i64 p.code, .int .i64 p.id, p.val]
def PV.agg (p : PV) : Value := .agg #[.int .i64 p.code, .int .i64 p.id, p.val]
def pvC (ps : List PV) : List Value := ps.flatMap PV.cells
theorem pvC_snoc (ps : List PV) (p : PV) : pvC (ps ++ [p]) = pvC ps ++ [.int .i64 p.code, .int .i64 p.id, p.val] := by simp [pvC, PV.cells]
/-- Its options stand, in a block that is neither the end's own nor its list's. -/
structure PvOk (w : World) (X : Nat → Prop) (v : Value) (p : PV) : Prop where
  opt : OptR w p.a p.n p.os
  nil : NilOk p.a p.cap
  le : p.n ≤ p.cap
  few : p.n ≤ 1000
  far : ∀ k, optOwn p.a p.n = some k → ¬ X k ∧ v.ownBlock ≠ some k ∧ k < w.heap.size
/-- An end's cells but for its list. -/
structure LS where
  fs : Int
  fm : Int
  ns : Int
  nm : Int
  qs : Int
  qm : Int
  st : Int
  sz : Int
  lf : Int
  wt : Int
  ow : Int
def LS.c (s : LS) (v : Value) : Array Value := lkC s.fs s.fm s.ns s.nm s.qs s.qm s.st s.sz s.lf s.wt s.ow v
structure Rep (w : World) (B : Nat) (X : Nat → Prop) (s : LS) (v : Value) (ps : List PV) : Prop where
  lk : Lk w B (s.c v)
  row : Row w 3 v ps.length (pvC ps)
  own : ∀ g, v.ownBlock = some g → ¬ X g
  self : X B
  old : ∀ k, X k → k < w.heap.size
  pk : ∀ p ∈ ps, PvOk w X v p
/-- Nothing that was there has turned but block B and block o. -/
structure Kept (w w' : World) (B : Nat) (o : Option Nat) : Prop where
  os : w'.os = w.os
  tape : w'.tape = w.tape
  output : w'.output = w.output
  size : w.heap.size ≤ w'.heap.size
  block : ∀ i, i < w.heap.size → i ≠ B → o ≠ some i → w'.heap[i]? = w.heap[i]?
theorem Kept.refl (w : World) (B : Nat) (o : Option Nat) : Kept w w B o := ⟨rfl, rfl, rfl, Nat.le_refl _, fun _ _ _ _ => rfl⟩
theorem Kept.of_below {w w' : World} (B : Nat) (o : Option Nat) (h : Below w.heap.size w w') : Kept w w' B o := ⟨h.os, h.tape, h.output, h.size, fun i hi _ _ => h.block i hi⟩
theorem Kept.trans {a b c : World} {B : Nat} {o o' : Option Nat} (h : Kept a b B o) (k : Kept b c B o') (hoo : ∀ i, o' = some i → o = some i ∨ a.heap.size ≤ i) : Kept a c B o :=
  ⟨k.os.trans h.os, k.tape.trans h.tape, k.output.trans h.output, Nat.le_trans h.size k.size, fun i hi hne ho => by
    rw [k.block i (Nat.lt_of_lt_of_le hi h.size) hne (fun e => by
      rcases hoo i e with e1 | e1
      · exact ho e1
      · omega)]
    exact h.block i hi hne ho⟩
theorem Kept.below {w a b : World} {B : Nat} {o : Option Nat} (h : Below w.heap.size w a) (k : Kept a b B o) (hB : w.heap.size ≤ B) (ho : ∀ i, o = some i → w.heap.size ≤ i) : Below w.heap.size w b :=
  ⟨k.os.trans h.os, k.tape.trans h.tape, k.output.trans h.output, Nat.le_trans h.size k.size, fun i hi => by
    rw [k.block i (Nat.lt_of_lt_of_le hi h.size) (by omega) (fun e => by have := ho i e; omega)]
    exact h.block i hi⟩
/-- A packet is kept where the end's block and its list's alone have turned; the list may lie elsewhere now. -/
theorem PvOk.kept {w w' : World} {B : Nat} {X : Nat → Prop} {v v' : Value} {p : PV} (h : PvOk w X v p) (hX : X B) (k : Kept w w' B v.ownBlock) (hv : ∀ g, v'.ownBlock = some g → v.ownBlock = some g ∨ w.heap.size ≤ g) : PvOk w' X v' p :=
  ⟨h.opt.keptO (fun j hj => by obtain ⟨a1, a2, a3⟩ := h.far j hj; exact k.block j a3 (fun e => a1 (by rw [e]; exact hX)) a2), h.nil, h.le, h.few, fun j hj => by
    obtain ⟨a1, a2, a3⟩ := h.far j hj
    refine ⟨a1, fun e => ?_, Nat.lt_of_lt_of_le a3 k.size⟩
    rcases hv j e with e1 | e1
    · exact a2 e1
    · omega⟩
theorem Rep.below {w w' : World} {B : Nat} {X : Nat → Prop} {s : LS} {v : Value} {ps : List PV} (h : Rep w B X s v ps) (hb : Below w.heap.size w w') : Rep w' B X s v ps :=
  ⟨h.lk.below hb, h.row.below hb, h.own, h.self, fun k hk => Nat.lt_of_lt_of_le (h.old k hk) hb.size, fun p hp => (h.pk p hp).kept h.self (Kept.of_below B _ hb) (fun _ e => .inl e)⟩
theorem Rep.ne {w : World} {B : Nat} {X : Nat → Prop} {s : LS} {v : Value} {ps : List PV} (h : Rep w B X s v ps) : v.ownBlock ≠ some B := fun e => h.own B e h.self

theorem lk_far2 {w x : World} {o : Obj} {B : Nat} {C : Array Value} {v : Value} (h : Lk w B C) (hg : (w.alloc o).drew.grownBy x v.ownBlock) (hv : v.ownBlock ≠ some B) : Lk x B C := by
  refine h.keep ?_
  rw [hg.block B (by show B < (w.alloc o).heap.size; have := h.lt; simp; omega) (fun e => hv e.symm)]
  exact Below.heap_alloc w o B h.lt
theorem kept_grow {w x : World} {o : Obj} {B : Nat} {v : Value} (hg : (w.alloc o).drew.grownBy x v.ownBlock) : Kept w x B v.ownBlock :=
  ⟨hg.os, hg.tape, hg.output, Nat.le_trans (by show w.heap.size ≤ (w.alloc o).heap.size; simp) hg.size, fun i hi _ ho => by
    rw [hg.block i (by show i < (w.alloc o).heap.size; simp; omega) (fun e => ho e.symm)]
    exact Below.heap_alloc w o i hi⟩
theorem kept_set {w x : World} {B : Nat} {o : Option Nat} (h : Kept w x B o) (j : Nat) (v : Value) : Kept w (x.setCell ⟨B, j, none⟩ v) B o := by
  have b1 : Below 0 x (x.setCell ⟨B, j, none⟩ v) := (Below.refl 0 x).setCell (Nat.zero_le _) _
  exact ⟨b1.os.trans h.os, b1.tape.trans h.tape, b1.output.trans h.output, Nat.le_trans h.size b1.size, fun i hi hne ho => (Below.heap_setCell _ _ _ i hne).trans (h.block i hi hne ho)⟩

set_option maxRecDepth 100000 in
set_option maxHeartbeats 4000000 in
theorem say_any (B : Nat) (X : Nat → Prop) (s : LS) (v : Value) (ps : List PV) (p : PV) (w : World) (h : Rep w B X s v ps) (hp : PvOk w X v p) (hn : ps.length ≤ 100) :
    Calls Tryd.prog 44 #[.pointer (some ⟨B, 0, none⟩), .agg #[.int .i64 p.code, .int .i64 p.id, .slice p.a p.n p.cap]] w fun e w' => e = .returned (.tuple #[]) ∧ ∃ v', Rep w' B X s v' (ps ++ [p]) ∧ Kept w w' B v.ownBlock ∧ (∀ g, v'.ownBlock = some g → v.ownBlock = some g ∨ w.heap.size ≤ g) := by
  obtain ⟨i0, hi, hz0, hz1, hz2⟩ := info_parts infoPack
  have hbx := below_alloc w (.cells #[.int .i64 p.code, .int .i64 p.id, .slice p.a p.n p.cap] 36)
  have h1 := h.below hbx
  have hA := fun j => World.cell?_alloc_mark w #[.int .i64 p.code, .int .i64 p.id, .slice p.a p.n p.cap] 36 (0, 0) j
  obtain ⟨C, hC⟩ : ∃ C, s.c = C := ⟨_, rfl⟩
  have hcl : ∀ x, (C x)[11]? = some x := by rw [← hC]; intro x; rfl
  have hcs : ∀ x y, (C x).setIfInBounds 11 y = C y := by rw [← hC]; intro x y; rfl
  have hlk := h1.lk
  rw [hC] at hlk
  have hrow := h1.row
  obtain ⟨nn, hnn⟩ : ∃ nn, ps.length = nn := ⟨_, rfl⟩
  rw [hnn] at hrow hn
  go_enter Tryd.func44, Tryd.ntmps44
  go_wp2_with (fail)
  obtain ⟨Z, hZ⟩ : ∃ Z, w.heap.size = Z := ⟨_, rfl⟩
  obtain ⟨W0, hW0⟩ : ∃ W0, w.alloc (.cells #[.int .i64 p.code, .int .i64 p.id, .slice p.a p.n p.cap] 36) = W0 := ⟨_, rfl⟩
  have d0 : W0.cell? ⟨Z, 0, none⟩ = some (.int .i64 p.code) := by rw [← hW0, ← hZ]; exact hA 0
  have d1 : W0.cell? ⟨Z, 1, none⟩ = some (.int .i64 p.id) := by rw [← hW0, ← hZ]; exact hA 1
  have d2 : W0.cell? ⟨Z, 2, none⟩ = some (.slice p.a p.n p.cap) := by rw [← hW0, ← hZ]; exact hA 2
  rw [hW0] at h1 hbx hlk hrow
  rw [hW0, hZ]
  have hlB : B < W0.heap.size := hlk.lt
  have hlZ : Z < W0.heap.size := World.block_lt_of_cell? W0 _ d0
  have c11 : W0.cell? ⟨B, 11, none⟩ = some v := (hlk.cell 11).trans (hcl v)
  have HB : Hid (Below w.heap.size w W0) := hbx
  have HR : Hid (Rep w B X s v ps) := h
  have HP : Hid (PvOk w X v p) := hp
  have HO : Hid (v.ownBlock ≠ some B) := h.ne
  have HZ : Hid (w.heap.size = Z) := hZ
  have HC : Hid (s.c = C) := hC
  have HN : Hid (ps.length = nn) := hnn
  have HL : Hid (∀ x y, (C x).setIfInBounds 11 y = C y) := hcs
  have HK : Hid (∀ x, (C x)[11]? = some x) := hcl
  clear hA hW0 hZ h hbx hp h1 hC hnn hcs hcl
  go_region_law ((refine step_append_row (by rfl) (.tmp 8) (.tmp 10) 46 (by rfl) 36 i0 (.agg #[.int .i64 0, .int .i64 0, .slice none 0 0]) 3 40 Tryd.underlying46 hi hz0 hz1 hz2 (by rfl) (by decide) v nn (pvC ps) (by rfl) ((hrow.alloc _).drew) _ 1 1 [.int .i64 p.code, .int .i64 p.id, .slice p.a p.n p.cap] (by rfl) (by rfl) (by decide) (cells_threeD _ _ _ _ _ _ rfl) (one_pack _ _ _ _ _) (by unfold maxLen; omega) (by omega) ?_; intro g' cap' x1 hr1 hg1 hown1; have e11 := lk_far2 hlk hg1 HO.out; have f11 := e11.frozen 11; have g11 : x1.cell? ⟨B, 11, none⟩ = some v := (e11.cell 11).trans (HK.out v)))
  all_goals
    go_wp2_with (fail)
    first | go_end0 | refine bodyPost_ret (results_none rfl _ _ _) rfl ?_
    have hgs : g' ≠ B := by
      rcases hown1 with hh | hh
      · exact fun e => HO.out (by rw [hh, e])
      · have := hlk.lt
        have h2 : W0.heap.size ≤ g' := Nat.le_trans (by show W0.heap.size ≤ (W0.alloc _).heap.size; simp) hh
        omega
    have hK := kept_set ((Kept.of_below B v.ownBlock HB.out).trans (kept_grow (B := B) hg1) (fun i e => .inl e)) 11 (.slice (some ⟨g', 0, none⟩) (nn + 1) cap')
    have hv : ∀ g, Value.ownBlock (.slice (some ⟨g', 0, none⟩) (nn + 1) cap') = some g → v.ownBlock = some g ∨ w.heap.size ≤ g := by
      intro g hg
      have hgg : g' = g := by simpa [Value.ownBlock] using hg
      subst hgg
      rcases hown1 with hh | hh
      · exact .inl hh
      · right
        have h2 : W0.heap.size ≤ g' := Nat.le_trans (by show W0.heap.size ≤ (W0.alloc _).heap.size; simp) hh
        have := HB.out.size
        omega
    refine ⟨rfl, .slice (some ⟨g', 0, none⟩) (nn + 1) cap', ⟨?_, ?_, ?_, HR.out.self, fun k hk => Nat.lt_of_lt_of_le (HR.out.old k hk) hK.size, ?_⟩, hK, hv⟩
    · have := e11.set 11 (.slice (some ⟨g', 0, none⟩) (nn + 1) cap')
      rw [HL.out] at this
      rw [HC.out]
      exact this
    · rw [pvC_snoc, List.length_append, HN.out]
      refine hr1.keep (by simp) (fun k hk => ?_)
      have hkk : g' = k := by simpa [Value.ownBlock] using hk
      exact Below.heap_setCell _ _ _ k (by show k ≠ B; omega)
    · intro g hg hx
      rcases hv g hg with e | e
      · exact HR.out.own g e hx
      · have := HR.out.old g hx; omega
    · intro q hq
      rcases List.mem_append.1 hq with hq | hq
      · exact (HR.out.pk q hq).kept HR.out.self hK hv
      · have : q = p := by simpa using hq
        subst this
        exact HP.out.kept HR.out.self hK hv
end Go.Proofs.YtgfjgenkpfdofaaDoor
