/-
  LinkRep LinkAct LinkAct2 LinkSame
-/
import Derived.Test.YtieklnlbljejdaaGreatDoorG00
import Derived.Test.YtieklnlbljejdaaGreatDoorG01
import Derived.Test.YtieklnlbljejdaaGreatDoorG02
import Derived.Test.YtieklnlbljejdaaGreatDoorG03
namespace Go.Proofs.YtieklnlbljejdaaGreatDoor
open Go.RowKit
structure PV where
 code : Int
 id : Int
 a : Option Addr
 n : Nat
 cap : Nat
 os : List Opt
def PV.val (p : PV) : Value := .slice p.a p.n p.cap
def PV.cells (p : PV) : List Value := [.int .i64 p.code, .int .i64 p.id, p.val]
def pvC (ps : List PV) : List Value := ps.flatMap PV.cells
theorem pvC_snoc (ps : List PV) (p : PV) : pvC (ps ++ [p]) = pvC ps ++ [.int .i64 p.code, .int .i64 p.id, p.val] := by simp [pvC, PV.cells]
structure PvOk (w : World) (X : Nat → Prop) (v : Value) (p : PV) : Prop where
 opt : OptR w p.a p.n p.os
 nil : NilOk p.a p.cap
 le : p.n ≤ p.cap
 few : p.n ≤ 1000
 far : ∀ k, optOwn p.a p.n = some k → ¬ X k ∧ v.ownBlock ≠ some k ∧ k < w.heap.size
structure LS where
 fs : Int
 fm : Int
 ns : Int
 nm : Int
 qs : Int
 qm : Int
 st : Int
 sz : Int
 lf : Int
 wt : Int
 ow : Int
def LS.c (s : LS) (v : Value) : Array Value := lkC s.fs s.fm s.ns s.nm s.qs s.qm s.st s.sz s.lf s.wt s.ow v
structure Rep (w : World) (B : Nat) (X : Nat → Prop) (s : LS) (v : Value) (ps : List PV) : Prop where
 lk : Lk w B (s.c v)
 row : Row w 3 v ps.length (pvC ps)
 own : ∀ g, v.ownBlock = some g → ¬ X g
 self : X B
 old : ∀ k, X k → k < w.heap.size
 pk : ∀ p ∈ ps, PvOk w X v p
structure Kept (w w' : World) (B : Nat) (o : Option Nat) : Prop where
 os : w'.os = w.os
 tape : w'.tape = w.tape
 output : w'.output = w.output
 size : w.heap.size ≤ w'.heap.size
 block : ∀ i, i < w.heap.size → i ≠ B → o ≠ some i → w'.heap[i]? = w.heap[i]?
theorem Kept.refl (w : World) (B : Nat) (o : Option Nat) : Kept w w B o := ⟨rfl, rfl, rfl, Nat.le_refl _, fun _ _ _ _ => rfl⟩
theorem Kept.of_below {w w' : World} (B : Nat) (o : Option Nat) (h : Below w.heap.size w w') : Kept w w' B o := ⟨h.os, h.tape, h.output, h.size, fun i hi _ _ => h.block i hi⟩
theorem Kept.trans {a b c : World} {B : Nat} {o o' : Option Nat} (h : Kept a b B o) (k : Kept b c B o') (hoo : ∀ i, o' = some i → o = some i ∨ a.heap.size ≤ i) : Kept a c B o :=
 ⟨k.os.trans h.os, k.tape.trans h.tape, k.output.trans h.output, Nat.le_trans h.size k.size, fun i hi hne ho => by
  rw [k.block i (Nat.lt_of_lt_of_le hi h.size) hne (fun e => by
   rcases hoo i e with e1 | e1
   · exact ho e1
   · omega)]
  exact h.block i hi hne ho⟩
theorem PvOk.kept {w w' : World} {B : Nat} {X : Nat → Prop} {v v' : Value} {p : PV} (h : PvOk w X v p) (hX : X B) (k : Kept w w' B v.ownBlock) (hv : ∀ g, v'.ownBlock = some g → v.ownBlock = some g ∨ w.heap.size ≤ g) : PvOk w' X v' p :=
 ⟨h.opt.keptO (fun j hj => by obtain ⟨a1, a2, a3⟩ := h.far j hj; exact k.block j a3 (fun e => a1 (by rw [e]; exact hX)) a2), h.nil, h.le, h.few, fun j hj => by
  obtain ⟨a1, a2, a3⟩ := h.far j hj
  refine ⟨a1, fun e => ?_, Nat.lt_of_lt_of_le a3 k.size⟩
  rcases hv j e with e1 | e1
  · exact a2 e1
  · omega⟩
theorem Rep.below {w w' : World} {B : Nat} {X : Nat → Prop} {s : LS} {v : Value} {ps : List PV} (h : Rep w B X s v ps) (hb : Below w.heap.size w w') : Rep w' B X s v ps :=
 ⟨h.lk.below hb, h.row.below hb, h.own, h.self, fun k hk => Nat.lt_of_lt_of_le (h.old k hk) hb.size, fun p hp => (h.pk p hp).kept h.self (Kept.of_below B _ hb) (fun _ e => .inl e)⟩
theorem Rep.ne {w : World} {B : Nat} {X : Nat → Prop} {s : LS} {v : Value} {ps : List PV} (h : Rep w B X s v ps) : v.ownBlock ≠ some B := fun e => h.own B e h.self
theorem lk_far2 {w x : World} {o : Obj} {B : Nat} {C : Array Value} {v : Value} (h : Lk w B C) (hg : (w.alloc o).drew.grownBy x v.ownBlock) (hv : v.ownBlock ≠ some B) : Lk x B C := by
 refine h.keep ?_
 rw [hg.block B (by show B < (w.alloc o).heap.size; have := h.lt; simp; omega) (fun e => hv e.symm)]
 exact Below.heap_alloc w o B h.lt
theorem kept_grow {w x : World} {o : Obj} {B : Nat} {v : Value} (hg : (w.alloc o).drew.grownBy x v.ownBlock) : Kept w x B v.ownBlock :=
 ⟨hg.os, hg.tape, hg.output, Nat.le_trans (by show w.heap.size ≤ (w.alloc o).heap.size; simp) hg.size, fun i hi _ ho => by
  rw [hg.block i (by show i < (w.alloc o).heap.size; simp; omega) (fun e => ho e.symm)]
  exact Below.heap_alloc w o i hi⟩
theorem kept_set {w x : World} {B : Nat} {o : Option Nat} (h : Kept w x B o) (j : Nat) (v : Value) : Kept w (x.setCell ⟨B, j, none⟩ v) B o := by
 have b1 : Below 0 x (x.setCell ⟨B, j, none⟩ v) := (Below.refl 0 x).setCell (Nat.zero_le _) _
 exact ⟨b1.os.trans h.os, b1.tape.trans h.tape, b1.output.trans h.output, Nat.le_trans h.size b1.size, fun i hi hne ho => (Below.heap_setCell _ _ _ i hne).trans (h.block i hi hne ho)⟩
set_option maxRecDepth 100000 in
set_option maxHeartbeats 4000000 in
theorem say_any (B : Nat) (X : Nat → Prop) (s : LS) (v : Value) (ps : List PV) (p : PV) (w : World) (h : Rep w B X s v ps) (hp : PvOk w X v p) (hn : ps.length ≤ 100) :
 Calls Tryz.prog 225 #[.pointer (some ⟨B, 0, none⟩), .agg #[.int .i64 p.code, .int .i64 p.id, .slice p.a p.n p.cap]] w fun e w' => e = .returned (.tuple #[]) ∧ ∃ v', Rep w' B X s v' (ps ++ [p]) ∧ Kept w w' B v.ownBlock ∧ (∀ g, v'.ownBlock = some g → v.ownBlock = some g ∨ w.heap.size ≤ g) := by
 obtain ⟨i0, hi, hz0, hz1, hz2⟩ := info_parts infoPack
 have hbx := below_alloc w (.cells #[.int .i64 p.code, .int .i64 p.id, .slice p.a p.n p.cap] 37)
 have h1 := h.below hbx
 have hA := fun j => World.cell?_alloc_mark w #[.int .i64 p.code, .int .i64 p.id, .slice p.a p.n p.cap] 37 (0, 0) j
 obtain ⟨C, hC⟩ : ∃ C, s.c = C := ⟨_, rfl⟩
 have hcl : ∀ x, (C x)[11]? = some x := by rw [← hC]; intro x; rfl
 have hcs : ∀ x y, (C x).setIfInBounds 11 y = C y := by rw [← hC]; intro x y; rfl
 have hlk := h1.lk
 rw [hC] at hlk
 have hrow := h1.row
 obtain ⟨nn, hnn⟩ : ∃ nn, ps.length = nn := ⟨_, rfl⟩
 rw [hnn] at hrow hn
 go_enter Tryz.func225, Tryz.ntmps225
 go_wp2_with (fail)
 obtain ⟨Z, hZ⟩ : ∃ Z, w.heap.size = Z := ⟨_, rfl⟩
 obtain ⟨W0, hW0⟩ : ∃ W0, w.alloc (.cells #[.int .i64 p.code, .int .i64 p.id, .slice p.a p.n p.cap] 37) = W0 := ⟨_, rfl⟩
 have d0 : W0.cell? ⟨Z, 0, none⟩ = some (.int .i64 p.code) := by rw [← hW0, ← hZ]; exact hA 0
 have d1 : W0.cell? ⟨Z, 1, none⟩ = some (.int .i64 p.id) := by rw [← hW0, ← hZ]; exact hA 1
 have d2 : W0.cell? ⟨Z, 2, none⟩ = some (.slice p.a p.n p.cap) := by rw [← hW0, ← hZ]; exact hA 2
 rw [hW0] at h1 hbx hlk hrow
 rw [hW0, hZ]
 have hlB : B < W0.heap.size := hlk.lt
 have hlZ : Z < W0.heap.size := World.block_lt_of_cell? W0 _ d0
 have c11 : W0.cell? ⟨B, 11, none⟩ = some v := (hlk.cell 11).trans (hcl v)
 have HB : Hid (Below w.heap.size w W0) := hbx
 have HR : Hid (Rep w B X s v ps) := h
 have HP : Hid (PvOk w X v p) := hp
 have HO : Hid (v.ownBlock ≠ some B) := h.ne
 have HZ : Hid (w.heap.size = Z) := hZ
 have HC : Hid (s.c = C) := hC
 have HN : Hid (ps.length = nn) := hnn
 have HL : Hid (∀ x y, (C x).setIfInBounds 11 y = C y) := hcs
 have HK : Hid (∀ x, (C x)[11]? = some x) := hcl
 clear hA hW0 hZ h hbx hp h1 hC hnn hcs hcl
 go_region_law ((refine step_append_row (by rfl) (.tmp 8) (.tmp 10) 175 (by rfl) 37 i0 (.agg #[.int .i64 0, .int .i64 0, .slice none 0 0]) 3 40 Tryz.underlying175 hi hz0 hz1 hz2 (by rfl) (by decide) v nn (pvC ps) (by rfl) ((hrow.alloc _).drew) _ 1 1 [.int .i64 p.code, .int .i64 p.id, .slice p.a p.n p.cap] (by rfl) (by rfl) (by decide) (cells_threeD _ _ _ _ _ _ rfl) (one_pack _ _ _ _ _) (by unfold maxLen; omega) (by omega) ?_; intro g' cap' x1 hr1 hg1 hown1; have e11 := lk_far2 hlk hg1 HO.out; have f11 := e11.frozen 11; have g11 : x1.cell? ⟨B, 11, none⟩ = some v := (e11.cell 11).trans (HK.out v)))
 all_goals
  go_wp2_with (fail)
  first | go_end0 | refine bodyPost_ret (results_none rfl _ _ _) rfl ?_
  have hgs : g' ≠ B := by
   rcases hown1 with hh | hh
   · exact fun e => HO.out (by rw [hh, e])
   · have := hlk.lt
     have h2 : W0.heap.size ≤ g' := Nat.le_trans (by show W0.heap.size ≤ (W0.alloc _).heap.size; simp) hh
     omega
  have hK := kept_set ((Kept.of_below B v.ownBlock HB.out).trans (kept_grow (B := B) hg1) (fun i e => .inl e)) 11 (.slice (some ⟨g', 0, none⟩) (nn + 1) cap')
  have hv : ∀ g, Value.ownBlock (.slice (some ⟨g', 0, none⟩) (nn + 1) cap') = some g → v.ownBlock = some g ∨ w.heap.size ≤ g := by
   intro g hg
   have hgg : g' = g := by simpa [Value.ownBlock] using hg
   subst hgg
   rcases hown1 with hh | hh
   · exact .inl hh
   · right
     have h2 : W0.heap.size ≤ g' := Nat.le_trans (by show W0.heap.size ≤ (W0.alloc _).heap.size; simp) hh
     have := HB.out.size
     omega
  refine ⟨rfl, .slice (some ⟨g', 0, none⟩) (nn + 1) cap', ⟨?_, ?_, ?_, HR.out.self, fun k hk => Nat.lt_of_lt_of_le (HR.out.old k hk) hK.size, ?_⟩, hK, hv⟩
  · have := e11.set 11 (.slice (some ⟨g', 0, none⟩) (nn + 1) cap')
    rw [HL.out] at this
    rw [HC.out]
    exact this
  · rw [pvC_snoc, List.length_append, HN.out]
    refine hr1.keep (by simp) (fun k hk => ?_)
    have hkk : g' = k := by simpa [Value.ownBlock] using hk
    exact Below.heap_setCell _ _ _ k (by show k ≠ B; omega)
  · intro g hg hx
    rcases hv g hg with e | e
    · exact HR.out.own g e hx
    · have := HR.out.old g hx; omega
  · intro q hq
    rcases List.mem_append.1 hq with hq | hq
    · exact (HR.out.pk q hq).kept HR.out.self hK hv
    · have : q = p := by simpa using hq
      subst this
      exact HP.out.kept HR.out.self hK hv
end Go.Proofs.YtieklnlbljejdaaGreatDoor

namespace Go.Proofs.YtieklnlbljejdaaGreatDoor
open Go.RowKit
abbrev APkt := Int × Int × List Opt
def PV.abs (p : PV) : APkt := (p.code, p.id, p.os)
def LS.asked (s : LS) : LS := { s with lf := s.lf - 1, wt := 3, ow := (s.ow + 1) % 256 }
def actS (c : UInt8) (s : LS) : LS :=
 if c = 105 then { s with lf := 4 } else if c = 122 then { s with lf := 0, wt := 3 } else if c = 114 then ({ s with qs := s.ns, qm := s.nm } : LS).asked else if c = 116 then s.asked else s
def actO (c : UInt8) (s : LS) (ans : APkt) : List APkt :=
 if c = 114 then [(1, (s.ow + 1) % 256, asksL s.ns s.nm)] else if c = 116 then [(5, (s.ow + 1) % 256, [])] else if c = 97 ∨ c = 110 then [ans] else if c = 107 then [(6, ans.2.1, [])] else []
def runS : List UInt8 → LS → LS
 | [], s => s
 | c :: r, s => runS r (actS c s)
def runO : List UInt8 → LS → APkt → List APkt
 | [], _, _ => []
 | c :: r, s, ans => actO c s ans ++ runO r (actS c s) ans
structure Bd (s : LS) (n : Int) : Prop where
 o1 : 0 ≤ s.ow
 o2 : s.ow ≤ 255
 l1 : -n ≤ s.lf
 l2 : s.lf ≤ n
theorem Bd.act {s : LS} {n : Int} (h : Bd s n) (hn : 4 ≤ n) (c : UInt8) : Bd (actS c s) (n + 1) := by
 obtain ⟨a, b, d, e⟩ := h
 unfold actS
 split
 · exact ⟨a, b, by simp; omega, by simp; omega⟩
 · split
   · exact ⟨a, b, by simp; omega, by simp; omega⟩
   · split
     · exact ⟨by simp [LS.asked]; omega, by simp [LS.asked]; omega, by simp [LS.asked]; omega, by simp [LS.asked]; omega⟩
     · split
       · exact ⟨by simp [LS.asked]; omega, by simp [LS.asked]; omega, by simp [LS.asked]; omega, by simp [LS.asked]; omega⟩
       · exact ⟨a, b, by omega, by omega⟩
structure Went (w w' : World) (B : Nat) (X : Nat → Prop) (s' : LS) (v : Value) (ps : List PV) (out : List APkt) : Prop where
 more : ∃ v' qs, Rep w' B X s' v' (ps ++ qs) ∧ qs.map PV.abs = out ∧ (∀ g, v'.ownBlock = some g → v.ownBlock = some g ∨ w.heap.size ≤ g)
 kept : Kept w w' B v.ownBlock
theorem Rep.setC {w : World} {B : Nat} {X : Nat → Prop} {s : LS} {v : Value} {ps : List PV} (h : Rep w B X s v ps) (j : Nat) (x : Value) (s' : LS) (hs : (s.c v).setIfInBounds j x = s'.c v) : Rep (w.setCell ⟨B, j, none⟩ x) B X s' v ps := by
 have hk : Kept w (w.setCell ⟨B, j, none⟩ x) B v.ownBlock := kept_set (Kept.refl w B _) j x
 refine ⟨?_, h.row.keep hk.size (fun k hk2 => ?_), h.own, h.self, fun k hk3 => Nat.lt_of_lt_of_le (h.old k hk3) hk.size, fun p hp => (h.pk p hp).kept h.self hk (fun _ e => .inl e)⟩
 · have := h.lk.set j x
   rw [hs] at this
   exact this
 · exact Below.heap_setCell _ _ _ k (fun e => h.ne (by rw [hk2]; exact congrArg some e))
set_option maxRecDepth 100000 in
set_option maxHeartbeats 4000000 in
theorem ask_any (B : Nat) (X : Nat → Prop) (s : LS) (v : Value) (ps : List PV) (code : Int) (a : Option Addr) (n cap : Nat) (os : List Opt) (w : World) (h : Rep w B X s v ps) (hb : Bd s 1000) (hp : PvOk w X v ⟨code, (s.ow + 1) % 256, a, n, cap, os⟩) (hn : ps.length ≤ 100) :
 Calls Tryz.prog 223 #[.pointer (some ⟨B, 0, none⟩), .int .i64 code, .slice a n cap] w fun e w' => e = .returned (.tuple #[]) ∧ Went w w' B X s.asked v ps [(code, (s.ow + 1) % 256, os)] := by
 obtain ⟨fs, fm, ns, nm, qs, qm, st, sz, lf, wt, ow⟩ := s
 obtain ⟨o1, o2, l1, l2⟩ := hb
 simp only at o1 o2 l1 l2 hp
 have c8 : w.cell? ⟨B, 8, none⟩ = some (.int .i64 lf) := h.lk.cell 8
 have c9 : w.cell? ⟨B, 9, none⟩ = some (.int .i64 wt) := h.lk.cell 9
 have c10 : w.cell? ⟨B, 10, none⟩ = some (.int .i64 ow) := h.lk.cell 10
 have fz : ∀ j, w.frozen? ⟨B, j, none⟩ = false := h.lk.frozen
 have hl := h.lk.lt
 have h1 : Rep (((w.setCell ⟨B, 10, none⟩ (.int .i64 ((ow + 1) % 256))).setCell ⟨B, 8, none⟩ (.int .i64 (lf - 1))).setCell ⟨B, 9, none⟩ (.int .i64 3)) B X ⟨fs, fm, ns, nm, qs, qm, st, sz, lf - 1, 3, (ow + 1) % 256⟩ v ps :=
  ((h.setC 10 _ ⟨fs, fm, ns, nm, qs, qm, st, sz, lf, wt, (ow + 1) % 256⟩ rfl).setC 8 _ ⟨fs, fm, ns, nm, qs, qm, st, sz, lf - 1, wt, (ow + 1) % 256⟩ rfl).setC 9 _ _ rfl
 have hk : Kept w (((w.setCell ⟨B, 10, none⟩ (.int .i64 ((ow + 1) % 256))).setCell ⟨B, 8, none⟩ (.int .i64 (lf - 1))).setCell ⟨B, 9, none⟩ (.int .i64 3)) B v.ownBlock := kept_set (kept_set (kept_set (Kept.refl w B _) 10 _) 8 _) 9 _
 have hp1 := hp.kept h.self hk (fun _ e => .inl e)
 have HC := say_any B X _ v ps ⟨code, (ow + 1) % 256, a, n, cap, os⟩ _ h1 hp1 hn
 clear h h1 hp hp1
 go_enter Tryz.func223, Tryz.ntmps223
 go_wp2_with (fail)
 refine HC.mono ?_
 rintro e w1 ⟨rfl, v', hR, hK, hv⟩
 clear HC
 go_wp2_with (fail)
 first | go_end0 | refine bodyPost_ret (results_none rfl _ _ _) rfl ?_
 refine ⟨rfl, ⟨v', [_], hR, rfl, fun g hg => ?_⟩, hk.trans hK (fun i e => .inl e)⟩
 rcases hv g hg with e | e
 · exact .inl e
 · exact .inr (Nat.le_trans hk.size e)
end Go.Proofs.YtieklnlbljejdaaGreatDoor

namespace Go.Proofs.YtieklnlbljejdaaGreatDoor
open Go.RowKit
theorem Went.from {w x w' : World} {B : Nat} {X : Nat → Prop} {s' : LS} {v : Value} {ps : List PV} {out : List APkt} (h : Went x w' B X s' v ps out) (hk : Kept w x B v.ownBlock) : Went w w' B X s' v ps out := by
 obtain ⟨⟨v', qs, hR, ho, hv⟩, hK⟩ := h
 refine ⟨⟨v', qs, hR, ho, fun g hg => ?_⟩, hk.trans hK (fun i e => .inl e)⟩
 rcases hv g hg with e | e
 · exact .inl e
 · exact .inr (Nat.le_trans hk.size e)
theorem Went.still {w w' : World} {B : Nat} {X : Nat → Prop} {s' : LS} {v : Value} {ps : List PV} (h : Rep w' B X s' v ps) (hk : Kept w w' B v.ownBlock) : Went w w' B X s' v ps [] :=
 ⟨⟨v, [], by rw [List.append_nil]; exact h, rfl, fun _ e => .inl e⟩, hk⟩
theorem pv_none (w : World) (X : Nat → Prop) (v : Value) (code id : Int) : PvOk w X v ⟨code, id, none, 0, 0, []⟩ :=
 ⟨OptR.nil w none, fun _ => rfl, Nat.le_refl _, Nat.zero_le _, fun k hk => by simp [optOwn] at hk⟩
theorem pv_made {w0 w : World} {X : Nat → Prop} {v u : Value} {l : List Opt} (code id : Int) (hM : Made w0 w u l) (hl : l.length ≤ 1000) (hX : ∀ k, X k → k < w0.heap.size) (hv : ∀ k, v.ownBlock = some k → k < w0.heap.size) :
 ∃ a n cap, u = .slice a n cap ∧ PvOk w X v ⟨code, id, a, n, cap, l⟩ := by
 obtain ⟨a, cap, rfl, hnil, hle⟩ := hM.shape
 refine ⟨a, l.length, cap, rfl, hM.opts.2, hnil, hle, hl, fun k hk => ?_⟩
 have hk' : Value.ownBlock (.slice a l.length cap) = some k := optOwn_own hk
 have h1 := hM.new k hk'
 exact ⟨fun e => by have := hX k e; omega, fun e => by have := hv k e; omega, hM.row.lt k hk'⟩
theorem asksL_few (a b : Int) : (asksL a b).length ≤ 1000 := by
 unfold asksL
 split <;> split <;> simp
set_option maxRecDepth 100000 in
set_option maxHeartbeats 4000000 in
theorem act_any (c : UInt8) (B : Nat) (X : Nat → Prop) (s : LS) (v : Value) (ps : List PV) (p : PV) (w : World) (h : Rep w B X s v ps) (hb : Bd s 1000) (hp : PvOk w X v p) (hn : ps.length ≤ 100) :
 Calls Tryz.prog 208 #[.pointer (some ⟨B, 0, none⟩), .int .u8 (c.toNat : Int), .agg #[.int .i64 p.code, .int .i64 p.id, .slice p.a p.n p.cap]] w fun e w' => e = .returned (.tuple #[]) ∧ Went w w' B X (actS c s) v ps (actO c s p.abs) := by
 have hbx := below_alloc w (.cells #[.int .i64 p.code, .int .i64 p.id, .slice p.a p.n p.cap] 37)
 have hl := h.lk.lt
 have fz : ∀ j, w.frozen? ⟨B, j, none⟩ = false := h.lk.frozen
 have nb : ∀ k : UInt8, c ≠ k → ((c.toNat : Int) == (k.toNat : Int)) = false := fun k hk => by
  rw [beq_eq_false_iff_ne]
  intro e
  exact hk (UInt8.toNat_inj.mp (by omega))
 by_cases c1 : c = 105
 · subst c1
   have H1 : Hid (Rep (w.setCell ⟨B, 8, none⟩ (.int .i64 4)) B X { s with lf := 4 } v ps) := h.setC 8 _ _ rfl
   have k1 : Kept w (w.setCell ⟨B, 8, none⟩ (.int .i64 4)) B v.ownBlock := kept_set (Kept.refl w B _) 8 _
   have d8 : w.cell? ⟨B, 8, none⟩ = some (.int .i64 s.lf) := h.lk.cell 8
   have e1 : ((105 : UInt8).toNat : Int) = 105 := rfl
   rw [e1]
   clear h hp hb nb hbx
   go_enter Tryz.func208, Tryz.ntmps208
   go_wp2_with (fail)
   first | go_end0 | refine bodyPost_ret (results_none rfl _ _ _) rfl ?_
   exact ⟨rfl, Went.still (H1.out.below (below_alloc _ _)) (k1.trans (Kept.of_below B v.ownBlock (below_alloc _ _)) (fun i e => .inl e))⟩
 · by_cases c2 : c = 122
   · subst c2
     have H1 : Hid (Rep ((w.setCell ⟨B, 8, none⟩ (.int .i64 0)).setCell ⟨B, 9, none⟩ (.int .i64 3)) B X { s with lf := 0, wt := 3 } v ps) := (h.setC 8 _ { s with lf := 0 } rfl).setC 9 _ _ rfl
     have k1 : Kept w ((w.setCell ⟨B, 8, none⟩ (.int .i64 0)).setCell ⟨B, 9, none⟩ (.int .i64 3)) B v.ownBlock := kept_set (kept_set (Kept.refl w B _) 8 _) 9 _
     have d8 : w.cell? ⟨B, 8, none⟩ = some (.int .i64 s.lf) := h.lk.cell 8
     have d9 : w.cell? ⟨B, 9, none⟩ = some (.int .i64 s.wt) := h.lk.cell 9
     have e1 : ((122 : UInt8).toNat : Int) = 122 := rfl
     rw [e1]
     clear h hp hb nb hbx c1
     go_enter Tryz.func208, Tryz.ntmps208
     go_wp2_with (fail)
     first | go_end0 | refine bodyPost_ret (results_none rfl _ _ _) rfl ?_
     exact ⟨rfl, Went.still (H1.out.below (below_alloc _ _)) (k1.trans (Kept.of_below B v.ownBlock (below_alloc _ _)) (fun i e => .inl e))⟩
   · by_cases c3 : c = 114
     · subst c3
       have H1 : Hid (Rep ((w.setCell ⟨B, 4, none⟩ (.int .i64 s.ns)).setCell ⟨B, 5, none⟩ (.int .i64 s.nm)) B X { s with qs := s.ns, qm := s.nm } v ps) := (h.setC 4 _ { s with qs := s.ns } rfl).setC 5 _ _ rfl
       have k1 : Kept w ((w.setCell ⟨B, 4, none⟩ (.int .i64 s.ns)).setCell ⟨B, 5, none⟩ (.int .i64 s.nm)) B v.ownBlock := kept_set (kept_set (Kept.refl w B _) 4 _) 5 _
       have d2 : w.cell? ⟨B, 2, none⟩ = some (.int .i64 s.ns) := h.lk.cell 2
       have d3 : w.cell? ⟨B, 3, none⟩ = some (.int .i64 s.nm) := h.lk.cell 3
       have d4 : w.cell? ⟨B, 4, none⟩ = some (.int .i64 s.qs) := h.lk.cell 4
       have d5 : w.cell? ⟨B, 5, none⟩ = some (.int .i64 s.qm) := h.lk.cell 5
       have e1 : ((114 : UInt8).toNat : Int) = 114 := rfl
       have hvl := h.row.lt
       have hxl := h.old
       rw [e1]
       clear h hp nb hbx c1 c2
       go_enter Tryz.func208, Tryz.ntmps208
       go_wp2_with (fail)
       refine (asks_any s.ns s.nm _).mono ?_
       rintro e w1 ⟨u, rfl, hM⟩
       have hs1 : w.heap.size ≤ (((w.setCell ⟨B, 4, none⟩ (.int .i64 s.ns)).setCell ⟨B, 5, none⟩ (.int .i64 s.nm)).alloc (.cells #[.int .i64 p.code, .int .i64 p.id, .slice p.a p.n p.cap] 37)).heap.size := by simp
       obtain ⟨a', n', cap', rfl, hP⟩ := pv_made (X := X) (v := v) 1 ((s.ow + 1) % 256) hM (asksL_few _ _) (fun k hk => Nat.lt_of_lt_of_le (hxl k hk) hs1) (fun k hk => Nat.lt_of_lt_of_le (hvl k hk) hs1)
       have R2 := (H1.out.below (below_alloc _ _)).below hM.below
       have K2 := k1.trans (Kept.of_below B v.ownBlock (below_chain (below_alloc _ (.cells #[.int .i64 p.code, .int .i64 p.id, .slice p.a p.n p.cap] 37)) hM.below)) (fun i e => .inl e)
       have HC := ask_any B X { s with qs := s.ns, qm := s.nm } v ps 1 a' n' cap' (asksL s.ns s.nm) w1 R2 ⟨hb.o1, hb.o2, hb.l1, hb.l2⟩ hP hn
       clear H1 d2 d3 d4 d5 fz hM R2 hP hs1
       go_wp2_with (fail)
       refine HC.mono ?_
       rintro e w2 ⟨rfl, hW⟩
       clear HC
       go_wp2_with (fail)
       first | go_end0 | refine bodyPost_ret (results_none rfl _ _ _) rfl ?_
       exact ⟨rfl, hW.from K2⟩
     · by_cases c4 : c = 116
       · subst c4
         have R1 := h.below hbx
         have HC := ask_any B X s v ps 5 none 0 0 [] _ R1 hb (pv_none _ _ _ _ _) hn
         have K1 := Kept.of_below B v.ownBlock hbx
         have e1 : ((116 : UInt8).toNat : Int) = 116 := rfl
         rw [e1]
         clear h hp nb hbx c1 c2 c3 R1
         go_enter Tryz.func208, Tryz.ntmps208
         go_wp2_with (fail)
         refine HC.mono ?_
         rintro e w2 ⟨rfl, hW⟩
         clear HC
         go_wp2_with (fail)
         first | go_end0 | refine bodyPost_ret (results_none rfl _ _ _) rfl ?_
         exact ⟨rfl, hW.from K1⟩
       · by_cases c5 : c = 107
         · subst c5
           have R1 := h.below hbx
           have HC := say_any B X s v ps ⟨6, p.id, none, 0, 0, []⟩ _ R1 (pv_none _ _ _ _ _) hn
           have K1 := Kept.of_below B v.ownBlock hbx
           have e1 : ((107 : UInt8).toNat : Int) = 107 := rfl
           have hz : ∀ w : World, (zeroValue 37).run Tryz.prog w = .ok (.agg #[.int .i64 0, .int .i64 0, .slice none 0 0]) w := fun w => by kernel_rfl
           rw [e1]
           clear h hp nb hbx c1 c2 c3 c4 R1
           go_enter Tryz.func208, Tryz.ntmps208
           go_wp2_with (fail)
           refine HC.mono ?_
           rintro e w2 ⟨rfl, v', hR, hK, hv⟩
           clear HC
           go_wp2_with (fail)
           first | go_end0 | refine bodyPost_ret (results_none rfl _ _ _) rfl ?_
           exact ⟨rfl, (show Went _ w2 B X s v ps [(6, p.id, [])] from ⟨⟨v', [_], hR, rfl, hv⟩, hK⟩).from K1⟩
         · have R1 := h.below hbx
           have P1 := hp.kept h.self (Kept.of_below B v.ownBlock hbx) (fun _ e => .inl e)
           have HC := say_any B X s v ps p _ R1 P1 hn
           have K1 := Kept.of_below B v.ownBlock hbx
           by_cases c6 : c = 97
           · subst c6
             have e1 : ((97 : UInt8).toNat : Int) = 97 := rfl
             rw [e1]
             clear h hp nb hbx c1 c2 c3 c4 c5 R1 P1
             go_enter Tryz.func208, Tryz.ntmps208
             go_wp2_with (fail)
             refine HC.mono ?_
             rintro e w2 ⟨rfl, v', hR, hK, hv⟩
             clear HC
             go_wp2_with (fail)
             first | go_end0 | refine bodyPost_ret (results_none rfl _ _ _) rfl ?_
             exact ⟨rfl, (show Went _ w2 B X s v ps [p.abs] from ⟨⟨v', [_], hR, rfl, hv⟩, hK⟩).from K1⟩
           · by_cases c7 : c = 110
             · subst c7
               have e1 : ((110 : UInt8).toNat : Int) = 110 := rfl
               rw [e1]
               clear h hp nb hbx c1 c2 c3 c4 c5 c6 R1 P1
               go_enter Tryz.func208, Tryz.ntmps208
               go_wp2_with (fail)
               refine HC.mono ?_
               rintro e w2 ⟨rfl, v', hR, hK, hv⟩
               clear HC
               go_wp2_with (fail)
               first | go_end0 | refine bodyPost_ret (results_none rfl _ _ _) rfl ?_
               exact ⟨rfl, (show Went _ w2 B X s v ps [p.abs] from ⟨⟨v', [_], hR, rfl, hv⟩, hK⟩).from K1⟩
             · have hS : actS c s = s := by simp [actS, c1, c2, c3, c4]
               have hO : actO c s p.abs = [] := by simp [actO, c3, c4, c5, c6, c7]
               have q1 : ((c.toNat : Int) == 105) = false := nb 105 c1
               have q2 : ((c.toNat : Int) == 122) = false := nb 122 c2
               have q3 : ((c.toNat : Int) == 114) = false := nb 114 c3
               have q4 : ((c.toNat : Int) == 116) = false := nb 116 c4
               have q5 : ((c.toNat : Int) == 107) = false := nb 107 c5
               have q6 : ((c.toNat : Int) == 97) = false := nb 97 c6
               have q7 : ((c.toNat : Int) == 110) = false := nb 110 c7
               rw [hS, hO]
               have HR : Hid (Rep _ B X s v ps) := R1
               clear h hp nb hbx c1 c2 c3 c4 c5 c6 c7 R1 P1 HC hS hO
               go_enter Tryz.func208, Tryz.ntmps208
               go_wp2_with (fail)
               first | go_end0 | refine bodyPost_ret (results_none rfl _ _ _) rfl ?_
               exact ⟨rfl, Went.still HR.out K1⟩
end Go.Proofs.YtieklnlbljejdaaGreatDoor

namespace Go.Proofs.YtieklnlbljejdaaGreatDoor
open Go.RowKit
theorem pvC_get : ∀ (ps : List PV) (j : Nat) (p : PV), ps[j]? = some p → (pvC ps)[j * 3]? = some (.int .i64 p.code) ∧ (pvC ps)[j * 3 + 1]? = some (.int .i64 p.id) ∧ (pvC ps)[j * 3 + 2]? = some p.val
 | [], j, p, h => by simp at h
 | q :: r, 0, p, h => by
   have : q = p := by simpa using h
   subst this
   exact ⟨rfl, rfl, rfl⟩
 | q :: r, j + 1, p, h => by
   have h' : r[j]? = some p := by simpa using h
   obtain ⟨a, b, c⟩ := pvC_get r j p h'
   have e : pvC (q :: r) = .int .i64 q.code :: .int .i64 q.id :: q.val :: pvC r := rfl
   rw [e, show (j + 1) * 3 = j * 3 + 1 + 1 + 1 by omega, show j * 3 + 1 + 1 + 1 + 1 = (j * 3 + 1) + 1 + 1 + 1 by omega, show j * 3 + 1 + 1 + 1 + 2 = (j * 3 + 2) + 1 + 1 + 1 by omega]
   simp only [List.getElem?_cons_succ]
   exact ⟨a, b, c⟩
structure PksR (w : World) (v : Value) (ps : List PV) : Prop where
 row : Row w 3 v ps.length (pvC ps)
 opt : ∀ p ∈ ps, OptR w p.a p.n p.os ∧ p.n ≤ 1000
theorem PksR.shape {w : World} {v : Value} {ps : List PV} (h : PksR w v ps) : ∃ (a : Option Addr) (c : Nat), v = .slice a ps.length c ∧ ∀ j p, ps[j]? = some p → ∃ g, a = some ⟨g, 0, none⟩ ∧ w.cell? ⟨g, 0 + j * 3, none⟩ = some (.int .i64 p.code) ∧ w.cell? ⟨g, 0 + j * 3 + 1, none⟩ = some (.int .i64 p.id) ∧ w.cell? ⟨g, 0 + j * 3 + 2, none⟩ = some (.slice p.a p.n p.cap) := by
 rcases h.row.2 with ⟨e1, e2⟩ | ⟨g, c, e1, hg, hnc, hcm, hcell, _⟩
 · refine ⟨none, 0, by rw [e2, e1], fun j p hj => ?_⟩
   have := (List.getElem?_eq_some_iff.1 hj).1
   omega
 · refine ⟨_, c, e1, fun j p hj => ⟨g, rfl, ?_⟩⟩
   obtain ⟨a, b, d⟩ := pvC_get ps j p hj
   rw [Nat.zero_add]
   exact ⟨hcell _ _ a, hcell _ _ b, hcell _ _ d⟩
end Go.Proofs.YtieklnlbljejdaaGreatDoor
