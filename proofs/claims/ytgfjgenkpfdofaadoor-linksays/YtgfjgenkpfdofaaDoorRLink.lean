/-
  The document's end of a link: how it lies in memory; an event.
-/
import Derived.Test.YtgfjgenkpfdofaaDoorLinkDo
import Derived.Test.YtgfjgenkpfdofaaDoorRPolicyWalk
import Derived.Test.YtgfjgenkpfdofaaDoorTurnWalk
import Derived.Test.YtgfjgenkpfdofaaDoorWaysMem
namespace Go.Proofs.YtgfjgenkpfdofaaDoor
open Go.RowKit

def LS.r (s : LS) (ak v : Value) : Array Value := #[.int .i64 s.st, .int .i64 s.lf, .int .i64 s.wt, .int .i64 s.ow, .int .i64 s.fs, .int .i64 s.fm, .int .i64 s.ns, .int .i64 s.nm, ak, .int .i64 s.sz, v]
/-- What was asked last, as it lies; in a block that is neither the end's own nor its list's. -/
structure AskOk (w : World) (B : Nat) (v ak : Value) (os : List Opt) : Prop where
  ex : ∃ (a : Option Addr) (n cap : Nat), ak = .slice a n cap ∧ OptR w a n os ∧ NilOk a cap ∧ n ≤ cap ∧ n ≤ 1000
  far : ∀ k, ak.ownBlock = some k → k ≠ B ∧ v.ownBlock ≠ some k ∧ k < w.heap.size
structure RRep (w : World) (B : Nat) (X : Nat → Prop) (s : LS) (ak v : Value) (ps : List PV) : Prop where
  blk : Blk w B (s.r ak v) 48
  ask : AskOk w B v ak (asksL s.qs s.qm)
  row : Row w 3 v ps.length (pvC ps)
  own : ∀ g, v.ownBlock = some g → ¬ X g
  self : X B
  old : ∀ k, X k → k < w.heap.size
  pk : ∀ p ∈ ps, PvOk w X v p
  askX : ∀ k, ak.ownBlock = some k → ¬ X k
theorem AskOk.kept {w w' : World} {B : Nat} {v v' ak : Value} {os : List Opt} (h : AskOk w B v ak os) (k : Kept w w' B v.ownBlock) (hv : ∀ g, v'.ownBlock = some g → v.ownBlock = some g ∨ w.heap.size ≤ g) : AskOk w' B v' ak os := by
  obtain ⟨a, n, cap, rfl, ho, hz, hl, hf⟩ := h.ex
  refine ⟨⟨a, n, cap, rfl, ho.kept (cap := cap) (fun j hj => by obtain ⟨a1, a2, a3⟩ := h.far j hj; exact k.block j a3 a1 a2), hz, hl, hf⟩, fun j hj => ?_⟩
  obtain ⟨a1, a2, a3⟩ := h.far j hj
  refine ⟨a1, fun e => ?_, Nat.lt_of_lt_of_le a3 k.size⟩
  rcases hv j e with e1 | e1
  · exact a2 e1
  · omega
theorem RRep.below {w w' : World} {B : Nat} {X : Nat → Prop} {s : LS} {ak v : Value} {ps : List PV} (h : RRep w B X s ak v ps) (hb : Below w.heap.size w w') : RRep w' B X s ak v ps :=
  ⟨h.blk.below hb, h.ask.kept (Kept.of_below B _ hb) (fun _ e => .inl e), h.row.below hb, h.own, h.self, fun k hk => Nat.lt_of_lt_of_le (h.old k hk) hb.size, fun p hp => (h.pk p hp).kept h.self (Kept.of_below B _ hb) (fun _ e => .inl e), h.askX⟩
theorem RRep.ne {w : World} {B : Nat} {X : Nat → Prop} {s : LS} {ak v : Value} {ps : List PV} (h : RRep w B X s ak v ps) : v.ownBlock ≠ some B := fun e => h.own B e h.self
theorem RRep.setC {w : World} {B : Nat} {X : Nat → Prop} {s : LS} {ak v : Value} {ps : List PV} (h : RRep w B X s ak v ps) (j : Nat) (x : Value) (s' : LS) (hs : (s.r ak v).setIfInBounds j x = s'.r ak v) (hq : s'.qs = s.qs ∧ s'.qm = s.qm) : RRep (w.setCell ⟨B, j, none⟩ x) B X s' ak v ps := by
  have hk : Kept w (w.setCell ⟨B, j, none⟩ x) B v.ownBlock := kept_set (Kept.refl w B _) j x
  refine ⟨?_, by rw [hq.1, hq.2]; exact h.ask.kept hk (fun _ e => .inl e), h.row.keep hk.size (fun k hk2 => ?_), h.own, h.self, fun k hk3 => Nat.lt_of_lt_of_le (h.old k hk3) hk.size, fun p hp => (h.pk p hp).kept h.self hk (fun _ e => .inl e), h.askX⟩
  · have := h.blk.set j x
    rw [hs] at this
    exact this
  · exact Below.heap_setCell _ _ _ k (fun e => h.ne (by rw [hk2]; exact congrArg some e))
/-- Something else is asked. -/
theorem RRep.setA {w : World} {B : Nat} {X : Nat → Prop} {s : LS} {ak v : Value} {ps : List PV} (h : RRep w B X s ak v ps) (ak' : Value) (ha : AskOk w B v ak' (asksL s.ns s.nm)) (hx : ∀ k, ak'.ownBlock = some k → ¬ X k) : RRep (w.setCell ⟨B, 8, none⟩ ak') B X { s with qs := s.ns, qm := s.nm } ak' v ps := by
  have hk : Kept w (w.setCell ⟨B, 8, none⟩ ak') B v.ownBlock := kept_set (Kept.refl w B _) 8 ak'
  refine ⟨?_, ha.kept hk (fun _ e => .inl e), h.row.keep hk.size (fun k hk2 => ?_), h.own, h.self, fun k hk3 => Nat.lt_of_lt_of_le (h.old k hk3) hk.size, fun p hp => (h.pk p hp).kept h.self hk (fun _ e => .inl e), hx⟩
  · exact h.blk.set 8 ak'
  · exact Below.heap_setCell _ _ _ k (fun e => h.ne (by rw [hk2]; exact congrArg some e))
theorem Kept.of_grown {w x : World} {B : Nat} {o : Option Nat} (hg : w.grownBy x o) : Kept w x B o :=
  ⟨hg.os, hg.tape, hg.output, hg.size, fun i hi _ ho => hg.block i hi (fun e => ho e.symm)⟩
/-- One more packet on the list. -/
theorem RRep.push {w W x : World} {B : Nat} {X : Nat → Prop} {s : LS} {ak v : Value} {ps : List PV} (h : RRep w B X s ak v ps) (hb : Below w.heap.size w W) (hg : W.grownBy x v.ownBlock) (p : PV) (hp : PvOk W X v p) (g' cap' : Nat)
    (hr : Row x 3 (.slice (some ⟨g', 0, none⟩) (ps.length + 1) cap') (ps.length + 1) (pvC ps ++ [.int .i64 p.code, .int .i64 p.id, p.val])) (hown : v.ownBlock = some g' ∨ W.heap.size ≤ g') :
    RRep (x.setCell ⟨B, 10, none⟩ (.slice (some ⟨g', 0, none⟩) (ps.length + 1) cap')) B X s ak (.slice (some ⟨g', 0, none⟩) (ps.length + 1) cap') (ps ++ [p]) ∧ Kept w (x.setCell ⟨B, 10, none⟩ (.slice (some ⟨g', 0, none⟩) (ps.length + 1) cap')) B v.ownBlock ∧
      (∀ g, Value.ownBlock (.slice (some ⟨g', 0, none⟩) (ps.length + 1) cap') = some g → v.ownBlock = some g ∨ w.heap.size ≤ g) := by
  have kW : Kept w W B v.ownBlock := Kept.of_below B _ hb
  have kx : Kept W x B v.ownBlock := Kept.of_grown hg
  have kxs : Kept W (x.setCell ⟨B, 10, none⟩ (.slice (some ⟨g', 0, none⟩) (ps.length + 1) cap')) B v.ownBlock := kept_set kx 10 _
  have kws := kW.trans kxs (fun i e => .inl e)
  have hvW : ∀ g, Value.ownBlock (.slice (some ⟨g', 0, none⟩) (ps.length + 1) cap') = some g → v.ownBlock = some g ∨ W.heap.size ≤ g := by
    intro g hg2
    have hgg : g' = g := by simpa [Value.ownBlock] using hg2
    subst hgg
    exact hown
  have hv : ∀ g, Value.ownBlock (.slice (some ⟨g', 0, none⟩) (ps.length + 1) cap') = some g → v.ownBlock = some g ∨ w.heap.size ≤ g := fun g hg2 => by
    rcases hvW g hg2 with e | e
    · exact .inl e
    · exact .inr (Nat.le_trans hb.size e)
  have hgB : g' ≠ B := by
    rcases hown with e | e
    · exact fun e2 => h.ne (by rw [e, e2])
    · have := (h.below hb).blk.lt; omega
  have hxB : x.heap[B]? = w.heap[B]? := by
    rw [hg.block B (h.below hb).blk.lt (fun e => h.ne e.symm)]
    exact hb.block B h.blk.lt
  refine ⟨⟨?_, h.ask.kept kws hv, ?_, ?_, h.self, fun k hk => Nat.lt_of_lt_of_le (h.old k hk) kws.size, ?_, h.askX⟩, kws, hv⟩
  · exact (h.blk.keep hxB).set 10 _
  · rw [pvC_snoc, List.length_append]
    refine hr.keep (by simp) (fun k hk => ?_)
    have hkk : g' = k := by simpa [Value.ownBlock] using hk
    exact Below.heap_setCell _ _ _ k (by show k ≠ B; omega)
  · intro g hg2 hx
    rcases hv g hg2 with e | e
    · exact h.own g e hx
    · have := h.old g hx; omega
  · intro q hq
    rcases List.mem_append.1 hq with hq | hq
    · exact (h.pk q hq).kept h.self kws hv
    · have : q = p := by simpa using hq
      subst this
      exact hp.kept h.self kxs hvW

section
variable {P : Program}
theorem append_zero (w : World) (t ty e : TypeId) (i : TypeInfo) (ht : P.underlying t = some (.slice e)) (hi : P.info? e = some i) (ao : Option Addr) (c : Nat) :
    (Builtin.append_ #[t, t] ty #[.slice none 0 0, .slice ao 0 c]).run P w = .ok (.slice none 0 0) w := by
  cases ao <;> simp [Builtin.append_, run_underlying ht, sizeOf, typeInfo, hi, Builtin.lenOf, Builtin.firstCells, loadCells, loadCellsFrom]
/-- A copy of options, as one step of a region that draws its order. -/
theorem step_append_opts {ops : Array Oper} {o : Oper} {a : Act} {w : World} {K : Act → World → Prop} {Q : Exit → Act → World → Prop} {E : Prop}
    (hgd : o.guard = none) (s x : Operand) (t : TypeId) (ho : o.op = .call { callee := .builtin .append, args := #[s, x], argTypes := #[t, t] })
    (e : TypeId) (i : TypeInfo) (z : Value) (ht : P.underlying t = some (.slice e)) (hi : P.info? e = some i) (hz : i.zero = some z)
    (hsize : i.size = 2) (hby : i.bytes = 16) (hzs : z.cells.size = 2) (hs : a.eval s = .slice none 0 0)
    (ad : Option Addr) (n c : Nat) (os : List Opt) (hx : a.eval x = .slice ad n c) (hopt : OptR w ad n os) (hn : n ≤ 1000)
    (h : ∀ b m c' w', Row w' 2 (.slice b m c') n (optCells os) → w.grownBy w' none → (∀ k, Value.ownBlock (.slice b m c') = some k → w.heap.size ≤ k) → m = n → K (a.put o.dst (.slice b m c')) w') :
    if Region.wanted o (yielded ops a.tmps) = true then Oper.wp P o a w K Q else E := by
  have hw : Region.wanted o (yielded ops a.tmps) = true := by simp [Region.wanted, hgd]
  rw [if_pos hw]
  have key : ∃ b m c' w', (Builtin.append_ #[t, t] o.type #[.slice none 0 0, .slice ad n c]).run P w = .ok (.slice b m c') w' ∧ Row w' 2 (.slice b m c') n (optCells os) ∧ w.grownBy w' none ∧ (∀ k, Value.ownBlock (.slice b m c') = some k → w.heap.size ≤ k) ∧ m = n := by
    by_cases hm : 0 < n
    · rcases hopt.2 with h0 | ⟨bb, off, rfl, hc⟩
      · omega
      · have hcells := OptR.cells hopt hm
        obtain ⟨v', w', hr, h2, h3, h4⟩ := run_append_row (P := P) w t o.type e i z 2 16 ht hi hz hsize hby hzs (by decide) (.slice none 0 0) 0 [] (Row.nil _ _) ⟨bb, off, none⟩ n c (optCells os) (by rw [optCells_length, hopt.1]; omega) hm hcells (one_opts os) (by unfold maxLen; omega) (by omega)
        simp only [Nat.zero_add, List.nil_append] at h2
        rcases h2.2 with ⟨_, hn0⟩ | ⟨g', cap', rfl, _⟩
        · omega
        · refine ⟨_, _, _, w', hr, h2, h3, fun k hk => ?_, rfl⟩
          rcases h4 with h4 | ⟨k', h4, hk'⟩
          · rw [hk] at h4; simp [Value.ownBlock] at h4
          · rw [hk] at h4
            have : k = k' := by simpa using h4
            omega
    · have hm0 : n = 0 := by omega
      subst hm0
      have hnil : os = [] := List.eq_nil_of_length_eq_zero hopt.1
      subst hnil
      exact ⟨none, 0, 0, w, append_zero w t o.type e i ht hi ad c, Row.nil _ _, ⟨rfl, rfl, rfl, Nat.le_refl _, fun _ _ _ => rfl⟩, fun k hk => by simp [Value.ownBlock] at hk, rfl⟩
  obtain ⟨b, m, c', w', hr, h2, h3, h4, h5⟩ := key
  unfold Oper.wp execOp
  simp only [ho, resolve, invoke, builtin, Sem.run_bind, Sem.run_pure, Result.andThen_ok, List.map_toArray, List.map_cons, List.map_nil, hs, hx, hr]
  exact h b m c' w' h2 h3 h4 h5
end
section
variable {P : Program} {md : Region.Mode} {ops : Array Oper} {Q : Exit → Act → World → Prop} {S : World → Prop}
/-- An operation that yields in every world that meets S is taken first; its slot is named. -/
theorem rt_yes (i : Nat) (d : Option Tmp) {oi : Oper} {v : Value} {fuel : Nat} {listed : Array Bool} {a : Act} {w : World} (hi : ops[i]? = some oi) (hd : oi.dst = d)
    (hs : Region.noSelect ops = true) (hf : Region.free md ops listed i = true) (hr : (Region.ready md ops listed).contains i = true)
    (hQ : ∀ c a w, Q (.panic c) (a.put d v) w → Q (.panic c) a w) (hw : Region.wanted oi (yielded ops a.tmps) = true) (hy : ∀ w, S w → (execOp a.eval oi).run P w = .ok (.value v) w) (hS : S w)
    (h : wpAnyH P md ops Q S fuel (listed.setIfInBounds i true) (a.put d v) w) : wpAnyH P md ops Q S (fuel + 1) listed a w := by
  subst hd
  exact wpAnyH_take hi hs hf hr hQ (Or.inl ⟨hw, hy⟩) hS h
end
theorem cells_threeN (w : World) (x y z : Value) (t : TypeId) (g : Nat) (hg : w.heap.size = g) : ∀ (j : Nat) (u : Value), [x, y, z][j]? = some u → (w.alloc (.cells #[x, y, z] t)).cell? ((⟨g, 0, none⟩ : Addr).add j) = some u := by
  subst hg
  intro j u hu
  rw [add_plain, World.cell?_alloc_mark]
  simpa using hu
theorem blk_far2 {w x : World} {o : Obj} {B : Nat} {C : Array Value} {t : TypeId} {v : Value} (h : Blk w B C t) (hg : (w.alloc o).drew.grownBy x v.ownBlock) (hv : v.ownBlock ≠ some B) : Blk x B C t := by
  refine h.keep ?_
  rw [hg.block B (by show B < (w.alloc o).heap.size; have := h.lt; simp; omega) (fun e => hv e.symm)]
  exact Below.heap_alloc w o B h.lt
theorem blk_far3 {w x : World} {o : Obj} {B : Nat} {C : Array Value} {t : TypeId} {v : Value} (h : Blk w B C t) (hg : (w.alloc o).grownBy x v.ownBlock) (hv : v.ownBlock ≠ some B) : Blk x B C t := by
  refine h.keep ?_
  rw [hg.block B (by show B < (w.alloc o).heap.size; have := h.lt; simp; omega) (fun e => hv e.symm)]
  exact Below.heap_alloc w o B h.lt
theorem pv_row {w x : World} {B : Nat} {X : Nat → Prop} {s : LS} {ak v : Value} {ps : List PV} (h : RRep w B X s ak v ps) {b : Option Addr} {n c : Nat} {os : List Opt} (hr : Row x 2 (.slice b n c) n (optCells os)) (hn : ∀ k, Value.ownBlock (.slice b n c) = some k → w.heap.size ≤ k) (hnn : n ≤ 1000) (code id : Int) : PvOk x X v ⟨code, id, b, n, c, os⟩ := by
  refine ⟨hr.opts, ?_, hr.cap_le, hnn, fun k hk => ?_⟩
  · intro hb
    have hb' : b = none := hb
    rcases hr.2 with ⟨e1, _⟩ | ⟨g, cp, e1, _⟩
    · simp at e1; exact e1.2.2
    · rw [hb'] at e1; simp at e1
  · have hk' : Value.ownBlock (.slice b n c) = some k := optOwn_own hk
    have h1 := hn k hk'
    refine ⟨fun e => by have := h.old k e; omega, fun e => by have := h.row.lt k e; omega, hr.lt k hk'⟩
/-- Where the loop over the letters stands. -/
structure RMid (w wr : World) (B : Nat) (X : Nat → Prop) (S : ByteArray) (k : Nat) (a : Option Addr) (n : Nat) (ans : APkt) (sF : LS) (oF : List APkt) (sk : LS) (ak vk : Value) (qs : List PV) : Prop where
  rep : RRep wr B X sk ak vk qs
  bd : Bd sk (100 + k)
  fin : runS (S.data.toList.drop k) sk = sF
  out : qs.map PV.abs ++ runO (S.data.toList.drop k) sk ans = oF
  opt : OptR wr a n ans.2.2
  kept : Kept w wr B none
  new : ∀ g, vk.ownBlock = some g → w.heap.size < g
  d1 : wr.cell? ⟨w.heap.size, 1, none⟩ = some (.int .i64 ans.2.1)
  few : qs.length ≤ k
theorem rmid_step {w wr V : World} {B : Nat} {X : Nat → Prop} {S : ByteArray} {k : Nat} {a : Option Addr} {n : Nat} {ans : APkt} {sF : LS} {oF : List APkt} {sk : LS} {ak vk : Value} {qs : List PV} {c : UInt8} {r : List UInt8} {ak2 v2 : Value} {q2 : List PV}
    (hM : RMid w wr B X S k a n ans sF oF sk ak vk qs) (hB : B < w.heap.size) (hfar : ∀ k, optOwn a n = some k → k ≠ B ∧ k < w.heap.size) (hD : S.data.toList.drop k = c :: r)
    (hR : RRep V B X (actS c sk) ak2 v2 (qs ++ q2)) (ho : q2.map PV.abs = actO c sk ans) (hv : ∀ g, v2.ownBlock = some g → vk.ownBlock = some g ∨ wr.heap.size ≤ g) (hK : Kept wr V B vk.ownBlock) :
    RMid w V B X S (k + 1) a n ans sF oF (actS c sk) ak2 v2 (qs ++ q2) := by
  have hr : S.data.toList.drop (k + 1) = r := by
    have := congrArg (List.drop 1) hD
    simpa using this
  have hlZ : w.heap.size < wr.heap.size := World.block_lt_of_cell? wr _ hM.d1
  refine ⟨hR, ?_, ?_, ?_, ?_, ?_, ?_, ?_, ?_⟩
  · have := Bd.act hM.bd (by omega) c
    exact ⟨this.o1, this.o2, by have := this.l1; push_cast; omega, by have := this.l2; push_cast; omega⟩
  · rw [hr, ← hM.fin, hD]; rfl
  · rw [hr, ← hM.out, hD, List.map_append, ho, List.append_assoc]; rfl
  · refine hM.opt.keptO (fun j hj => ?_)
    obtain ⟨f1, f2⟩ := hfar j hj
    exact hK.block j (by omega) f1 (fun e => by have := hM.new j e; omega)
  · exact hM.kept.trans hK (fun i e => .inr (by have := hM.new i e; omega))
  · intro g hg
    rcases hv g hg with e | e
    · exact hM.new g e
    · omega
  · exact (World.cell?_of_block (a := ⟨w.heap.size, 1, none⟩) (hK.block w.heap.size hlZ (by omega) (fun e => by have := hM.new _ e; omega))).trans hM.d1
  · rw [List.length_append]
    have h1 : q2.length = (actO c sk ans).length := by rw [← ho]; simp
    have h2 := actO_len c sk ans
    have h3 := hM.few
    omega
end Go.Proofs.YtgfjgenkpfdofaaDoor
