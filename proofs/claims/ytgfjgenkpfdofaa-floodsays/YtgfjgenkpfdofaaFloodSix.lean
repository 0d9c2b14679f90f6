/-
  A base holds at most six states a map; both bases in one memory: what turns one leaves the other.
-/
import Derived.Test.YtgfjgenkpfdofaaFloodTwo
import Derived.Test.YtgfjgenkpfdofaaFloodActs2
namespace Go.Proofs.Ytgfjgenkpfdofaa
open Go.RowKit St
open Go.ChangeMaps Go.MapKept

def zOf : Value → Int
  | .int _ z => z
  | _ => 0
theorem SMap.few6 {w : World} {b n : Nat} {f : Int → Option SV} (h : SMap w b n f) (hf : ∀ k, inR k → (f k).isSome = true → 1 ≤ k ∧ k ≤ 6) : SMap w b 6 f := by
  obtain ⟨D, ⟨es, clock, hb, F, hs, hD⟩, hat⟩ := h.own
  refine ⟨⟨D, ⟨es, clock, hb, F, ?_, hD⟩, hat⟩⟩
  have hkey : ∀ x ∈ es.toList, ∃ z : Int, x.key = .int .i64 z ∧ 1 ≤ z ∧ z ≤ 6 := by
    intro x hx
    obtain ⟨y, hy⟩ := F.reads x hx
    have hk := WideElems.rd_key hy
    obtain ⟨z, hz, hl, hwf⟩ := Maps.keyOf_int_inv Try.underlying3 hk
    have hr := inR_of_wf hwf
    refine ⟨z, hz, hf z hr ?_⟩
    cases e : f z with
    | some _ => rfl
    | none =>
      have h0 := hat z hr
      rw [e] at h0
      have h1 := Maps.has_false_of_atKey h0
      rw [hD, Maps.has_eq] at h1
      have hmem : y ∈ (es.toList.map (WideElems.rg Try.prog 3 elemR)).foldr DataW.insert [] := (Go.WideShapes.sorted_perm _).mem_iff.2 (List.mem_map.2 ⟨x, hx, WideElems.rg_of hy⟩)
      have := List.any_eq_false.1 h1 y hmem
      rw [hl] at this
      simp [sameKey_int] at this
  have hpw := ((stamped_iff es clock).1 F.stamped).2.2
  have hlen := len_of_sub (es.toList.map (fun x => zOf x.key)) [1, 2, 3, 4, 5, 6] (by
    rw [List.pairwise_map]
    refine hpw.imp_of_mem ?_
    intro x y hx hy hne e
    obtain ⟨a, ha, _⟩ := hkey x hx
    obtain ⟨c, hc, _⟩ := hkey y hy
    rw [ha, hc] at e
    simp only [zOf] at e
    exact hne (by rw [ha, hc, e])) (fun z hz => by
    obtain ⟨x, hx, rfl⟩ := List.mem_map.1 hz
    obtain ⟨a, ha, h1, h2⟩ := hkey x hx
    rw [ha]
    simp only [zOf]
    simp
    omega)
  simpa using hlen
theorem Tie.range {w : World} {m : FM} {f : Int → Option SV} {F : Int → Option PS} (h : Tie w m f F) : ∀ k, inR k → (f k).isSome = true → 1 ≤ k ∧ k ≤ 6 := by
  intro k hr hs
  cases e : F k with
  | none => rw [h.at_none hr e] at hs; cases hs
  | some q =>
    obtain ⟨s, _, h2⟩ := h.at_some hr e
    exact (stF_zero h2.ok).1
theorem BR.six {w : World} {B : Nat} {m : FM} {n : Nat} {K : Int → Option PS} {O : Nat → Int → Option PS} (h : BR w B m n K O) : BR w B m 6 K O := by
  obtain ⟨kn, ow, hF, hT, hO⟩ := h.ex
  exact ⟨⟨kn, ow, ⟨hF.blk, hF.row, hF.km.few6 hT.range, fun i b e => (hF.om i b e).few6 (hO i (List.getElem?_eq_some_iff.1 e).1).range, hF.few, hF.nB, hF.nd⟩, hT, hO⟩, h.nob⟩
theorem BR.avoid {w : World} {B : Nat} {m : FM} {n : Nat} (h : BR w B m n (fun _ => none) (fun _ _ => none)) (no : Nat → Prop) (hno : ∀ j, no j → j < w.heap.size) : BR w B { m with no := no } n (fun _ => none) (fun _ _ => none) := by
  obtain ⟨kn, ow, hF, hT, hO⟩ := h.ex
  exact ⟨⟨kn, ow, ⟨hF.blk, hF.row, hF.km, hF.om, hF.few, hF.nB, hF.nd⟩, fun k hr => hT k hr, fun i hi k hr => hO i hi k hr⟩, hno⟩
theorem OptR.keptR {w w' : World} {a : Option Addr} {n : Nat} {os : List Opt} {M g cap : Nat} (h : OptR w a n os) (hk : KeptR w w' M g) (hf : ∀ j, Value.ownBlock (.slice a n cap) = some j → j ≠ M ∧ j ≠ g) : OptR w' a n os := by
  refine ⟨h.1, ?_⟩
  rcases h.2 with h2 | ⟨b, off, rfl, h2⟩
  · exact .inl h2
  · refine .inr ⟨b, off, rfl, fun j hj => ?_⟩
    obtain ⟨c1, c2⟩ := h2 j hj
    obtain ⟨f1, f2⟩ := hf b rfl
    have e := hk.block b (World.block_lt_of_cell? w _ c1) f1 f2
    exact ⟨(World.cell?_of_block (a := ⟨b, off + j * 2, none⟩) e).trans c1, (World.cell?_of_block (a := ⟨b, off + j * 2 + 1, none⟩) e).trans c2⟩
/-- The base stays while the document's own is turned. -/
theorem BR.byR {w w' : World} {B : Nat} {m : FM} {n : Nat} {K : Int → Option PS} {O : Nat → Int → Option PS} {M g ports : Nat} {KS : Nat → SV} {OB : Nat → Nat → Bool} (h : BR w B m n K O) (hR : RB w M g ports KS OB) (hk : KeptR w w' M g) (hno : m.no M ∧ m.no g) (hne : B ≠ M ∧ B ≠ g ∧ m.g ≠ M ∧ m.g ≠ g) : BR w' B m n K O := by
  have hmaps := h.maps
  obtain ⟨kn, ow, hF, hT, hO⟩ := h.ex
  have mp : ∀ b, (b = m.bm ∨ b ∈ m.bs) → w'.heap[b]? = w.heap[b]? := fun b hb => hk.block b (h.mlt b hb) (cells_not_map hR.k (hmaps b hb)).symm (cells_not_map hR.o (hmaps b hb)).symm
  have tie : ∀ {f : Int → Option SV} {F : Int → Option PS}, Tie w m f F → Tie w' m f F := by
    intro f F ht x hr
    have := ht x hr
    cases e : F x with
    | none => rw [e] at this; exact this
    | some q =>
      rw [e] at this
      obtain ⟨s, h1, h3⟩ := this
      exact ⟨s, h1, ⟨h3.own, h3.seq, h3.n, h3.opt.keptR (cap := s.cap) hk (fun j hj => ⟨fun e => (h3.far j hj).2.2 (by rw [e]; exact hno.1), fun e => (h3.far j hj).2.2 (by rw [e]; exact hno.2)⟩), h3.nil, h3.ok, h3.far⟩⟩
  refine ⟨⟨kn, ow, ⟨(hk.block B hF.lt hne.1 hne.2.1).trans hF.blk, hF.row.keep hk.size (fun x hx => ?_), hF.km.keep (mp _ (.inl rfl)), fun i b e => (hF.om i b e).keep (mp b (.inr (List.mem_of_getElem? e))), hF.few, hF.nB, hF.nd⟩, tie hT, fun i hi => tie (hO i hi)⟩, h.nobM hk.size⟩
  have hg : m.g = x := by simpa [FM.sl, Value.ownBlock] using hx
  subst hg
  exact hk.block m.g (hF.row.lt _ hx) hne.2.2.1 hne.2.2.2
/-- .. and the document's own while the base is. -/
theorem RB.byM {w w' : World} {B : Nat} {m : FM} {n : Nat} {K : Int → Option PS} {O : Nat → Int → Option PS} {M g ports : Nat} {KS : Nat → SV} {OB : Nat → Nat → Bool} (hR : RB w M g ports KS OB) (h : BR w B m n K O) (hk : KeptM w w' m) : RB w' M g ports KS OB :=
  ⟨(hk.heap_cells h hR.k).trans hR.k, (hk.heap_cells h hR.o).trans hR.o, hR.ne⟩
/-- Both bases, in whatever world. -/
structure Two (w wr : World) (B : Nat) (m : FM) (M g ports : Nat) (K : Int → Option PS) (O : Nat → Int → Option PS) (KS : Nat → SV) (OB : Nat → Nat → Bool) : Prop where
  b : BR wr B m 6 K O
  r : RB wr M g ports KS OB
  k : TieR w K KS
  o : TieO ports K O OB
  len : m.bs.length = ports
  bel : Below w.heap.size w wr
  nO : ∀ p, p < ports → ∀ k, inR k → (k < 1 ∨ 6 < k) → O p k = none
  z : KS 0 = SV.zero
/-- Where both lie. -/
structure Lie (w : World) (B : Nat) (m : FM) (M g : Nat) : Prop where
  no : m.no M ∧ m.no g
  ne : B ≠ M ∧ B ≠ g ∧ m.g ≠ M ∧ m.g ≠ g
  ge : w.heap.size ≤ m.bm ∧ (∀ x ∈ m.bs, w.heap.size ≤ x) ∧ w.heap.size ≤ M ∧ w.heap.size ≤ g
theorem Two.below {w wr wx : World} {B : Nat} {m : FM} {M g ports : Nat} {K : Int → Option PS} {O : Nat → Int → Option PS} {KS : Nat → SV} {OB : Nat → Nat → Bool} (h : Two w wr B m M g ports K O KS OB) (hb : Below wr.heap.size wr wx) : Two w wx B m M g ports K O KS OB :=
  ⟨h.b.below hb, h.r.below hb, h.k, h.o, h.len, below_chain h.bel hb, h.nO, h.z⟩
/-- What one knows of a router, as the document's own base has it. -/
theorem Two.at_ {w wr : World} {B : Nat} {m : FM} {M g ports : Nat} {K : Int → Option PS} {O : Nat → Int → Option PS} {KS : Nat → SV} {OB : Nat → Nat → Bool} (h : Two w wr B m M g ports K O KS OB) (n : Nat) (hn : n ≤ 6) : (KS n).own = ownOf K n ∧ (KS n).seq = seqAt K n ∧ OptR w (KS n).a (KS n).n (esOf K n) ∧ (KS n).n ≤ 6 ∧ (decide (0 < (KS n).seq) = (K n).isSome) := by
  by_cases h0 : n = 0
  · subst h0
    have e := h.k.out 0 (by unfold inR; omega) (.inl (by omega))
    have e' : K ((0 : Nat) : Int) = none := e
    rw [h.z]
    simp only [ownOf, seqAt, esOf, e']
    exact ⟨rfl, rfl, ⟨rfl, .inl rfl⟩, by decide, rfl⟩
  · cases e : K n with
    | none =>
      rw [h.k.none (by omega) hn e]
      simp only [ownOf, seqAt, esOf, e]
      exact ⟨rfl, rfl, ⟨rfl, .inl rfl⟩, by decide, rfl⟩
    | some q =>
      obtain ⟨t1, t2, t3, t4, t5⟩ := h.k.some (by omega) hn e
      have hq := (stF_zero t5).2
      simp only [ownOf, seqAt, esOf, e]
      refine ⟨t1, t2, t3, by have := t3.1; omega, ?_⟩
      rw [t2]
      simp
      omega
/-- Whatever cells there were are as they were. -/
def Still (a b : World) : Prop := ∀ (j : Nat) (C : Array Value) (t : TypeId) (fr : Nat × Nat), a.heap[j]? = some (Obj.cells C t fr) → b.heap[j]? = a.heap[j]?
def StillR (a b : World) (M g : Nat) : Prop := ∀ (j : Nat) (C : Array Value) (t : TypeId) (fr : Nat × Nat), a.heap[j]? = some (Obj.cells C t fr) → j ≠ M → j ≠ g → b.heap[j]? = a.heap[j]?
theorem StillR.of_below {a b : World} {M g : Nat} (h : Below a.heap.size a b) : StillR a b M g := fun j _ _ _ hj _ _ => h.block j (Array.getElem?_eq_some_iff.1 hj).1
theorem StillR.of_kept {a b : World} {M g : Nat} (h : KeptR a b M g) : StillR a b M g := fun j _ _ _ hj h1 h2 => h.block j (Array.getElem?_eq_some_iff.1 hj).1 h1 h2
theorem Still.of_below {a b : World} (h : Below a.heap.size a b) : Still a b := fun j _ _ _ hj => h.block j (Array.getElem?_eq_some_iff.1 hj).1
end Go.Proofs.Ytgfjgenkpfdofaa
