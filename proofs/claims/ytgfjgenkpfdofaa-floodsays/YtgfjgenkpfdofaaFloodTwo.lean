/-
  Two bases of states in one memory: what turns one leaves the other.
-/
import Derived.Test.YtgfjgenkpfdofaaFloodLight
namespace Go.Proofs.Ytgfjgenkpfdofaa
open Go.RowKit St

theorem SMap.obj {w : World} {b n : Nat} {f : Int → Option SV} (h : SMap w b n f) : ∃ es cl, w.heap[b]? = some (.map es cl) := by
  obtain ⟨D, ⟨es, cl, h1, _⟩, _⟩ := h.own
  exact ⟨es, cl, h1⟩
theorem cells_not_map {w : World} {b g : Nat} {c : Array Value} {t : TypeId} {fr : Nat × Nat} (hc : w.heap[g]? = some (.cells c t fr)) (hm : ∃ es cl, w.heap[b]? = some (.map es cl)) : g ≠ b := by
  obtain ⟨es, cl, hm⟩ := hm
  rintro rfl
  rw [hc] at hm
  cases hm
theorem cell_not_map {w : World} {b : Nat} {p : Addr} {v : Value} (hc : w.cell? p = some v) (hm : ∃ es cl, w.heap[b]? = some (.map es cl)) : p.block ≠ b := by
  obtain ⟨es, cl, hm⟩ := hm
  rintro rfl
  unfold World.cell? at hc
  rw [hm] at hc
  cases hc
theorem BR.maps {w : World} {B : Nat} {m : FM} {k : Nat} {K : Int → Option PS} {O : Nat → Int → Option PS} (h : BR w B m k K O) : ∀ b, (b = m.bm ∨ b ∈ m.bs) → ∃ es cl, w.heap[b]? = some (.map es cl) := by
  obtain ⟨kn, ow, h1, _, _⟩ := h.ex
  intro b hb
  rcases hb with rfl | hb
  · exact h1.km.obj
  · obtain ⟨i, hi, rfl⟩ := List.getElem_of_mem hb
    exact (h1.om i _ (List.getElem?_eq_getElem hi)).obj
theorem BR.few {w : World} {B : Nat} {m : FM} {k : Nat} {K : Int → Option PS} {O : Nat → Int → Option PS} (h : BR w B m k K O) : m.bs.length ≤ 3 := by
  obtain ⟨kn, ow, h1, _, _⟩ := h.ex
  exact h1.few
theorem BR.mlt {w : World} {B : Nat} {m : FM} {k : Nat} {K : Int → Option PS} {O : Nat → Int → Option PS} (h : BR w B m k K O) : ∀ b, (b = m.bm ∨ b ∈ m.bs) → b < w.heap.size := by
  intro b hb
  obtain ⟨es, cl, h1⟩ := h.maps b hb
  exact (Array.getElem?_eq_some_iff.1 h1).1
theorem KeptM.heap_cells {w w' : World} {B : Nat} {m : FM} {k : Nat} {K : Int → Option PS} {O : Nat → Int → Option PS} (hk : KeptM w w' m) (h : BR w B m k K O) {g : Nat} {c : Array Value} {t : TypeId} {fr : Nat × Nat} (hc : w.heap[g]? = some (.cells c t fr)) : w'.heap[g]? = w.heap[g]? :=
  hk.block g (Array.getElem?_eq_some_iff.1 hc).1 (cells_not_map hc (h.maps _ (.inl rfl))) (fun e => cells_not_map hc (h.maps _ (.inr e)) rfl)
theorem KeptM.cell {w w' : World} {B : Nat} {m : FM} {k : Nat} {K : Int → Option PS} {O : Nat → Int → Option PS} (hk : KeptM w w' m) (h : BR w B m k K O) {p : Addr} {v : Value} (hc : w.cell? p = some v) : w'.cell? p = some v := by
  rw [World.cell?_of_block (w := w) (hk.block p.block (World.block_lt_of_cell? w _ hc) (cell_not_map hc (h.maps _ (.inl rfl))) (fun e => cell_not_map hc (h.maps _ (.inr e)) rfl))]
  exact hc
theorem OptR.two {w w' : World} {B : Nat} {m : FM} {k : Nat} {K : Int → Option PS} {O : Nat → Int → Option PS} {a : Option Addr} {n : Nat} {es : List Opt} (h : OptR w a n es) (hk : KeptM w w' m) (hb : BR w B m k K O) : OptR w' a n es := by
  refine ⟨h.1, ?_⟩
  rcases h.2 with h2 | ⟨b, off, rfl, h2⟩
  · exact .inl h2
  · exact .inr ⟨b, off, rfl, fun j hj => ⟨hk.cell hb (h2 j hj).1, hk.cell hb (h2 j hj).2⟩⟩
theorem StsR.two {w w' : World} {B : Nat} {m : FM} {k : Nat} {K : Int → Option PS} {O : Nat → Int → Option PS} {a : Option Addr} {n : Nat} {S : Nat → SV} {E : Nat → List Opt} (h : StsR w a n S E) (hk : KeptM w w' m) (hb : BR w B m k K O) : StsR w' a n S E := by
  refine ⟨?_, fun j hj => ⟨(h.opt j hj).1.two hk hb, (h.opt j hj).2⟩⟩
  rcases h.row with h2 | ⟨b, off, rfl, h2⟩
  · exact .inl h2
  · exact .inr ⟨b, off, rfl, fun j hj => ⟨hk.cell hb (h2 j hj).1, hk.cell hb (h2 j hj).2.1, hk.cell hb (h2 j hj).2.2⟩⟩
/-- Two bases whose maps are others. -/
structure Apart (m1 m2 : FM) : Prop where
  ne : ∀ b, (b = m1.bm ∨ b ∈ m1.bs) → b ≠ m2.bm ∧ b ∉ m2.bs
theorem Apart.symm {m1 m2 : FM} (h : Apart m1 m2) : Apart m2 m1 := by
  refine ⟨fun b hb => ⟨?_, fun e => ?_⟩⟩
  · rintro rfl
    have := h.ne _ (.inl rfl)
    rcases hb with hb | hb
    · exact this.1 hb
    · exact this.2 hb
  · have := h.ne _ (.inr e)
    rcases hb with hb | hb
    · exact this.1 hb
    · exact this.2 hb
theorem BR.two {w w' : World} {B1 B2 : Nat} {m1 m2 : FM} {k1 k2 : Nat} {K1 K2 : Int → Option PS} {O1 O2 : Nat → Int → Option PS} (h : BR w B1 m1 k1 K1 O1) (h2 : BR w B2 m2 k2 K2 O2) (ha : Apart m1 m2) (hk : KeptM w w' m2) (hpos : 0 < m1.bs.length) : BR w' B1 m1 k1 K1 O1 := by
  obtain ⟨kn, ow, hF, hT, hO⟩ := h.ex
  have tie : ∀ {f : Int → Option SV} {F : Int → Option PS}, Tie w m1 f F → Tie w' m1 f F := by
    intro f F ht x hr
    have := ht x hr
    cases e : F x with
    | none => rw [e] at this; exact this
    | some q =>
      rw [e] at this
      obtain ⟨s, h1, h3⟩ := this
      exact ⟨s, h1, ⟨h3.own, h3.seq, h3.n, h3.opt.two hk h2, h3.nil, h3.ok, h3.far⟩⟩
  have mp : ∀ b, (b = m1.bm ∨ b ∈ m1.bs) → w'.heap[b]? = w.heap[b]? := fun b hb => hk.block b (h.mlt b hb) (ha.ne b hb).1 (ha.ne b hb).2
  refine ⟨⟨kn, ow, ⟨(hk.heap_cells h2 hF.blk).trans hF.blk, ?_, hF.km.keep (mp _ (.inl rfl)), fun i b e => (hF.om i b e).keep (mp b (.inr (List.mem_of_getElem? e))), hF.few, hF.nB, hF.nd⟩, tie hT, fun i hi => tie (hO i hi)⟩, h.nobM hk.size⟩
  refine hF.row.keep hk.size (fun g hg => ?_)
  rcases hF.row.2 with ⟨e, _⟩ | ⟨g', cap', e, hrow⟩
  · rw [e] at hg
    simp [Value.ownBlock] at hg
  · rw [e] at hg
    have : g' = g := by simpa [Value.ownBlock] using hg
    subst this
    obtain ⟨C, t, fr, hC⟩ : ∃ C t fr, w.heap[g']? = some (.cells C t fr) := by
      have hc := hF.port 0 _ (List.getElem?_eq_getElem hpos)
      have hg : m1.g = g' := by
        have := e
        simp [FM.sl] at this
        exact this.1
      rw [hg] at hc
      unfold World.cell? at hc
      split at hc
      · exact ⟨_, _, _, by assumption⟩
      · cases hc
    exact hk.heap_cells h2 hC
theorem BR.congrR {w : World} {B : Nat} {m : FM} {k : Nat} {K K' : Int → Option PS} {O O' : Nat → Int → Option PS} (h : BR w B m k K O) (hK : ∀ x, inR x → K x = K' x) (hO : ∀ i, i < m.bs.length → ∀ x, inR x → O i x = O' i x) : BR w B m k K' O' := by
  obtain ⟨kn, ow, h1, h2, h3⟩ := h.ex
  refine ⟨⟨kn, ow, h1, fun x hx => ?_, fun i hi x hx => ?_⟩, h.nob⟩
  · rw [← hK x hx]
    exact h2 x hx
  · rw [← hO i hi x hx]
    exact h3 i hi x hx
theorem BR.mono {w : World} {B : Nat} {m : FM} {k k' : Nat} {K : Int → Option PS} {O : Nat → Int → Option PS} (h : BR w B m k K O) (hk : k ≤ k') : BR w B m k' K O := by
  obtain ⟨kn, ow, h1, h2, h3⟩ := h.ex
  exact ⟨⟨kn, ow, h1.mono hk, h2, h3⟩, h.nob⟩
/-- Nothing that was there has turned but both bases' own maps. -/
structure Kept2 (w w' : World) (m1 m2 : FM) : Prop where
  os : w'.os = w.os
  tape : w'.tape = w.tape
  output : w'.output = w.output
  size : w.heap.size ≤ w'.heap.size
  block : ∀ i, i < w.heap.size → i ≠ m1.bm → i ∉ m1.bs → i ≠ m2.bm → i ∉ m2.bs → w'.heap[i]? = w.heap[i]?
theorem Kept2.refl (w : World) (m1 m2 : FM) : Kept2 w w m1 m2 := ⟨rfl, rfl, rfl, Nat.le_refl _, fun _ _ _ _ _ _ => rfl⟩
theorem Kept2.left {a b c : World} {m1 m2 : FM} (h : Kept2 a b m1 m2) (k : KeptM b c m1) : Kept2 a c m1 m2 :=
  ⟨k.os.trans h.os, k.tape.trans h.tape, k.output.trans h.output, Nat.le_trans h.size k.size, fun i hi h1 h2 h3 h4 => (k.block i (Nat.lt_of_lt_of_le hi h.size) h1 h2).trans (h.block i hi h1 h2 h3 h4)⟩
theorem Kept2.right {a b c : World} {m1 m2 : FM} (h : Kept2 a b m1 m2) (k : KeptM b c m2) : Kept2 a c m1 m2 :=
  ⟨k.os.trans h.os, k.tape.trans h.tape, k.output.trans h.output, Nat.le_trans h.size k.size, fun i hi h1 h2 h3 h4 => (k.block i (Nat.lt_of_lt_of_le hi h.size) h3 h4).trans (h.block i hi h1 h2 h3 h4)⟩
theorem Kept2.comm {a b : World} {m1 m2 : FM} (h : Kept2 a b m1 m2) : Kept2 a b m2 m1 := ⟨h.os, h.tape, h.output, h.size, fun i hi h1 h2 h3 h4 => h.block i hi h3 h4 h1 h2⟩
theorem Kept2.trans {a b c : World} {m1 m2 : FM} (h : Kept2 a b m1 m2) (k : Kept2 b c m1 m2) : Kept2 a c m1 m2 :=
  ⟨k.os.trans h.os, k.tape.trans h.tape, k.output.trans h.output, Nat.le_trans h.size k.size, fun i hi h1 h2 h3 h4 => (k.block i (Nat.lt_of_lt_of_le hi h.size) h1 h2 h3 h4).trans (h.block i hi h1 h2 h3 h4)⟩
theorem Kept2.below {w a b : World} {m1 m2 : FM} (h : Below w.heap.size w a) (k : Kept2 a b m1 m2) (h1 : w.heap.size ≤ m1.bm ∧ ∀ x ∈ m1.bs, w.heap.size ≤ x) (h2 : w.heap.size ≤ m2.bm ∧ ∀ x ∈ m2.bs, w.heap.size ≤ x) : Below w.heap.size w b :=
  ⟨k.os.trans h.os, k.tape.trans h.tape, k.output.trans h.output, Nat.le_trans h.size k.size, fun i hi => by
    rw [k.block i (Nat.lt_of_lt_of_le hi h.size) (by omega) (fun e => by have := h1.2 i e; omega) (by omega) (fun e => by have := h2.2 i e; omega)]
    exact h.block i hi⟩
theorem Kept2.cell {w w' : World} {B1 B2 : Nat} {m1 m2 : FM} {k1 k2 : Nat} {K1 K2 : Int → Option PS} {O1 O2 : Nat → Int → Option PS} (hk : Kept2 w w' m1 m2) (h : BR w B1 m1 k1 K1 O1) (h2 : BR w B2 m2 k2 K2 O2) {p : Addr} {v : Value} (hc : w.cell? p = some v) : w'.cell? p = some v := by
  rw [World.cell?_of_block (w := w) (hk.block p.block (World.block_lt_of_cell? w _ hc) (cell_not_map hc (h.maps _ (.inl rfl))) (fun e => cell_not_map hc (h.maps _ (.inr e)) rfl) (cell_not_map hc (h2.maps _ (.inl rfl))) (fun e => cell_not_map hc (h2.maps _ (.inr e)) rfl))]
  exact hc
theorem StsR.two2 {w w' : World} {B1 B2 : Nat} {m1 m2 : FM} {k1 k2 : Nat} {K1 K2 : Int → Option PS} {O1 O2 : Nat → Int → Option PS} {a : Option Addr} {n : Nat} {S : Nat → SV} {E : Nat → List Opt} (h : StsR w a n S E) (hk : Kept2 w w' m1 m2) (hb : BR w B1 m1 k1 K1 O1) (hb2 : BR w B2 m2 k2 K2 O2) : StsR w' a n S E := by
  refine ⟨?_, fun j hj => ⟨?_, (h.opt j hj).2⟩⟩
  · rcases h.row with h2 | ⟨b, off, rfl, h2⟩
    · exact .inl h2
    · exact .inr ⟨b, off, rfl, fun j hj => ⟨hk.cell hb hb2 (h2 j hj).1, hk.cell hb hb2 (h2 j hj).2.1, hk.cell hb hb2 (h2 j hj).2.2⟩⟩
  · obtain ⟨h1, h2⟩ := (h.opt j hj).1
    refine ⟨h1, ?_⟩
    rcases h2 with h2 | ⟨b, off, e, h2⟩
    · exact .inl h2
    · exact .inr ⟨b, off, e, fun j hj => ⟨hk.cell hb hb2 (h2 j hj).1, hk.cell hb hb2 (h2 j hj).2⟩⟩
end Go.Proofs.Ytgfjgenkpfdofaa
