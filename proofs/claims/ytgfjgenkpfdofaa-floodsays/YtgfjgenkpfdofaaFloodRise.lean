/-
  Copies of a map's states, gathered in a row.
-/
import Derived.Test.YtgfjgenkpfdofaaFloodMeet
import Derived.Test.YtgfjgenkpfdofaaFloodSort2
namespace Go.Proofs.Ytgfjgenkpfdofaa
open Go.RowKit St

def SV.cells (s : SV) : List Value := [.int .i64 s.own, .int .i64 s.seq, .slice s.a s.n s.cap]
def svC (ss : List SV) : List Value := ss.flatMap SV.cells
theorem svC_snoc (ss : List SV) (s : SV) : svC (ss ++ [s]) = svC ss ++ [.int .i64 s.own, .int .i64 s.seq, .slice s.a s.n s.cap] := by simp [svC, SV.cells]
theorem svC_get : ∀ (ss : List SV) (j : Nat) (s : SV), ss[j]? = some s → (svC ss)[j * 3]? = some (.int .i64 s.own) ∧ (svC ss)[j * 3 + 1]? = some (.int .i64 s.seq) ∧ (svC ss)[j * 3 + 2]? = some (.slice s.a s.n s.cap)
  | [], j, s, h => by simp at h
  | x :: l, 0, s, h => by
    have : x = s := by simpa using h
    subst this
    exact ⟨rfl, rfl, rfl⟩
  | x :: l, j + 1, s, h => by
    have h' : l[j]? = some s := by simpa using h
    obtain ⟨a, b, c⟩ := svC_get l j s h'
    have e : svC (x :: l) = .int .i64 x.own :: .int .i64 x.seq :: .slice x.a x.n x.cap :: svC l := rfl
    have e1 : (j + 1) * 3 = j * 3 + 3 := by omega
    have e2 : (j + 1) * 3 + 1 = j * 3 + 1 + 3 := by omega
    have e3 : (j + 1) * 3 + 2 = j * 3 + 2 + 3 := by omega
    rw [e, e2, e3, e1]
    simp only [List.getElem?_cons_succ]
    exact ⟨a, b, c⟩
theorem Row.sr {w : World} {g cap : Nat} {ss : List SV} (h : Row w 3 (.slice (some ⟨g, 0, none⟩) ss.length cap) ss.length (svC ss)) : SR w g cap ss := by
  rcases h.2 with ⟨e, _⟩ | ⟨g', cap', e, _, hle, hcm, _, hs⟩
  · cases e
  · cases e
    refine ⟨h.lt g rfl, fun j s e => ?_, hs, hle, hcm⟩
    obtain ⟨a, b, c⟩ := svC_get ss j s e
    exact ⟨Row.cell h _ _ a, Row.cell h _ _ b, Row.cell h _ _ c⟩
theorem len_of_sub : ∀ (l m : List Int), l.Pairwise (· ≠ ·) → (∀ x ∈ l, x ∈ m) → l.length ≤ m.length
  | [], _, _, _ => Nat.zero_le _
  | x :: l, m, hp, hs => by
    obtain ⟨h1, h2⟩ := List.pairwise_cons.1 hp
    have hx := hs x (by simp)
    have := len_of_sub l (m.erase x) h2 (fun y hy => (List.mem_erase_of_ne (fun e => h1 y hy e.symm)).2 (hs y (List.mem_cons_of_mem _ hy)))
    rw [List.length_erase_of_mem hx] at this
    have hm : 0 < m.length := List.length_pos_of_mem hx
    simp only [List.length_cons]
    omega

/-- What of a state is kept: its numbers and its edges, in a block of its own. -/
structure ElOk (w wr : World) (f : Int → Option SV) (es : Int → List Opt) (v : Value) (s : SV) : Prop where
  at_ : ∃ t, f s.own = some t ∧ s.seq = t.seq
  inr : inR s.own
  n : s.n = (es s.own).length
  opt : OptR wr s.a s.n (es s.own)
  nil : NilOk s.a s.cap
  new : ∀ j, Value.ownBlock (.slice s.a s.n s.cap) = some j → w.heap.size < j ∧ j < wr.heap.size ∧ v.ownBlock ≠ some j
structure Col (w wr : World) (f : Int → Option SV) (es : Int → List Opt) (left : Lit → Bool) (v : Value) (out : List SV) : Prop where
  row : Row wr 3 v out.length (svC out)
  own : ∀ g, v.ownBlock = some g → w.heap.size < g
  el : ∀ s ∈ out, ElOk w wr f es v s ∧ left (.int .i64 s.own) = false
  df : out.Pairwise (fun x y => x.own ≠ y.own)
  all : ∀ k, inR k → (f k).isSome = true → left (.int .i64 k) = false → ∃ s ∈ out, s.own = k
  bel : Below w.heap.size w wr
theorem Col.step {w wr w1 w3 : World} {f : Int → Option SV} {es : Int → List Opt} {left : Lit → Bool} {v v' : Value} {out : List SV} {s t : SV} (h : Col w wr f es left v out)
    (hg1 : wr.grownBy w1 (some w.heap.size)) (G : w1.grownBy w3 v.ownBlock) (hr : Row w3 3 v' (out.length + 1) (svC out ++ [.int .i64 s.own, .int .i64 s.seq, .slice s.a s.n s.cap]))
    (hv : ∀ g, v'.ownBlock = some g → v.ownBlock = some g ∨ wr.heap.size ≤ g) (hw : w.heap.size < wr.heap.size) (hnew : ∀ j, Value.ownBlock (.slice s.a s.n s.cap) = some j → wr.heap.size ≤ j ∧ j < w3.heap.size ∧ v'.ownBlock ≠ some j)
    (hx : inR s.own) (hlx : left (.int .i64 s.own) = true) (hfx : f s.own = some t) (hq : s.seq = t.seq) (hn : s.n = (es s.own).length) (ho : OptR w3 s.a s.n (es s.own)) (hnil : NilOk s.a s.cap) :
    Col w w3 f es (fun z => left z && !z.sameKey (.int .i64 s.own)) v' (out ++ [s]) := by
  have hsz : wr.heap.size ≤ w3.heap.size := Nat.le_trans hg1.size G.size
  have hK : ∀ i, i < wr.heap.size → i ≠ w.heap.size → v.ownBlock ≠ some i → w3.heap[i]? = wr.heap[i]? := fun i hi h1 h2 =>
    (G.block i (Nat.lt_of_lt_of_le hi hg1.size) (fun e => h2 e.symm)).trans (hg1.block i hi (fun e => h1 (by simpa using e)))
  refine ⟨?_, ?_, ?_, ?_, ?_, ?_⟩
  · rw [svC_snoc, List.length_append]
    exact hr
  · intro g hg
    rcases hv g hg with e | e
    · exact h.own g e
    · omega
  · intro q hq
    rcases List.mem_append.1 hq with hq | hq
    · obtain ⟨a, b⟩ := h.el q hq
      refine ⟨⟨a.at_, a.inr, a.n, a.opt.kept (cap := q.cap) (fun j hj => ?_), a.nil, fun j hj => ?_⟩, by simp [b]⟩
      · obtain ⟨c1, c2, c3⟩ := a.new j hj
        exact hK j c2 (by omega) c3
      · obtain ⟨c1, c2, c3⟩ := a.new j hj
        refine ⟨c1, by omega, fun e => ?_⟩
        rcases hv j e with e | e
        · exact c3 e
        · omega
    · have : q = s := by simpa using hq
      subst this
      refine ⟨⟨⟨t, hfx, by assumption⟩, hx, hn, ho, hnil, fun j hj => ?_⟩, by simp [sameKey_int]⟩
      obtain ⟨c1, c2, c3⟩ := hnew j hj
      exact ⟨by omega, c2, c3⟩
  · rw [List.pairwise_append]
    refine ⟨h.df, List.pairwise_singleton _ _, fun a ha b hb => ?_⟩
    have : b = s := by simpa using hb
    subst this
    intro e
    have := (h.el a ha).2
    rw [e, hlx] at this
    cases this
  · intro k hk hs hl
    by_cases e : k = s.own
    · exact ⟨s, by simp, e.symm⟩
    · have : left (.int .i64 k) = false := by simpa [sameKey_int, e] using hl
      obtain ⟨q, h1, h2⟩ := h.all k hk hs this
      exact ⟨q, by simp [h1], h2⟩
  · refine ⟨?_, ?_, ?_, ?_, ?_⟩
    · exact G.os.trans (hg1.os.trans h.bel.os)
    · exact G.tape.trans (hg1.tape.trans h.bel.tape)
    · exact G.output.trans (hg1.output.trans h.bel.output)
    · exact Nat.le_trans h.bel.size hsz
    · intro i hi
      refine (hK i (by omega) (by omega) (fun e => ?_)).trans (h.bel.block i hi)
      have := h.own i e
      omega
theorem Col.few {w wr : World} {f : Int → Option SV} {es : Int → List Opt} {left : Lit → Bool} {v : Value} {out : List SV} (h : Col w wr f es left v out) (hf : ∀ k s, inR k → f k = some s → 1 ≤ k ∧ k ≤ 6) : out.length ≤ 6 := by
  have h1 := len_of_sub (out.map SV.own) [1, 2, 3, 4, 5, 6] (by rw [List.pairwise_map]; exact h.df) (fun x hx => by
    obtain ⟨s, hs, rfl⟩ := List.mem_map.1 hx
    obtain ⟨t, ht, _⟩ := (h.el s hs).1.at_
    have := hf _ t (h.el s hs).1.inr ht
    simp
    omega)
  simpa using h1
end Go.Proofs.Ytgfjgenkpfdofaa
