/-
  A base of states: what it hands out (States, Owed, Get), plainly.
-/
import Derived.Test.YtgfjgenkpfdofaaNewestPure
import Derived.Test.YtgfjgenkpfdofaaStsIn
namespace Go.Proofs.Ytgfjgenkpfdofaa
open Go.RowKit St

/-- A list tells just what F says, by rising owners. -/
structure Lists (F : Int → Option PS) (n : Nat) (S : Nat → SV) (E : Nat → List Opt) : Prop where
  at_ : ∀ j, j < n → inR (S j).own ∧ F (S j).own = some ((S j).seq, E j)
  ok : ∀ j, j < n → stF (S j).own (S j).seq (E j) = 0
  all : ∀ k, inR k → (F k).isSome = true → ∃ j, j < n ∧ (S j).own = k
  ris : ∀ i j, i < j → j < n → (S i).own < (S j).own
theorem svGet (ts : List SV) (j : Nat) (h : j < ts.length) : ts[j]? = some (ts.getD j SV.zero) := by
  rw [List.getD_eq_getElem?_getD, List.getElem?_eq_getElem h]
  rfl
theorem Risen.lists {w w' : World} {m : FM} {f : Int → Option SV} {F : Int → Option PS} {v : Value} {ts : List SV} (hR : Risen w w' f (esOf F) v ts) (hT : Tie w m f F) :
    ∃ a cap, v = .slice a ts.length cap ∧ StsR w' a ts.length (fun j => ts.getD j SV.zero) (fun j => esOf F (ts.getD j SV.zero).own) ∧ Lists F ts.length (fun j => ts.getD j SV.zero) (fun j => esOf F (ts.getD j SV.zero).own) ∧ ts.length ≤ 6 ∧ (∀ j, Value.ownBlock v = some j → w.heap.size < j) := by
  have hel : ∀ j, j < ts.length → ElOk w w' f (esOf F) v (ts.getD j SV.zero) := fun j hj => hR.el _ (List.mem_of_getElem? (svGet ts j hj))
  have hat : ∀ j, j < ts.length → ∃ q, F (ts.getD j SV.zero).own = some q ∧ q.1 = (ts.getD j SV.zero).seq ∧ q.2 = esOf F (ts.getD j SV.zero).own ∧ stF (ts.getD j SV.zero).own q.1 q.2 = 0 := by
    intro j hj
    have h := hel j hj
    obtain ⟨t, ht, hs⟩ := h.at_
    cases e : F (ts.getD j SV.zero).own with
    | none => rw [hT.at_none h.inr e] at ht; cases ht
    | some q =>
      obtain ⟨t2, h2, h3⟩ := hT.at_some h.inr e
      rw [ht] at h2
      obtain rfl := Option.some.inj h2
      exact ⟨q, rfl, by rw [hs, h3.seq], by unfold esOf; rw [e]; rfl, h3.ok⟩
  have hL : Lists F ts.length (fun j => ts.getD j SV.zero) (fun j => esOf F (ts.getD j SV.zero).own) := by
    refine ⟨fun j hj => ?_, fun j hj => ?_, fun k hk hs => ?_, fun i j hij hj => ?_⟩
    · obtain ⟨q, h1, h2, h3, h4⟩ := hat j hj
      refine ⟨(hel j hj).inr, ?_⟩
      rw [h1, ← h2, ← h3]
    · obtain ⟨q, h1, h2, h3, h4⟩ := hat j hj
      rw [← h2, ← h3]
      exact h4
    · cases e : F k with
      | none => rw [e] at hs; cases hs
      | some q =>
        obtain ⟨t, ht, _⟩ := hT.at_some hk e
        obtain ⟨s, hm, hs2⟩ := hR.all k hk (by rw [ht]; rfl)
        obtain ⟨j, hj, hjs⟩ := List.getElem_of_mem hm
        refine ⟨j, hj, ?_⟩
        have : ts.getD j SV.zero = s := by rw [List.getD_eq_getElem?_getD, List.getElem?_eq_getElem hj]; exact hjs
        show (ts.getD j SV.zero).own = k
        rw [this]
        exact hs2
    · have hp := hR.ris
      have hi : i < ts.length := by omega
      have := List.pairwise_iff_getElem.1 hp i j hi hj hij
      have e1 : ts.getD i SV.zero = ts[i] := by rw [List.getD_eq_getElem?_getD, List.getElem?_eq_getElem hi]; rfl
      have e2 : ts.getD j SV.zero = ts[j] := by rw [List.getD_eq_getElem?_getD, List.getElem?_eq_getElem hj]; rfl
      show (ts.getD i SV.zero).own < (ts.getD j SV.zero).own
      rw [e1, e2]
      exact this
  have h6 : ts.length ≤ 6 := by
    have := len_of_sub (ts.map SV.own) [1, 2, 3, 4, 5, 6] (by rw [List.pairwise_map]; exact hR.ris.imp (fun h => by omega)) (fun x hx => by
      obtain ⟨s, hs, rfl⟩ := List.mem_map.1 hx
      obtain ⟨j, hj, rfl⟩ := List.getElem_of_mem hs
      have := stF_zero (hL.ok j hj)
      have e1 : ts.getD j SV.zero = ts[j] := by rw [List.getD_eq_getElem?_getD, List.getElem?_eq_getElem hj]; rfl
      have h1 := this.1
      rw [e1] at h1
      simp
      omega)
    simpa using this
  have hO : ∀ j, j < ts.length → OptR w' (ts.getD j SV.zero).a (ts.getD j SV.zero).n (esOf F (ts.getD j SV.zero).own) ∧ NilOk (ts.getD j SV.zero).a (ts.getD j SV.zero).cap ∧ (ts.getD j SV.zero).n ≤ maxLen := by
    intro j hj
    have h := hel j hj
    refine ⟨h.opt, h.nil, ?_⟩
    have := (stF_zero (hL.ok j hj)).2.2.1
    rw [h.n]
    unfold maxLen
    omega
  rcases hR.shape with ⟨rfl, rfl⟩ | ⟨g, cap, rfl, hS, hg⟩
  · exact ⟨none, 0, rfl, ⟨.inl rfl, fun j hj => by simp at hj⟩, hL, h6, fun j hj => by simp [Value.ownBlock] at hj⟩
  · refine ⟨_, _, rfl, ⟨.inr ⟨g, 0, rfl, fun j hj => ?_⟩, hO⟩, hL, h6, fun j hj => ?_⟩
    · obtain ⟨c1, c2, c3⟩ := hS.cell j _ (svGet ts j hj)
      rw [show 0 + j * 3 = j * 3 by omega]
      exact ⟨c1, c2, c3⟩
    · have : g = j := by simpa [Value.ownBlock] using hj
      omega
theorem BR.below {w w' : World} {B : Nat} {m : FM} {k : Nat} {K : Int → Option PS} {O : Nat → Int → Option PS} (h : BR w B m k K O) (hb : Below w.heap.size w w') : BR w' B m k K O := by
  obtain ⟨kn, ow, h1, h2, h3⟩ := h.ex
  exact ⟨⟨kn, ow, h1.below hb, h2.kept (KeptM.of_below m hb), fun i hi => (h3 i hi).kept (KeptM.of_below m hb)⟩, h.nobM hb.size⟩
theorem BR.congr {w : World} {B : Nat} {m : FM} {k : Nat} {K K' : Int → Option PS} {O O' : Nat → Int → Option PS} (h : BR w B m k K O) (hK : ∀ x, K x = K' x) (hO : ∀ i, i < m.bs.length → ∀ x, O i x = O' i x) : BR w B m k K' O' := by
  obtain ⟨kn, ow, h1, h2, h3⟩ := h.ex
  obtain rfl : K = K' := funext hK
  refine ⟨⟨kn, ow, h1, h2, fun i hi => ?_⟩, h.nob⟩
  have : O i = O' i := funext (hO i hi)
  rw [← this]
  exact h3 i hi
theorem states_base (B : Nat) (m : FM) (k : Nat) (K : Int → Option PS) (O : Nat → Int → Option PS) (w : World) (h : BR w B m k K O) :
    Calls Try.prog 19 #[.pointer (some ⟨B, 0, none⟩)] w fun e w' => ∃ a n cap S E, e = .returned (.slice a n cap) ∧ StsR w' a n S E ∧ Lists K n S E ∧ n ≤ 6 ∧ (∀ j, Value.ownBlock (.slice a n cap) = some j → w.heap.size < j) ∧ Below w.heap.size w w' := by
  obtain ⟨kn, ow, hF, hT, hO⟩ := h.ex
  refine (states_any B m k kn ow (esOf K) w hF hT.fine).mono ?_
  rintro e w1 ⟨v, ts, rfl, hR⟩
  obtain ⟨a, cap, rfl, h1, h2, h3, h4⟩ := hR.lists hT
  exact ⟨a, _, cap, _, _, rfl, h1, h2, h3, h4, hR.bel⟩
theorem owed_base (B : Nat) (m : FM) (k : Nat) (K : Int → Option PS) (O : Nat → Int → Option PS) (p : Nat) (w : World) (h : BR w B m k K O) (hp : p < m.bs.length) :
    Calls Try.prog 21 #[.pointer (some ⟨B, 0, none⟩), .int .i64 (p : Int)] w fun e w' => ∃ a n cap S E, e = .returned (.slice a n cap) ∧ StsR w' a n S E ∧ Lists (O p) n S E ∧ n ≤ 6 ∧ (∀ j, Value.ownBlock (.slice a n cap) = some j → w.heap.size < j) ∧ Below w.heap.size w w' := by
  obtain ⟨kn, ow, hF, hT, hO⟩ := h.ex
  refine (owed_yes B m k kn ow (esOf (O p)) p w hF hp (hO p hp).fine).mono ?_
  rintro e w1 ⟨v, ts, rfl, hR⟩
  obtain ⟨a, cap, rfl, h1, h2, h3, h4⟩ := hR.lists (hO p hp)
  exact ⟨a, _, cap, _, _, rfl, h1, h2, h3, h4, hR.bel⟩
def ownOf (K : Int → Option PS) (i : Int) : Int := match K i with | none => 0 | some _ => i
def seqAt (K : Int → Option PS) (i : Int) : Int := match K i with | none => 0 | some q => q.1
theorem get_base (B : Nat) (m : FM) (k : Nat) (K : Int → Option PS) (O : Nat → Int → Option PS) (i : Int) (w : World) (h : BR w B m k K O) (hr : inR i) :
    Calls Try.prog 23 #[.pointer (some ⟨B, 0, none⟩), .int .i64 i] w fun e w' => ∃ a cap, e = .returned (.tuple #[.agg #[.int .i64 (ownOf K i), .int .i64 (seqAt K i), .slice a (esOf K i).length cap], .bool (K i).isSome]) ∧ OptR w' a (esOf K i).length (esOf K i) ∧ NilOk a cap ∧ (esOf K i).length ≤ 6 ∧ Below w.heap.size w w' := by
  obtain ⟨kn, ow, hF, hT, hO⟩ := h.ex
  cases e : K i with
  | none =>
    have hk := hT.at_none hr e
    refine (get_any B m k kn ow i SV.zero false [] w hF hr (by rw [hk]; rfl) (by rw [hk]; rfl) ⟨rfl, .inl rfl⟩ (by decide) (fun _ => rfl)).mono ?_
    rintro e1 w1 ⟨a, cap, rfl, h1, h2, h3⟩
    have e1 : esOf K i = [] := by simp [esOf, e]
    have e2 : ownOf K i = 0 := by simp [ownOf, e]
    have e3 : seqAt K i = 0 := by simp [seqAt, e]
    rw [e1, e2, e3]
    exact ⟨a, cap, rfl, h1, h2, by simp, h3⟩
  | some q =>
    obtain ⟨s, hs, hq⟩ := hT.at_some hr e
    have h6 := (stF_zero hq.ok).2.2.1
    refine (get_any B m k kn ow i s true q.2 w hF hr (by rw [hs]; rfl) (by rw [hs]; rfl) hq.opt (by rw [hq.n]; omega) hq.nil).mono ?_
    rintro e1 w1 ⟨a, cap, rfl, h1, h2, h3⟩
    have e1 : esOf K i = q.2 := by simp [esOf, e]
    have e2 : ownOf K i = s.own := by simp [ownOf, e, hq.own]
    have e3 : seqAt K i = s.seq := by simp [seqAt, e, hq.seq]
    rw [e1, e2, e3]
    exact ⟨a, cap, rfl, h1, h2, h6, h3⟩
end Go.Proofs.Ytgfjgenkpfdofaa
