/-
  NtOwn
-/
import Derived.Test.YtieklnlbljejdaaGreatDoorG36
namespace Go.Proofs.YtieklnlbljejdaaGreatDoor
open Go.RowKit St
namespace Rt
def newX (w w' : World) (y' : Yt) : Nat → Prop := fun k => w.heap.size ≤ k ∧ k < w'.heap.size ∧ (y'.own k ∨ y'.ext k)
theorem NetR.owned {w w' : World} {y y' : Yt} {n n' : NtM} (h : NetR w y n) (hs : w.heap.size ≤ w'.heap.size) (hk : ∀ k, k < w.heap.size → ¬ y.own k → ¬ y.ext k → w'.heap[k]? = w.heap[k]?)
 (hM : y'.bM = y.bM) (hz : y'.z = fun j => (y.z j).plus (newX w w' y')) (hnew : ∀ k, y'.own k ∨ y'.ext k → k < w'.heap.size)
 (hown : ∀ k, y'.own k → y.own k ∨ w.heap.size ≤ k) (hext : ∀ k, y'.ext k → y.ext k ∨ w.heap.size ≤ k) (hn : n'.n = n.n) (hms : n'.ms = n.ms) (hR : n'.R = n.R)
 (c9 : n'.nc ≤ 9)
 (blk : Blk w' y'.N #[.slice (some ⟨y'.gR, 0, none⟩) n'.n y'.capR, .slice (some ⟨y'.gI, 0, none⟩) n'.n y'.capI, .map (some y'.bM), y'.cv n'.nc] 190)
 (rr : Cel w' y'.gR 0 n'.n (fun i => .pointer (some ⟨(y.z i).R, 0, none⟩))) (ri : Cel w' y'.gI 0 n'.n y'.iv) (rc : ∀ g, y'.gC = some g → ∀ c, c < n'.nc → Cel w' g (c * 7) 7 (cbF (n'.C c) (y'.ov c))) (gc : ∀ c, c < n'.nc → ∃ g, y'.gC = some g)
 (ib : ∀ i, i < n'.n → Row w' 3 (y'.iv i) (n'.inb i).length (msgC (n'.inb i))) (ob : ∀ c d, c < n'.nc → d < 2 → Row w' 1 (y'.ov c d) ((n'.C c).on d).length (cells8 ((n'.C c).on d))) (ol : ∀ c d, c < n'.nc → d < 2 → ((n'.C c).on d).length ≤ 2000)
 (en : ∀ c d, c < n'.nc → d < 2 → ((n'.C c).e d).1 < n'.n ∧ ((n'.C c).e d).2 < 3) (inj : ∀ l l' k, y'.at l = some k → y'.at l' = some k → l = l') (nx : ∀ k, y'.ext k → ¬ y'.own k) :
 NetR w' y' n' ∧ ∀ k, y'.all n.n k → y.all n.n k ∨ w.heap.size ≤ k := by
 have hfoot : ∀ j k, (y'.z j).foot k ↔ (y.z j).foot k := fun j k => by rw [hz]; exact Iff.rfl
 have hmk := h.mapLt
 refine ⟨⟨by rw [hn]; exact h.n1, by rw [hn]; exact h.n6, c9, blk, ?_, ri, rc, gc, ?_, fun i hi => ?_, fun i hi => ?_, ib, ob, ol, en, inj, fun i hi k ha => ?_, nx, ⟨fun e => ?_, fun e => ?_, fun i hi e => ?_⟩, fun e => ?_⟩, fun k hk' => ?_⟩
 · refine rr.congr fun j _ => ?_
   rw [hz]
   rfl
 · obtain ⟨E, h1, h2⟩ := h.mp
   refine ⟨E, ?_, by rw [hn, hms]; exact h2⟩
   rw [hM]
   exact h1.keep (hk _ hmk h.nM.1 h.nM.2.1)
 · rw [hn] at hi
   rw [hz, hR]
   refine (h.rt i hi).besides hs (fun k hk' hc => hk k hk' (fun e => ?_) (fun e => ?_)) _ (fun k e => ⟨e.1, e.2.1⟩)
   · have ha := h.away i hi k (.inl e)
     rcases hc with hc | hc
     · exact hc ha.1
     · rw [(h.rn i hi).1] at hc; exact ha.2 hc
   · have ha := h.away i hi k (.inr (.inl e))
     rcases hc with hc | hc
     · exact hc ha.1
     · rw [(h.rn i hi).1] at hc; exact ha.2 hc
 · rw [hn] at hi
   rw [hR]
   exact h.rn i hi
 · rw [hn] at hi ha
   rw [hz]
   show ((y.z i).fm.no k ∨ newX w w' y' k) ∧ ¬ (y.z i).mine 3 k
   have hnot : w.heap.size ≤ k → ¬ (y.z i).mine 3 k := fun e e1 => by
    have := h.footLt hi (.inl e1)
    omega
   rcases ha with e | e | ⟨j, hj, hne, e⟩
   · rcases hown k e with e1 | e1
     · have ha := h.away i hi k (.inl e1)
       exact ⟨.inl ha.1, ha.2⟩
     · exact ⟨.inr ⟨e1, hnew k (.inl e), .inl e⟩, hnot e1⟩
   · rcases hext k e with e1 | e1
     · have ha := h.away i hi k (.inr (.inl e1))
       exact ⟨.inl ha.1, ha.2⟩
     · exact ⟨.inr ⟨e1, hnew k (.inr e), .inr e⟩, hnot e1⟩
   · have ha := h.away i hi k (.inr (.inr ⟨j, hj, hne, (hfoot j k).1 e⟩))
     exact ⟨.inl ha.1, ha.2⟩
 · rw [hM] at e
   rcases hown _ e with e1 | e1
   · exact h.nM.1 e1
   · omega
 · rw [hM] at e
   rcases hext _ e with e1 | e1
   · exact h.nM.2.1 e1
   · omega
 · rw [hn] at hi
   rw [hM] at e
   exact h.nM.2.2 i hi ((hfoot i _).1 e)
 · rcases hown 0 e with e1 | e1
   · exact h.z0 e1
   · have := h.mapLt; omega
 · rcases hk' with e | ⟨j, hj, e⟩
   · exact (hown k e).imp_left .inl
   · exact .inl (.inr ⟨j, hj, (hfoot j k).1 e⟩)
theorem NetR.at_lt {w : World} {y : Yt} {n : NtM} (h : NetR w y n) {l : Lab} {k : Nat} (e : y.at l = some k) : k < w.heap.size := h.lt (.inl ⟨l, e⟩)
theorem NetR.at_ne {w : World} {y : Yt} {n : NtM} (h : NetR w y n) {l l' : Lab} {k k' : Nat} (e : y.at l = some k) (e' : y.at l' = some k') (hne : l ≠ l') : k ≠ k' := fun x => hne (h.inj l l' k e (by rw [e', x]))
theorem NetR.cable {w w' : World} {y : Yt} {n : NtM} {c g : Nat} (h : NetR w y n) (hc : c < n.nc) (hg : y.gC = some g) (cb : CbM) (o : Nat → Value) (hs : w.heap.size ≤ w'.heap.size) (hos : w'.os = w.os) (htp : w'.tape = w.tape) (hou : w'.output = w.output)
 (hk : ∀ k, k < w.heap.size → k ≠ g → (∀ d, d < 2 → (y.ov c d).ownBlock ≠ some k) → w'.heap[k]? = w.heap[k]?)
 (hcell : ∀ j, j < c * 7 ∨ c * 7 + 7 ≤ j → w'.cell? ⟨g, j, none⟩ = w.cell? ⟨g, j, none⟩) (hfz : ∀ j, w'.frozen? ⟨g, j, none⟩ = w.frozen? ⟨g, j, none⟩) (hcb : Cel w' g (c * 7) 7 (cbF cb o))
 (hob : ∀ d, d < 2 → Row w' 1 (o d) (cb.on d).length (cells8 (cb.on d))) (hol : ∀ d, d < 2 → (cb.on d).length ≤ 2000) (hen : cb.e = (n.C c).e)
 (hown : ∀ d k, d < 2 → (o d).ownBlock = some k → (y.ov c d).ownBlock = some k ∨ w.heap.size ≤ k) (hne : ∀ k, (o 0).ownBlock = some k → (o 1).ownBlock ≠ some k) : WentN w w' y (n.setC c cb) n.n := by
 obtain ⟨ov, hov⟩ : ∃ ov : Nat → Nat → Value, ov = fun x d => if x = c ∧ d < 2 then o d else y.ov x d := ⟨_, rfl⟩
 have ov1 : ∀ d, d < 2 → ov c d = o d := fun d hd => by rw [hov]; simp [hd]
 have ov2 : ∀ x d, ¬ (x = c ∧ d < 2) → ov x d = y.ov x d := fun x d hx => by rw [hov]; simp only [if_neg hx]
 obtain ⟨y1, hy1⟩ : ∃ y1 : Yt, y1 = { y with ov := ov } := ⟨_, rfl⟩
 obtain ⟨y', hy'⟩ : ∃ y' : Yt, y' = { y with ov := ov, z := fun j => (y.z j).plus (newX w w' y1) } := ⟨_, rfl⟩
 have hown1 : ∀ k, y'.own k ↔ y1.own k := fun k => by
  rw [hy', hy1]
  constructor
  · rintro ⟨l, e⟩
    exact ⟨l, by cases l <;> exact e⟩
  · rintro ⟨l, e⟩
    exact ⟨l, by cases l <;> exact e⟩
 have hX : newX w w' y1 = newX w w' y' := by
  funext k
  apply propext
  unfold newX
  rw [← hown1 k]
  have : y1.ext = y'.ext := by rw [hy1, hy']
  rw [this]
 have hat : ∀ l k, y'.at l = some k → y.at l = some k ∨ (w.heap.size ≤ k ∧ ∃ d, d < 2 ∧ l = .on c d ∧ (o d).ownBlock = some k) := by
  intro l k e
  rw [hy'] at e
  cases l with
  | N => exact .inl e
  | R => exact .inl e
  | I => exact .inl e
  | C => exact .inl e
  | ib i => exact .inl e
  | on x d =>
    have e' : (ov x d).ownBlock = some k := e
    by_cases hx : x = c ∧ d < 2
    · obtain ⟨rfl, hd⟩ := hx
      rw [ov1 d hd] at e'
      rcases hown d k hd e' with e1 | e1
      · exact .inl e1
      · exact .inr ⟨e1, d, hd, rfl, e'⟩
    · rw [ov2 x d hx] at e'
      exact .inl e'
 have hlt : ∀ k, y'.own k → k < w'.heap.size := by
  rintro k ⟨l, e⟩
  rcases hat l k e with e1 | ⟨_, d, hd, rfl, e1⟩
  · exact Nat.lt_of_lt_of_le (h.at_lt e1) hs
  · exact (hob d hd).lt k e1
 have hsame : ∀ l k, y.at l = some k → l ≠ .C → (∀ d, d < 2 → l ≠ .on c d) → w'.heap[k]? = w.heap[k]? := by
  intro l k e h1 h2
  refine hk k (h.at_lt e) (fun e1 => ?_) (fun d hd e1 => ?_)
  · exact h.at_ne e (show y.at .C = some g from hg) h1 e1
  · exact h2 d hd (h.inj _ _ k e (show y.at (.on c d) = some k from e1))
 have H := h.owned (y' := y') (n' := n.setC c cb) hs (fun k hk' h1 _ => hk k hk' (fun e => h1 ⟨.C, by rw [e]; exact hg⟩) (fun d _ e => h1 ⟨.on c d, e⟩)) (by rw [hy']) (by rw [← hX, hy'])
  (fun k e => e.elim (hlt k) (fun e => by
    have e' : y.ext k := by rw [hy'] at e; exact e
    exact Nat.lt_of_lt_of_le (h.lt (.inr e')) hs))
  (by
    rintro k ⟨l, e⟩
    rcases hat l k e with e1 | ⟨e1, _⟩
    · exact .inl ⟨l, e1⟩
    · exact .inr e1) (fun k e => .inl (by rw [hy'] at e; exact e)) rfl rfl rfl h.c9 (by rw [hy']; exact h.blk.keep (hsame .N _ rfl (fun e => nomatch e) (fun _ _ e => nomatch e)))
  (by rw [hy']; exact h.rr.keep (hsame .R _ rfl (fun e => nomatch e) (fun _ _ e => nomatch e))) (by rw [hy']; exact h.ri.keep (hsame .I _ rfl (fun e => nomatch e) (fun _ _ e => nomatch e)))
  (by
    intro g' hg' x hx
    have hg2 : y.gC = some g' := by rw [hy'] at hg'; exact hg'
    obtain rfl : g = g' := by rw [hg] at hg2; exact Option.some.inj hg2
    have hx' : x < n.nc := hx
    show Cel w' g (x * 7) 7 (cbF (upN n.C c cb x) (y'.ov x))
    by_cases e : x = c
    · subst e
      rw [upN_same]
      refine hcb.congr fun j _ => ?_
      have e0 : y'.ov x 0 = o 0 := by rw [hy']; exact ov1 0 (by decide)
      have e1 : y'.ov x 1 = o 1 := by rw [hy']; exact ov1 1 (by decide)
      unfold cbF
      rw [e0, e1]
    · rw [upN_other _ _ e]
      have hb := h.rc g hg x hx'
      have e2 : ∀ d, y'.ov x d = y.ov x d := fun d => by rw [hy']; exact ov2 x d (fun e' => e e'.1)
      intro j hj
      have hr : x * 7 + j < c * 7 ∨ c * 7 + 7 ≤ x * 7 + j := by
       rcases Nat.lt_or_gt_of_ne e with h1 | h1
       · exact .inl (by omega)
       · exact .inr (by omega)
      refine ⟨(hcell _ hr).trans ?_, (hfz _).trans (hb.fz j hj)⟩
      rw [hb.cell j hj]
      unfold cbF
      rw [e2 0, e2 1])
  (by
    intro x hx
    obtain ⟨g', e⟩ := h.gc x hx
    exact ⟨g', by rw [hy']; exact e⟩)
  (by
    intro i hi
    have := (h.ib i hi).keep hs (fun k e => hsame (.ib i) k e (fun e => nomatch e) (fun _ _ e => nomatch e))
    rw [hy']
    exact this)
  (by
    intro x d hx hd
    show Row w' 1 (y'.ov x d) ((upN n.C c cb x).on d).length (cells8 ((upN n.C c cb x).on d))
    by_cases e : x = c
    · subst e
      have e0 : y'.ov x d = o d := by rw [hy']; exact ov1 d hd
      rw [upN_same, e0]
      exact hob d hd
    · have e0 : y'.ov x d = y.ov x d := by rw [hy']; exact ov2 x d (fun e' => e e'.1)
      rw [upN_other _ _ e, e0]
      exact (h.ob x d hx hd).keep hs (fun k e1 => hsame (.on x d) k e1 (fun e => nomatch e) (fun d' _ e' => e (by injection e'))))
  (by
    intro x d hx hd
    show ((upN n.C c cb x).on d).length ≤ 2000
    by_cases e : x = c
    · subst e; rw [upN_same]; exact hol d hd
    · rw [upN_other _ _ e]; exact h.ol x d hx hd)
  (by
    intro x d hx hd
    show ((upN n.C c cb x).e d).1 < n.n ∧ ((upN n.C c cb x).e d).2 < 3
    by_cases e : x = c
    · subst e; rw [upN_same, hen]; exact h.en x d hx hd
    · rw [upN_other _ _ e]; exact h.en x d hx hd)
  (by
    intro l l' k e e'
    rcases hat l k e with e1 | ⟨e1, d, hd, rfl, e2⟩
    · rcases hat l' k e' with e3 | ⟨e3, _⟩
      · exact h.inj l l' k e1 e3
      · have := h.at_lt e1; omega
    · rcases hat l' k e' with e3 | ⟨e3, d', hd', rfl, e4⟩
      · have := h.at_lt e3; omega
      · have : d = d' := by
         rcases Nat.lt_or_ge d 1 with h1 | h1
         · rcases Nat.lt_or_ge d' 1 with h2 | h2
           · omega
           · obtain rfl : d = 0 := by omega
             obtain rfl : d' = 1 := by omega
             exact absurd e4 (hne k e2)
         · rcases Nat.lt_or_ge d' 1 with h2 | h2
           · obtain rfl : d = 1 := by omega
             obtain rfl : d' = 0 := by omega
             exact absurd e2 (hne k e4)
           · omega
        rw [this])
  (by
    intro k e
    have e0 : y.ext k := by rw [hy'] at e; exact e
    rintro ⟨l, e1⟩
    rcases hat l k e1 with e2 | ⟨e2, _⟩
    · exact h.nx k e0 ⟨l, e2⟩
    · have := h.lt (.inr e0); omega)
 refine ⟨⟨y', H.1, by rw [hy']; exact ⟨rfl, rfl, rfl, rfl, rfl, rfl, rfl, rfl⟩, H.2, fun k => by rw [hy']⟩, ⟨hos, htp, hou, hs, fun k hk' hn => hk k hk' (fun e => hn (.inl ⟨.C, by rw [e]; exact hg⟩)) (fun d _ e => hn (.inl ⟨.on c d, e⟩))⟩⟩
theorem NetR.box {w w' : World} {y : Yt} {n : NtM} {i : Nat} (h : NetR w y n) (hi : i < n.n) (v : Value) (l : List Msg) (hs : w.heap.size ≤ w'.heap.size) (hos : w'.os = w.os) (htp : w'.tape = w.tape) (hou : w'.output = w.output)
 (hk : ∀ k, k < w.heap.size → k ≠ y.gI → (y.iv i).ownBlock ≠ some k → w'.heap[k]? = w.heap[k]?) (hri : Cel w' y.gI 0 n.n (upN y.iv i v)) (hib : Row w' 3 v l.length (msgC l))
 (hown : ∀ k, v.ownBlock = some k → (y.iv i).ownBlock = some k ∨ w.heap.size ≤ k) : WentN w w' y { n with inb := upN n.inb i l } n.n := by
 obtain ⟨y1, hy1⟩ : ∃ y1 : Yt, y1 = { y with iv := upN y.iv i v } := ⟨_, rfl⟩
 obtain ⟨y', hy'⟩ : ∃ y' : Yt, y' = { y with iv := upN y.iv i v, z := fun j => (y.z j).plus (newX w w' y1) } := ⟨_, rfl⟩
 have hown1 : ∀ k, y'.own k ↔ y1.own k := fun k => by
  rw [hy', hy1]
  constructor
  · rintro ⟨l, e⟩
    exact ⟨l, by cases l <;> exact e⟩
  · rintro ⟨l, e⟩
    exact ⟨l, by cases l <;> exact e⟩
 have hX : newX w w' y1 = newX w w' y' := by
  funext k
  apply propext
  unfold newX
  rw [← hown1 k]
  have : y1.ext = y'.ext := by rw [hy1, hy']
  rw [this]
 have hat : ∀ l k, y'.at l = some k → y.at l = some k ∨ (w.heap.size ≤ k ∧ l = .ib i ∧ v.ownBlock = some k) := by
  intro l k e
  rw [hy'] at e
  cases l with
  | N => exact .inl e
  | R => exact .inl e
  | I => exact .inl e
  | C => exact .inl e
  | on x d => exact .inl e
  | ib x =>
    have e' : (upN y.iv i v x).ownBlock = some k := e
    by_cases hx : x = i
    · subst hx
      rw [upN_same] at e'
      rcases hown k e' with e1 | e1
      · exact .inl e1
      · exact .inr ⟨e1, rfl, e'⟩
    · rw [upN_other _ _ hx] at e'
      exact .inl e'
 have hlt : ∀ k, y'.own k → k < w'.heap.size := by
  rintro k ⟨l, e⟩
  rcases hat l k e with e1 | ⟨_, rfl, e1⟩
  · exact Nat.lt_of_lt_of_le (h.at_lt e1) hs
  · exact hib.lt k e1
 have hsame : ∀ l k, y.at l = some k → l ≠ .I → l ≠ .ib i → w'.heap[k]? = w.heap[k]? := by
  intro l k e h1 h2
  refine hk k (h.at_lt e) (fun e1 => ?_) (fun e1 => ?_)
  · exact h.at_ne e (show y.at .I = some y.gI from rfl) h1 e1
  · exact h2 (h.inj _ _ k e (show y.at (.ib i) = some k from e1))
 have H := h.owned (y' := y') (n' := { n with inb := upN n.inb i l }) hs (fun k hk' h1 _ => hk k hk' (fun e => h1 ⟨.I, by rw [e]; rfl⟩) (fun e => h1 ⟨.ib i, e⟩)) (by rw [hy']) (by rw [← hX, hy'])
  (fun k e => e.elim (hlt k) (fun e => by
    have e' : y.ext k := by rw [hy'] at e; exact e
    exact Nat.lt_of_lt_of_le (h.lt (.inr e')) hs))
  (by
    rintro k ⟨l, e⟩
    rcases hat l k e with e1 | ⟨e1, _⟩
    · exact .inl ⟨l, e1⟩
    · exact .inr e1) (fun k e => .inl (by rw [hy'] at e; exact e)) rfl rfl rfl h.c9 (by rw [hy']; exact h.blk.keep (hsame .N _ rfl (fun e => nomatch e) (fun e => nomatch e)))
  (by rw [hy']; exact h.rr.keep (hsame .R _ rfl (fun e => nomatch e) (fun e => nomatch e))) (by rw [hy']; exact hri)
  (by
    intro g' hg' x hx
    have hg2 : y.gC = some g' := by rw [hy'] at hg'; exact hg'
    have := (h.rc g' hg2 x hx).keep (hsame .C g' hg2 (fun e => nomatch e) (fun e => nomatch e))
    rw [hy']
    exact this)
  (by
    intro x hx
    obtain ⟨g', e⟩ := h.gc x hx
    exact ⟨g', by rw [hy']; exact e⟩)
  (by
    intro x hx
    show Row w' 3 (y'.iv x) (upN n.inb i l x).length (msgC (upN n.inb i l x))
    have e0 : y'.iv x = upN y.iv i v x := by rw [hy']
    rw [e0]
    by_cases e : x = i
    · subst e
      rw [upN_same, upN_same]
      exact hib
    · rw [upN_other _ _ e, upN_other _ _ e]
      exact (h.ib x hx).keep hs (fun k e1 => hsame (.ib x) k e1 (fun e => nomatch e) (fun e' => e (by injection e'))))
  (by
    intro x d hx hd
    have := (h.ob x d hx hd).keep hs (fun k e1 => hsame (.on x d) k e1 (fun e => nomatch e) (fun e => nomatch e))
    rw [hy']
    exact this)
  h.ol h.en
  (by
    intro l l' k e e'
    rcases hat l k e with e1 | ⟨e1, rfl, e2⟩
    · rcases hat l' k e' with e3 | ⟨e3, _⟩
      · exact h.inj l l' k e1 e3
      · have := h.at_lt e1; omega
    · rcases hat l' k e' with e3 | ⟨e3, rfl, e4⟩
      · have := h.at_lt e3; omega
      · rfl)
  (by
    intro k e
    have e0 : y.ext k := by rw [hy'] at e; exact e
    rintro ⟨l, e1⟩
    rcases hat l k e1 with e2 | ⟨e2, _⟩
    · exact h.nx k e0 ⟨l, e2⟩
    · have := h.lt (.inr e0); omega)
 refine ⟨⟨y', H.1, by rw [hy']; exact ⟨rfl, rfl, rfl, rfl, rfl, rfl, rfl, rfl⟩, H.2, fun k => by rw [hy']⟩, ⟨hos, htp, hou, hs, fun k hk' hn => hk k hk' (fun e => hn (.inl ⟨.I, by rw [e]; rfl⟩)) (fun e => hn (.inl ⟨.ib i, e⟩))⟩⟩
theorem NetR.beside {w w' : World} {y : Yt} {n : NtM} (h : NetR w y n) (hs : w.heap.size ≤ w'.heap.size) (hk : ∀ k, k < w.heap.size → ¬ y.ext k → w'.heap[k]? = w.heap[k]?) (X : Nat → Prop) (hX : ∀ k, X k → w.heap.size ≤ k ∧ k < w'.heap.size) :
 ∃ y', NetR w' y' n ∧ y.same y' ∧ (∀ k, y'.all n.n k ↔ y.all n.n k) ∧ ∀ k, y'.ext k ↔ y.ext k ∨ X k := by
 obtain ⟨y1, hy1⟩ : ∃ y1 : Yt, y1 = { y with ext := fun k => y.ext k ∨ X k } := ⟨_, rfl⟩
 obtain ⟨y', hy'⟩ : ∃ y' : Yt, y' = { y with ext := fun k => y.ext k ∨ X k, z := fun j => (y.z j).plus (newX w w' y1) } := ⟨_, rfl⟩
 have hat : ∀ l, y'.at l = y.at l := by
  intro l
  rw [hy']
  cases l <;> rfl
 have hat1 : ∀ l, y1.at l = y.at l := by
  intro l
  rw [hy1]
  cases l <;> rfl
 have hown : ∀ k, y'.own k ↔ y.own k := fun k => by unfold Yt.own; simp only [hat]
 have hown1 : ∀ k, y1.own k ↔ y.own k := fun k => by unfold Yt.own; simp only [hat1]
 have hX' : newX w w' y1 = newX w w' y' := by
  funext k
  apply propext
  unfold newX
  rw [hown k, hown1 k]
  have : y1.ext = y'.ext := by rw [hy1, hy']
  rw [this]
 have hsame : ∀ l k, y.at l = some k → w'.heap[k]? = w.heap[k]? := fun l k e => hk k (h.at_lt e) (fun e1 => h.nx k e1 ⟨l, e⟩)
 have hext : ∀ k, y'.ext k ↔ y.ext k ∨ X k := fun k => by rw [hy']
 have H := h.owned (y' := y') (n' := n) hs (fun k hk' _ h2 => hk k hk' h2) (by rw [hy']) (by rw [← hX', hy'])
  (fun k e => by
    rcases e with e | e
    · exact Nat.lt_of_lt_of_le (h.lt (.inl ((hown k).1 e))) hs
    · rcases (hext k).1 e with e | e
      · exact Nat.lt_of_lt_of_le (h.lt (.inr e)) hs
      · exact (hX k e).2)
  (fun k e => .inl ((hown k).1 e)) (fun k e => ((hext k).1 e).imp_right (fun e => (hX k e).1)) rfl rfl rfl h.c9 (by rw [hy']; exact h.blk.keep (hsame .N _ rfl))
  (by rw [hy']; exact h.rr.keep (hsame .R _ rfl)) (by rw [hy']; exact h.ri.keep (hsame .I _ rfl))
  (by
    intro g' hg' x hx
    have hg2 : y.gC = some g' := by rw [hy'] at hg'; exact hg'
    have := (h.rc g' hg2 x hx).keep (hsame .C g' hg2)
    rw [hy']
    exact this)
  (by
    intro x hx
    obtain ⟨g', e⟩ := h.gc x hx
    exact ⟨g', by rw [hy']; exact e⟩)
  (by
    intro x hx
    have := (h.ib x hx).keep hs (fun k e1 => hsame (.ib x) k e1)
    rw [hy']
    exact this)
  (by
    intro x d hx hd
    have := (h.ob x d hx hd).keep hs (fun k e1 => hsame (.on x d) k e1)
    rw [hy']
    exact this)
  h.ol h.en (fun l l' k e e' => h.inj l l' k ((hat l).symm.trans e) ((hat l').symm.trans e'))
  (by
    intro k e e1
    rcases (hext k).1 e with e | e
    · exact h.nx k e ((hown k).1 e1)
    · have h1 := h.lt (.inl ((hown k).1 e1))
      have h2 := (hX k e).1
      omega)
 refine ⟨y', H.1, by rw [hy']; exact ⟨rfl, rfl, rfl, rfl, rfl, rfl, rfl, rfl⟩, fun k => ?_, hext⟩
 unfold Yt.all
 rw [hown k]
 have : ∀ j, (y'.z j).foot k ↔ (y.z j).foot k := fun j => by rw [hy']; exact Iff.rfl
 simp only [this]
theorem NetR.below {w w' : World} {y : Yt} {n : NtM} (h : NetR w y n) (hb : Below w.heap.size w w') : NetR w' y n := by
 refine ⟨h.n1, h.n6, h.c9, h.blk.below hb, h.rr.below h.n1 hb, h.ri.below h.n1 hb, fun g hg c hc => (h.rc g hg c hc).below (by decide) hb, h.gc, ?_, fun i hi => (h.rt i hi).below hb, h.rn, fun i hi => (h.ib i hi).below hb, fun c d hc hd => (h.ob c d hc hd).below hb, h.ol, h.en, h.inj, h.away, h.nx, h.nM, h.z0⟩
 obtain ⟨E, h1, h2⟩ := h.mp
 exact ⟨E, h1.keep (hb.block _ h.mapLt), h2⟩
theorem KeptY.of_below {w w' : World} (y : Yt) (n : Nat) (h : Below w.heap.size w w') : KeptY w w' y n := ⟨h.os, h.tape, h.output, h.size, fun k hk _ => h.block k hk⟩
theorem WentN.still {w w' : World} {y : Yt} {n : NtM} (h : NetR w y n) (hb : Below w.heap.size w w') : WentN w w' y n n.n := ⟨⟨y, h.below hb, y.same_refl, fun _ e => .inl e, fun _ => Iff.rfl⟩, KeptY.of_below y n.n hb⟩
theorem WentN.below {a b c : World} {y : Yt} {n : NtM} {m : Nat} (h : WentN a b y n m) (hn : n.n = m) (hb : Below b.heap.size b c) : WentN a c y n m := by
 subst hn
 exact h.step fun y' hR _ => WentN.still hR hb
end Rt
end Go.Proofs.YtieklnlbljejdaaGreatDoor
