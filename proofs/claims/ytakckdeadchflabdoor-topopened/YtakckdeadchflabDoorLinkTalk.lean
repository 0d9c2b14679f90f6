/-
  Two ends who talk: what is said comes to the other one, so many times.
-/
import Derived.Test.YtakckdeadchflabDoorLinkDo
namespace Go.Proofs.YtakckdeadchflabDoor
open Go.RowKit

abbrev nilV : Value := .slice none 0 0
/-- A packet that an end takes. -/
def Fit (s : LS) (p : APkt) : Prop := packF p.1 p.2.1 p.2.2 = 0 ∧
  ((p.1 = 1 ∧ 0 ≤ s.nm ∧ s.nm ≤ 255 ∧ judgeR s.nm p.2.2 = (2, p.2.2) ∧ (stepI s.st 6).2.2 = 0) ∨ (p.1 = 2 ∧ p.2.1 = s.ow ∧ p.2.2 = asksL s.qs s.qm ∧ (stepI s.st 8).2.2 = 0) ∨ (p.1 = 5 ∧ (stepI s.st 10).2.2 = 0) ∨ (p.1 = 6 ∧ (stepI s.st 11).2.2 = 0))
def dlvS : List APkt → LS → LS
  | [], s => s
  | p :: r, s => dlvS r (takeS s p)
def dlvO : List APkt → LS → List APkt
  | [], _ => []
  | p :: r, s => takeO s p ++ dlvO r (takeS s p)
def dlvOk : List APkt → LS → Prop
  | [], _ => True
  | p :: r, s => Fit s p ∧ Bd s 100 ∧ dlvOk r (takeS s p)
/-- Packets on their way from the end at Bg, whose list is empty, to the one at Bt. -/
structure Fly (w : World) (N : Nat) (X : Nat → Prop) (Bg Bt : Nat) (sg : LS) (x : Value) (xs : List PV) (st : LS) (vt : Value) (pt : List PV) : Prop where
  giver : Rep w Bg X sg nilV []
  taker : Rep w Bt X st vt pt
  ne : Bg ≠ Bt
  row : Row w 3 x xs.length (pvC xs)
  rown : ∀ k, x.ownBlock = some k → ¬ X k ∧ vt.ownBlock ≠ some k
  pk : ∀ p ∈ xs, PvOk w X vt p
  tn : ∀ k, vt.ownBlock = some k → N ≤ k
  pos : 0 < N
  bt : N ≤ Bt
  tab : TabOk w
theorem Kept.belowN {w w' : World} {B N : Nat} {o : Option Nat} (k : Kept w w' B o) (hB : N ≤ B) (ho : ∀ i, o = some i → N ≤ i) (hN : N ≤ w.heap.size) : Below N w w' :=
  ⟨k.os, k.tape, k.output, k.size, fun i hi => k.block i (by omega) (by omega) (fun e => by have := ho i e; omega)⟩
theorem fly_step {w w' : World} {N : Nat} {X : Nat → Prop} {Bg Bt : Nat} {sg : LS} {x : Value} {xs : List PV} {st st' : LS} {vt : Value} {pt : List PV} {out : List APkt} (h : Fly w N X Bg Bt sg x xs st vt pt) (hN : N ≤ w.heap.size) (hW : Went w w' Bt X st' vt pt out) :
    ∃ v' qs, Fly w' N X Bg Bt sg x xs st' v' (pt ++ qs) ∧ qs.map PV.abs = out ∧ Below N w w' := by
  obtain ⟨⟨v', qs, hR, ho, hv⟩, hK⟩ := hW
  have hXt := h.taker.self
  have hvg : vt.ownBlock ≠ some Bg := fun e => h.taker.own Bg e h.giver.self
  refine ⟨v', qs, ⟨?_, hR, h.ne, ?_, ?_, ?_, ?_, h.pos, h.bt, ?_⟩, ho, hK.belowN h.bt h.tn hN⟩
  · refine ⟨h.giver.lk.keep (hK.block Bg h.giver.lk.lt h.ne hvg), Row.nil _ 3, h.giver.own, h.giver.self, fun k hk => Nat.lt_of_lt_of_le (h.giver.old k hk) hK.size, fun p hp => by simp at hp⟩
  · exact h.row.keep hK.size (fun k hk => hK.block k (h.row.lt k hk) (fun e => (h.rown k hk).1 (by rw [e]; exact hXt)) (h.rown k hk).2)
  · intro k hk
    refine ⟨(h.rown k hk).1, fun e => ?_⟩
    rcases hv k e with e1 | e1
    · exact (h.rown k hk).2 e1
    · have := h.row.lt k hk; omega
  · exact fun p hp => (h.pk p hp).kept hXt hK hv
  · intro k hk
    rcases hv k hk with e1 | e1
    · exact h.tn k e1
    · omega
  · exact hK.tab h.tab (by have := h.bt; have := h.pos; omega) (fun e => by have := h.tn 0 e; have := h.pos; omega)
theorem pvC_length (ps : List PV) : (pvC ps).length = 3 * ps.length := by
  induction ps with
  | nil => rfl
  | cons p r ih => simp only [pvC, List.flatMap_cons, List.length_append, PV.cells, List.length_cons, List.length_nil] at ih ⊢; omega
theorem pvC_get : ∀ (ps : List PV) (j : Nat) (h : j < ps.length), (pvC ps)[j * 3]? = some (.int .i64 ps[j].code) ∧ (pvC ps)[j * 3 + 1]? = some (.int .i64 ps[j].id) ∧ (pvC ps)[j * 3 + 2]? = some (.slice ps[j].a ps[j].n ps[j].cap)
  | p :: r, 0, _ => by simp [pvC, PV.cells, PV.val]
  | p :: r, j + 1, h => by
    have ih := pvC_get r j (by simpa using h)
    have e1 : pvC (p :: r) = .int .i64 p.code :: .int .i64 p.id :: .slice p.a p.n p.cap :: pvC r := by simp [pvC, PV.cells, PV.val]
    rw [e1, show (j + 1) * 3 = j * 3 + 1 + 1 + 1 by omega]
    exact ih
/-- Where a way's loop stands. -/
structure Way (w0 w : World) (N : Nat) (X : Nat → Prop) (Bg Bt : Nat) (sg : LS) (x : Value) (xs : List PV) (j : Nat) (sF : LS) (oF : List APkt) (st : LS) (vt : Value) (pt : List PV) : Prop where
  fly : Fly w N X Bg Bt sg x xs st vt pt
  fin : dlvS ((xs.map PV.abs).drop j) st = sF
  out : pt.map PV.abs ++ dlvO ((xs.map PV.abs).drop j) st = oF
  ok : dlvOk ((xs.map PV.abs).drop j) st
  few : oF.length ≤ 10
  below : Below N w0 w
  size : N ≤ w0.heap.size
theorem way_step {w0 w : World} {N : Nat} {X : Nat → Prop} {Bg Bt : Nat} {sg : LS} {x : Value} {xs : List PV} {j : Nat} {sF : LS} {oF : List APkt} {st : LS} {vt : Value} {pt : List PV} (h : Way w0 w N X Bg Bt sg x xs j sF oF st vt pt) (hj : j < xs.length) :
    Calls Tryd.prog 13 #[.pointer (some ⟨Bt, 0, none⟩), .agg #[.int .i64 xs[j].code, .int .i64 xs[j].id, .slice xs[j].a xs[j].n xs[j].cap]] w fun e w' => e = .returned .nilIface ∧ ∃ st' vt' pt', Way w0 w' N X Bg Bt sg x xs (j + 1) sF oF st' vt' pt' := by
  have hd : (xs.map PV.abs).drop j = xs[j].abs :: (xs.map PV.abs).drop (j + 1) := by
    rw [List.drop_eq_getElem_cons (by simpa using hj)]
    simp
  have hok := h.ok
  have hfin := h.fin
  have hout := h.out
  rw [hd] at hok hfin hout
  obtain ⟨⟨hck, hroad⟩, hbd, hok2⟩ := hok
  have hlen : pt.length ≤ 50 := by
    have h1 := congrArg List.length h.out
    have h2 := h.few
    simp only [List.length_append, List.length_map] at h1
    omega
  have hC : Comes w X st vt xs[j] := ⟨h.fly.pk _ (List.getElem_mem _), hck, hroad⟩
  refine (take_ok Bt X st vt pt xs[j] w h.fly.tab h.fly.taker hbd hlen hC).mono ?_
  rintro e w' ⟨rfl, hW⟩
  have hNw : N ≤ w.heap.size := Nat.le_trans h.size h.below.size
  obtain ⟨v', qs, hF, ho, hB⟩ := fly_step h.fly hNw hW
  refine ⟨rfl, _, v', pt ++ qs, ⟨hF, hfin, ?_, hok2, h.few, h.below.trans hB, h.size⟩⟩
  rw [List.map_append, ho, List.append_assoc]
  exact hout
end Go.Proofs.YtakckdeadchflabDoor
