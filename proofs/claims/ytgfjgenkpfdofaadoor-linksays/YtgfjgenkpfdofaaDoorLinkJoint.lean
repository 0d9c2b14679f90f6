/-
  Both ends of LinkSays, side by side.
-/
import Derived.Test.YtgfjgenkpfdofaaDoorLinkNew
import Derived.Test.YtgfjgenkpfdofaaDoorLinkSame
import Derived.Test.YtgfjgenkpfdofaaDoorActs2
namespace Go.Proofs.YtgfjgenkpfdofaaDoor
open Go.RowKit

theorem Rep.far {w w' : World} {B M : Nat} {X : Nat → Prop} {s : LS} {v : Value} {ps : List PV} (h : Rep w B X s v ps) (k : Kept w w' M none) (hM : X M) (hne : B ≠ M) : Rep w' B X s v ps := by
  have hb : ∀ j, j < w.heap.size → j ≠ M → w'.heap[j]? = w.heap[j]? := fun j hj hm => k.block j hj hm (by simp)
  refine ⟨h.lk.keep (hb B h.lk.lt hne), h.row.keep k.size (fun j hj => hb j (h.row.lt j hj) (fun e => h.own j hj (by rw [e]; exact hM))), h.own, h.self, fun j hj => Nat.lt_of_lt_of_le (h.old j hj) k.size, fun p hp => ?_⟩
  obtain ⟨o, z, l, f, fr⟩ := h.pk p hp
  exact ⟨o.keptO (fun j hj => by obtain ⟨a1, _, a3⟩ := fr j hj; exact hb j a3 (fun e => a1 (by rw [e]; exact hM))), z, l, f, fun j hj => by obtain ⟨a1, a2, a3⟩ := fr j hj; exact ⟨a1, a2, Nat.lt_of_lt_of_le a3 k.size⟩⟩
theorem RRep.far {w w' : World} {B M : Nat} {X : Nat → Prop} {s : LS} {ak v : Value} {ps : List PV} (h : RRep w M X s ak v ps) (k : Kept w w' B none) (hB : X B) (hne : B ≠ M) : RRep w' M X s ak v ps := by
  have hb : ∀ j, j < w.heap.size → j ≠ B → w'.heap[j]? = w.heap[j]? := fun j hj hm => k.block j hj hm (by simp)
  refine ⟨h.blk.keep (hb M h.blk.lt (fun e => hne e.symm)), ?_, h.row.keep k.size (fun j hj => hb j (h.row.lt j hj) (fun e => h.own j hj (by rw [e]; exact hB))), h.own, h.self, fun j hj => Nat.lt_of_lt_of_le (h.old j hj) k.size, fun p hp => ?_, h.askX⟩
  · obtain ⟨a, n, cap, rfl, ho, hz, hl, hf⟩ := h.ask.ex
    refine ⟨⟨a, n, cap, rfl, ho.kept (cap := cap) (fun j hj => by obtain ⟨_, _, a3⟩ := h.ask.far j hj; exact hb j a3 (fun e => h.askX j hj (by rw [e]; exact hB))), hz, hl, hf⟩, fun j hj => ?_⟩
    obtain ⟨a1, a2, a3⟩ := h.ask.far j hj
    exact ⟨a1, a2, Nat.lt_of_lt_of_le a3 k.size⟩
  · obtain ⟨o, z, l, f, fr⟩ := h.pk p hp
    exact ⟨o.keptO (fun j hj => by obtain ⟨a1, _, a3⟩ := fr j hj; exact hb j a3 (fun e => a1 (by rw [e]; exact hB))), z, l, f, fun j hj => by obtain ⟨a1, a2, a3⟩ := fr j hj; exact ⟨a1, a2, Nat.lt_of_lt_of_le a3 k.size⟩⟩
/-- Both ends at rest. -/
structure Both (w wr : World) (B M : Nat) (s : LS) (ak : Value) : Prop where
  l : Lk wr B (s.c (.slice none 0 0))
  m : Blk wr M (s.r ak (.slice none 0 0)) 48
  a : AskOk wr M (.slice none 0 0) ak (asksL s.qs s.qm)
  x : ∀ k, ak.ownBlock = some k → ¬ (k = B ∨ k = M)
  ok : LOk s
  ne : B ≠ M
  bB : w.heap.size ≤ B
  bM : w.heap.size ≤ M
  bel : Below w.heap.size w wr
theorem Both.below {w wr W : World} {B M : Nat} {s : LS} {ak : Value} (h : Both w wr B M s ak) (k : Below wr.heap.size wr W) : Both w W B M s ak :=
  ⟨h.l.below k, h.m.below k, h.a.kept (Kept.of_below M _ k) (fun _ e => .inl e), h.x, h.ok, h.ne, h.bB, h.bM, below_chain h.bel k⟩
theorem Both.rl {w W : World} {B M : Nat} {s : LS} {ak : Value} (h : Both w W B M s ak) : Rep W B (fun j => j = B ∨ j = M) s (.slice none 0 0) [] := Rep.restX h.l (.inl rfl) (fun k hk => by
  rcases hk with rfl | rfl
  · exact h.l.lt
  · exact h.m.lt)
theorem Both.rm {w W w1 : World} {B M : Nat} {s s' : LS} {ak : Value} {out : List APkt} (h : Both w W B M s ak) (hW : Went W w1 B (fun j => j = B ∨ j = M) s' (.slice none 0 0) [] out) : RRep w1 M (fun j => j = B ∨ j = M) s ak (.slice none 0 0) [] := by
  have hK : Kept W w1 B none := hW.kept
  have h0 : RRep W M (fun j => j = B ∨ j = M) s ak (.slice none 0 0) [] := RRep.rest h.m h.a h.x (.inr rfl) (fun k hk => by
    rcases hk with rfl | rfl
    · exact h.l.lt
    · exact h.m.lt)
  exact h0.far hK (.inl rfl) h.ne
/-- Both ends behind an act, with what each says. -/
structure Fork (w wx : World) (B M : Nat) (s : LS) (ak v1 v2 : Value) (q1 q2 : List PV) : Prop where
  l : ∃ X : Nat → Prop, Rep wx B X s v1 q1
  m : RRep wx M (fun j => j = B ∨ j = M) s ak v2 q2
  same : q1.map PV.abs = q2.map PV.abs
  few : q1.length ≤ 10
  ok : LOk s
  ne : B ≠ M
  bB : w.heap.size ≤ B
  bM : w.heap.size ≤ M
  bel : Below w.heap.size w wx
theorem runO_len : ∀ (L : List UInt8) (s : LS) (a : APkt), (runO L s a).length ≤ L.length
  | [], _, _ => Nat.le_refl _
  | c :: r, s, a => by
    have e : runO (c :: r) s a = actO c s a ++ runO r (actS c s) a := rfl
    have h1 := runO_len r (actS c s) a
    have h2 := actO_len c s a
    rw [e, List.length_append, List.length_cons]
    omega
theorem evP_len (s : LS) (ev : Int) (a : APkt) : (evP s ev a).2.1.length ≤ 4 := by
  by_cases hf : (stepI s.st ev).2.2 = 0
  · rw [evP_ok _ hf]
    have h1 := runO_len (stepI s.st ev).1 (s.next (stepI s.st ev).2.1) a
    have h2 := stepI_len s.st ev
    show (comeO s ev a).length ≤ 4
    unfold comeO
    omega
  · rw [evP_no _ hf]
    simp
theorem doP_len (s : LS) (ev : Int) : (doP s ev).2.1.length ≤ 4 := by
  unfold doP
  split
  · exact evP_len _ _ _
  · simp
theorem tickO_len (s : LS) : (tickO s).length ≤ 4 := by
  have hc : ∀ (s : LS) (ev : Int), (comeO s ev (0, 0, [])).length ≤ 4 := fun s ev => by
    have h1 := runO_len (stepI s.st ev).1 (s.next (stepI s.st ev).2.1) (0, 0, [])
    have h2 := stepI_len s.st ev
    unfold comeO
    omega
  unfold tickO
  split
  · simp
  · split
    · simp
    · split
      · exact hc _ _
      · exact hc _ _
theorem takeP_len (s : LS) (p : APkt) : (takeP s p).2.1.length ≤ 4 := by
  unfold takeP
  split
  · simp
  · split
    · unfold reqP
      split
      · split
        · exact evP_len _ _ _
        · exact evP_len _ _ _
      · exact evP_len _ _ _
    · split
      · exact evP_len _ _ _
      · split
        · exact evP_len _ _ _
        · unfold ansP
          split
          · simp
          · split
            · split
              · simp
              · exact evP_len _ _ _
            · exact evP_len _ _ _
theorem Both.fork {w W w1 w2 : World} {B M : Nat} {s s' : LS} {ak : Value} {out : List APkt} (h : Both w W B M s ak) (hW : Went W w1 B (fun j => j = B ∨ j = M) s' (.slice none 0 0) [] out) (hR : RWent w1 w2 M (fun j => j = B ∨ j = M) s' out) (hok : LOk s') (hlen : out.length ≤ 4) :
    ∃ ak' v1 v2 q1 q2, Fork w w2 B M s' ak' v1 v2 q1 q2 := by
  obtain ⟨⟨v1, q1, hRep, ho1, hv1⟩, hK1⟩ := hW
  obtain ⟨⟨ak', v2, q2, hRR, ho2, hv2⟩, hK2⟩ := hR
  have b1 : Below w.heap.size w w1 := hK1.below h.bel h.bB (by simp [Value.ownBlock])
  refine ⟨ak', v1, v2, q1, q2, ⟨_, hRep.far hK2 (.inr rfl) h.ne⟩, hRR, by rw [ho1, ho2], ?_, hok, h.ne, h.bB, h.bM, hK2.below b1 h.bM (by simp)⟩
  have : q1.length = out.length := by rw [← ho1]; simp
  omega
/-- What is behind the acts: the lists are taken, the document's list is forgotten. -/
theorem Fork.out {w wx : World} {B M : Nat} {s : LS} {ak v1 v2 : Value} {q1 q2 : List PV} (h : Fork w wx B M s ak v1 v2 q1 q2) :
    Calls Tryd.prog 18 #[.pointer (some ⟨B, 0, none⟩)] wx fun e w' => e = .returned v1 ∧ Lk w' B (s.c (.slice none 0 0)) ∧ RRep w' M (fun j => j = B ∨ j = M) s ak v2 q2 ∧ Below w.heap.size w w' ∧
      Calls Tryd.prog 17 #[v1, v2] w' fun e w2 => e = .returned (.bool true) ∧ Below w'.heap.size w' w2 := by
  obtain ⟨X, hL⟩ := h.l
  refine (out_rep B X s v1 q1 wx hL).mono ?_
  rintro e w' ⟨rfl, hR, hrow, hpk, hK⟩
  have hm := h.m.far hK (.inl rfl) h.ne
  refine ⟨rfl, hR.lk, hm, hK.below h.bel h.bB (by simp), ?_⟩
  refine samePackets_yes v1 v2 q1 q2 w' ⟨hrow, fun p hp => ⟨(hpk p hp).opt, (hpk p hp).few⟩⟩ ⟨hm.row, fun p hp => ⟨(hm.pk p hp).opt, (hm.pk p hp).few⟩⟩ h.same (by have := h.few; omega)
theorem both_again {w wx : World} {B M : Nat} {s : LS} {ak v2 : Value} {q2 : List PV} (hl : Lk wx B (s.c (.slice none 0 0))) (hm : RRep wx M (fun j => j = B ∨ j = M) s ak v2 q2) (hok : LOk s) (ne : B ≠ M) (bB : w.heap.size ≤ B) (bM : w.heap.size ≤ M) (bel : Below w.heap.size w wx) :
    Both w (wx.setCell ⟨M, 10, none⟩ (.slice none 0 0)) B M s ak := by
  have hk : Kept wx (wx.setCell ⟨M, 10, none⟩ (.slice none 0 0)) M v2.ownBlock := kept_set (Kept.refl _ M _) 10 _
  have hk0 : Kept wx (wx.setCell ⟨M, 10, none⟩ (.slice none 0 0)) M none := kept_set (Kept.refl _ M _) 10 _
  refine ⟨hl.keep (Below.heap_setCell _ _ _ B ne), hm.blk.set 10 _, hm.ask.kept hk (fun g hg => by simp [Value.ownBlock] at hg), hm.askX, hok, ne, bB, bM, hk0.below bel bM (by simp)⟩
end Go.Proofs.YtgfjgenkpfdofaaDoor
