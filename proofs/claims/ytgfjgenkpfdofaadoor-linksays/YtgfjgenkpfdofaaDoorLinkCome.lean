/-
  One end of a link: come, at every state and event.
-/
import Derived.Test.YtgfjgenkpfdofaaDoorLinkAct2
namespace Go.Proofs.YtgfjgenkpfdofaaDoor
open Go.RowKit

/-- An end in its next state: what was agreed on is over, if that is at rest. -/
def LS.next (s : LS) (nx : Int) : LS := if nx ≤ 3 then { s with st := nx, ns := s.fs, nm := s.fm, sz := 255 } else { s with st := nx }
theorem Kept.tab {w w' : World} {B : Nat} {o : Option Nat} (k : Kept w w' B o) (h : TabOk w) (hB : B ≠ 0) (ho : o ≠ some 0) : TabOk w' := fun e s he hs =>
  (World.cell?_of_block (a := ⟨0, e * 10 + s, none⟩) (k.block 0 h.lt (by omega) ho)).trans (h e s he hs)

set_option maxRecDepth 100000 in
set_option maxHeartbeats 4000000 in
/-- The loop over the letters. -/
theorem come_no (B : Nat) (X : Nat → Prop) (s : LS) (v : Value) (ps : List PV) (p : PV) (ev : Int) (D : List UInt8) (nx : Int) (f : Nat) (w : World) (hT : TabOk w) (h : Rep w B X s v ps) (hR : stepI s.st ev = (D, nx, f)) (hf : f ≠ 0) :
    Calls Tryd.prog 21 #[.pointer (some ⟨B, 0, none⟩), .int .i64 ev, .agg #[.int .i64 p.code, .int .i64 p.id, .slice p.a p.n p.cap]] w fun e w' => e = .returned (.iface 61 (.int .i64 (f : Int))) ∧ Below w.heap.size w w' := by
  have hk := below_alloc w (.cells #[.int .i64 p.code, .int .i64 p.id, .slice p.a p.n p.cap] 36)
  have hst := step_as s.st ev D nx f hR _ (hT.below hk)
  have e1 : errV f = .iface 61 (.int .i64 (f : Int)) := by simp [errV, hf]
  rw [e1] at hst
  have hl := h.lk.lt
  have c6 : w.cell? ⟨B, 6, none⟩ = some (.int .i64 s.st) := h.lk.cell 6
  clear h hT e1
  go_enter Tryd.func21, Tryd.ntmps21
  go_wp2_with (fail)
  refine hst.mono ?_
  rintro e w1 ⟨rfl, m1, rfl⟩
  go_wp2_with (fail)
  go_ret
  exact ⟨rfl, below_drewN hk _⟩

/-- Where the loop stands. -/
structure Mid (w wr : World) (B : Nat) (X : Nat → Prop) (Z : Nat) (v : Value) (ps : List PV) (p : PV) (S : ByteArray) (k : Nat) (sF : LS) (oF : List APkt) (sk : LS) (vk : Value) (qs : List PV) : Prop where
  rep : Rep wr B X sk vk (ps ++ qs)
  bd : Bd sk (100 + k)
  fin : runS (S.data.toList.drop k) sk = sF
  out : qs.map PV.abs ++ runO (S.data.toList.drop k) sk p.abs = oF
  ans : PvOk wr X vk p
  kept : Kept w wr B v.ownBlock
  hv : ∀ g, vk.ownBlock = some g → v.ownBlock = some g ∨ w.heap.size ≤ g
  d0 : wr.cell? ⟨Z, 0, none⟩ = some (.int .i64 p.code)
  d1 : wr.cell? ⟨Z, 1, none⟩ = some (.int .i64 p.id)
  d2 : wr.cell? ⟨Z, 2, none⟩ = some (.slice p.a p.n p.cap)
  nz : vk.ownBlock ≠ some Z
  few : qs.length ≤ k
theorem actO_len (c : UInt8) (s : LS) (a : APkt) : (actO c s a).length ≤ 1 := by
  unfold actO
  split
  · simp
  · split
    · simp
    · split
      · simp
      · split <;> simp

theorem mid_step {w wr V : World} {B Z : Nat} {X : Nat → Prop} {v : Value} {ps : List PV} {p : PV} {S : ByteArray} {k : Nat} {sF : LS} {oF : List APkt} {sk : LS} {vk : Value} {qs : List PV} {c : UInt8} {r : List UInt8}
    (hM : Mid w wr B X Z v ps p S k sF oF sk vk qs) (hD : S.data.toList.drop k = c :: r) (hW : Went wr.drew V B X (actS c sk) vk (ps ++ qs) (actO c sk p.abs)) (hkd : Below wr.heap.size wr wr.drew) :
    ∃ v2 q2, Mid w V B X Z v ps p S (k + 1) sF oF (actS c sk) v2 q2 := by
  obtain ⟨⟨v2, q2, hR, ho, hv⟩, hK⟩ := hW
  have hr : S.data.toList.drop (k + 1) = r := by
    have := congrArg (List.drop 1) hD
    simpa using this
  have hK1 : Kept wr V B vk.ownBlock := (Kept.of_below B vk.ownBlock hkd).trans hK (fun i e => .inl e)
  have keepZ : ∀ j, V.cell? ⟨Z, j, none⟩ = wr.cell? ⟨Z, j, none⟩ := fun j => World.cell?_of_block (a := ⟨Z, j, none⟩) (hK1.block Z (World.block_lt_of_cell? wr _ hM.d0) (fun e => by
    subst e
    have h1 := hM.d0
    have h2 := hM.d1
    have h3 := hM.d2
    have h4 : wr.cell? ⟨Z, 2, none⟩ = some (.int .i64 sk.ns) := hM.rep.lk.cell 2
    rw [h3] at h4
    simp at h4) hM.nz)
  have hsz : wr.drew.heap.size = wr.heap.size := rfl
  refine ⟨v2, qs ++ q2, by rw [← List.append_assoc]; exact hR, ?_, ?_, ?_, ?_, ?_, ?_, (keepZ 0).trans hM.d0, (keepZ 1).trans hM.d1, (keepZ 2).trans hM.d2, ?_, ?_⟩
  · have := Bd.act hM.bd (by omega) c
    exact ⟨this.o1, this.o2, by have := this.l1; push_cast; omega, by have := this.l2; push_cast; omega⟩
  · rw [hr, ← hM.fin, hD]; rfl
  · rw [hr, ← hM.out, hD, List.map_append, ho, List.append_assoc]; rfl
  · exact hM.ans.kept hM.rep.self hK1 (fun g hg => hv g hg)
  · refine hM.kept.trans hK1 (fun i e => ?_)
    rcases hM.hv i e with h1 | h1
    · exact .inl h1
    · exact .inr h1
  · intro g hg
    rcases hv g hg with h1 | h1
    · exact hM.hv g h1
    · exact .inr (Nat.le_trans hM.kept.size h1)
  · intro e
    rcases hv Z e with h1 | h1
    · exact hM.nz h1
    · have h3 : Z < wr.heap.size := World.block_lt_of_cell? wr _ hM.d0
      have h2 : wr.heap.size ≤ Z := h1
      omega
  · rw [List.length_append]
    have h1 : q2.length = (actO c sk p.abs).length := by rw [← ho]; simp
    have h2 := actO_len c sk p.abs
    have h3 := hM.few
    omega

set_option maxRecDepth 100000 in
set_option maxHeartbeats 8000000 in
theorem come_yes (B : Nat) (X : Nat → Prop) (s : LS) (v : Value) (ps : List PV) (p : PV) (ev : Int) (S : ByteArray) (nx : Int) (w : World) (hT : TabOk w) (h : Rep w B X s v ps) (hb : Bd s 100) (hp : PvOk w X v p) (hn : ps.length ≤ 50) (hR : stepI s.st ev = (S.data.toList, nx, 0)) (hS : S.size ≤ 4) :
    Calls Tryd.prog 21 #[.pointer (some ⟨B, 0, none⟩), .int .i64 ev, .agg #[.int .i64 p.code, .int .i64 p.id, .slice p.a p.n p.cap]] w fun e w' => e = .returned .nilIface ∧ Went w w' B X (runS S.data.toList (s.next nx)) v ps (runO S.data.toList (s.next nx) p.abs) := by
  have hk := below_alloc w (.cells #[.int .i64 p.code, .int .i64 p.id, .slice p.a p.n p.cap] 36)
  have hA := fun j => World.cell?_alloc_mark w #[.int .i64 p.code, .int .i64 p.id, .slice p.a p.n p.cap] 36 (0, 0) j
  have hst := step_as s.st ev S.data.toList nx 0 hR _ (hT.below hk)
  have e0 : errV 0 = .nilIface := rfl
  have eS : (⟨S.data.toList.toArray⟩ : ByteArray) = S := by simp
  rw [e0, eS] at hst
  have hl := h.lk.lt
  have hvl := h.row.lt
  have c6 : w.cell? ⟨B, 6, none⟩ = some (.int .i64 s.st) := h.lk.cell 6
  have h0 := h.below hk
  have hp0 := hp.kept h.self (Kept.of_below B v.ownBlock hk) (fun _ e => .inl e)
  obtain ⟨sF, hsF⟩ : ∃ sF, runS S.data.toList (s.next nx) = sF := ⟨_, rfl⟩
  obtain ⟨oF, hoF⟩ : ∃ oF, runO S.data.toList (s.next nx) p.abs = oF := ⟨_, rfl⟩
  rw [hsF, hoF]
  have HsF : Hid _ := hsF
  have HoF : Hid _ := hoF
  clear hsF hoF
  go_enter Tryd.func21, Tryd.ntmps21
  go_wp2_with (fail)
  refine hst.mono ?_
  rintro e w1 ⟨rfl, m1, rfl⟩
  obtain ⟨W1, hW1⟩ : ∃ W1, (w.alloc (.cells #[.int .i64 p.code, .int .i64 p.id, .slice p.a p.n p.cap] 36)).drewN m1 = W1 := ⟨_, rfl⟩
  obtain ⟨Z, hZ⟩ : ∃ Z, w.heap.size = Z := ⟨_, rfl⟩
  have d0 : W1.cell? ⟨Z, 0, none⟩ = some (.int .i64 p.code) := by rw [← hW1, ← hZ]; exact hA 0
  have d1 : W1.cell? ⟨Z, 1, none⟩ = some (.int .i64 p.id) := by rw [← hW1, ← hZ]; exact hA 1
  have d2 : W1.cell? ⟨Z, 2, none⟩ = some (.slice p.a p.n p.cap) := by rw [← hW1, ← hZ]; exact hA 2
  have hb1 : Below w.heap.size w W1 := by rw [← hW1]; exact below_drewN hk m1
  have h1 : Rep W1 B X s v ps := h.below hb1
  have hp1 : PvOk W1 X v p := hp.kept h.self (Kept.of_below B v.ownBlock hb1) (fun _ e => .inl e)
  have hk1 := Kept.of_below B v.ownBlock hb1
  rw [hW1, hZ]
  have hBZ : B ≠ Z := by omega
  have hnz : v.ownBlock ≠ some Z := fun e => by have := hvl Z e; omega
  clear hst hW1 hZ hA h0 hk h c6 hl e0 eS hT hp hp0 hb1 hvl
  have hlB := h1.lk.lt
  have c0 : W1.cell? ⟨B, 0, none⟩ = some (.int .i64 s.fs) := h1.lk.cell 0
  have c1 : W1.cell? ⟨B, 1, none⟩ = some (.int .i64 s.fm) := h1.lk.cell 1
  have c2 : W1.cell? ⟨B, 2, none⟩ = some (.int .i64 s.ns) := h1.lk.cell 2
  have c3 : W1.cell? ⟨B, 3, none⟩ = some (.int .i64 s.nm) := h1.lk.cell 3
  have c6 : W1.cell? ⟨B, 6, none⟩ = some (.int .i64 s.st) := h1.lk.cell 6
  have c7 : W1.cell? ⟨B, 7, none⟩ = some (.int .i64 s.sz) := h1.lk.cell 7
  have fz : ∀ j, W1.frozen? ⟨B, j, none⟩ = false := h1.lk.frozen
  have tail : ∀ (W2 : World) (s2 : LS), Rep W2 B X s2 v ps → Kept W1 W2 B v.ownBlock → s.next nx = s2 → Bd s2 100 → Mid w W2 B X Z v ps p S 0 sF oF s2 v [] := by
    intro W2 s2 hR2 hK2 hs2 hb2
    have keepZ : ∀ j, W2.cell? ⟨Z, j, none⟩ = W1.cell? ⟨Z, j, none⟩ := fun j => World.cell?_of_block (a := ⟨Z, j, none⟩) (hK2.block Z (World.block_lt_of_cell? W1 _ d0) (fun e => hBZ e.symm) hnz)
    exact ⟨by rw [List.append_nil]; exact hR2, ⟨hb2.o1, hb2.o2, by have := hb2.l1; omega, by have := hb2.l2; omega⟩, by rw [← HsF.out, hs2]; rfl, by rw [← HoF.out, hs2]; rfl, hp1.kept h1.self hK2 (fun _ e => .inl e), hk1.trans hK2 (fun i e => .inl e), fun _ e => .inl e, (keepZ 0).trans d0, (keepZ 1).trans d1, (keepZ 2).trans d2, hnz, Nat.le_refl _⟩
  have HT : Hid _ := tail
  clear tail
  clear HsF HoF
  by_cases hx : nx ≤ 3
  · have M0 : Hid (Mid w ((((W1.setCell ⟨B, 6, none⟩ (.int .i64 nx)).setCell ⟨B, 2, none⟩ (.int .i64 s.fs)).setCell ⟨B, 3, none⟩ (.int .i64 s.fm)).setCell ⟨B, 7, none⟩ (.int .i64 255)) B X Z v ps p S 0 sF oF { s with st := nx, ns := s.fs, nm := s.fm, sz := 255 } v []) :=
      HT.out _ _ ((((h1.setC 6 _ { s with st := nx } rfl).setC 2 _ { s with st := nx, ns := s.fs } rfl).setC 3 _ { s with st := nx, ns := s.fs, nm := s.fm } rfl).setC 7 _ _ rfl) (kept_set (kept_set (kept_set (kept_set (Kept.refl _ B _) 6 _) 2 _) 3 _) 7 _) (by simp [LS.next, hx]) ⟨hb.o1, hb.o2, hb.l1, hb.l2⟩
    clear HT h1 hk1 hp1
    go_wp2_with (fail)
    obtain ⟨W2, hW2⟩ : ∃ W2, ((((W1.setCell ⟨B, 6, none⟩ (.int .i64 nx)).setCell ⟨B, 2, none⟩ (.int .i64 s.fs)).setCell ⟨B, 3, none⟩ (.int .i64 s.fm)).setCell ⟨B, 7, none⟩ (.int .i64 255)) = W2 := ⟨_, rfl⟩
    have M1 : Hid (Mid w W2 B X Z v ps p S 0 sF oF { s with st := nx, ns := s.fs, nm := s.fm, sz := 255 } v []) := by show Mid _ _ _ _ _ _ _ _ _ _ _ _ _ _ _; rw [← hW2]; exact M0.out
    rw [hW2]
    clear M0 hW2 d0 d1 d2 c0 c1 c2 c3 c6 c7 fz
    go_loopw [42] (fun i wr => ∃ (k : Nat) (sk : LS) (vk : Value) (qs : List PV), k ≤ S.size ∧ i = .int .i64 k ∧ Mid w wr B X Z v ps p S k sF oF sk vk qs) (fun i _ => S.size - (intOf i).toNat)
    case atStart => exact ⟨0, _, v, [], Nat.zero_le _, rfl, M1.out⟩
    case round =>
      obtain ⟨k, sk, vk, qs, hk, rfl, hM⟩ := hrel
      by_cases hlt : k < S.size
      · have hlt' : (k : Int) < (S.size : Int) := by omega
        have hk0 : (0 : Int) ≤ (k : Int) := by omega
        have HD : Hid (S.data.toList.drop k = S[k] :: S.data.toList.drop (k + 1)) := by
          show _ = _
          rw [List.drop_eq_getElem_cons (by simpa using hlt)]; rfl
        obtain ⟨x0, x1, x2⟩ := And.intro hM.d0 (And.intro hM.d1 hM.d2)
        have xl : Z < wr.heap.size := World.block_lt_of_cell? wr _ x0
        have hkd : Below wr.heap.size wr wr.drew := below_drew (Below.refl _ _)
        have HC := act_any S[k] B X sk vk (ps ++ qs) p wr.drew (hM.rep.below hkd) ⟨hM.bd.o1, hM.bd.o2, by have := hM.bd.l1; omega, by have := hM.bd.l2; omega⟩ (hM.ans.kept hM.rep.self (Kept.of_below B vk.ownBlock hkd) (fun _ e => .inl e)) (by rw [List.length_append]; have := hM.few; omega)
        go_wp2_with (fail)
        go_region_with (go_at_call 33; refine HC.mono ?_; rintro e V ⟨rfl, hW⟩)
        all_goals
          have M2 : Hid (∃ v2 q2, Mid w V B X Z v ps p S (k + 1) sF oF (actS S[k] sk) v2 q2) := mid_step hM HD.out hW hkd
          clear HC
          go_wp2_with (fail)
          go_roundw
          case rel =>
            obtain ⟨v2, q2, hM2⟩ := M2.out
            exact ⟨k + 1, _, v2, q2, by omega, by go_num, hM2⟩
          case measure => simp [intOf]; omega
      · have hdd : S.data.toList.drop k = [] := List.drop_eq_nil_of_le (by have : S.data.toList.length = S.size := by simp
                                                                           omega)
        have HF : Hid (Went w wr B X sF v ps oF) := by
          have h1 := hM.fin
          have h2 := hM.out
          rw [hdd] at h1 h2
          have h3 : sk = sF := h1
          subst h3
          refine ⟨⟨vk, qs, hM.rep, by simpa [runO] using h2, hM.hv⟩, hM.kept⟩
        clear hM hdd
        go_wp2_with (fail)
        go_ret
        exact ⟨rfl, HF.out⟩
  · have M0 : Hid (Mid w (W1.setCell ⟨B, 6, none⟩ (.int .i64 nx)) B X Z v ps p S 0 sF oF { s with st := nx } v []) :=
      HT.out _ _ (h1.setC 6 _ _ rfl) (kept_set (Kept.refl _ B _) 6 _) (by simp [LS.next, hx]) ⟨hb.o1, hb.o2, hb.l1, hb.l2⟩
    clear HT h1 hk1 hp1
    go_wp2_with (fail)
    obtain ⟨W2, hW2⟩ : ∃ W2, (W1.setCell ⟨B, 6, none⟩ (.int .i64 nx)) = W2 := ⟨_, rfl⟩
    have M1 : Hid (Mid w W2 B X Z v ps p S 0 sF oF { s with st := nx } v []) := by show Mid _ _ _ _ _ _ _ _ _ _ _ _ _ _ _; rw [← hW2]; exact M0.out
    rw [hW2]
    clear M0 hW2 d0 d1 d2 c0 c1 c2 c3 c6 c7 fz
    go_loopw [42] (fun i wr => ∃ (k : Nat) (sk : LS) (vk : Value) (qs : List PV), k ≤ S.size ∧ i = .int .i64 k ∧ Mid w wr B X Z v ps p S k sF oF sk vk qs) (fun i _ => S.size - (intOf i).toNat)
    case atStart => exact ⟨0, _, v, [], Nat.zero_le _, rfl, M1.out⟩
    case round =>
      obtain ⟨k, sk, vk, qs, hk, rfl, hM⟩ := hrel
      by_cases hlt : k < S.size
      · have hlt' : (k : Int) < (S.size : Int) := by omega
        have hk0 : (0 : Int) ≤ (k : Int) := by omega
        have HD : Hid (S.data.toList.drop k = S[k] :: S.data.toList.drop (k + 1)) := by
          show _ = _
          rw [List.drop_eq_getElem_cons (by simpa using hlt)]; rfl
        obtain ⟨x0, x1, x2⟩ := And.intro hM.d0 (And.intro hM.d1 hM.d2)
        have xl : Z < wr.heap.size := World.block_lt_of_cell? wr _ x0
        have hkd : Below wr.heap.size wr wr.drew := below_drew (Below.refl _ _)
        have HC := act_any S[k] B X sk vk (ps ++ qs) p wr.drew (hM.rep.below hkd) ⟨hM.bd.o1, hM.bd.o2, by have := hM.bd.l1; omega, by have := hM.bd.l2; omega⟩ (hM.ans.kept hM.rep.self (Kept.of_below B vk.ownBlock hkd) (fun _ e => .inl e)) (by rw [List.length_append]; have := hM.few; omega)
        go_wp2_with (fail)
        go_region_with (go_at_call 33; refine HC.mono ?_; rintro e V ⟨rfl, hW⟩)
        all_goals
          have M2 : Hid (∃ v2 q2, Mid w V B X Z v ps p S (k + 1) sF oF (actS S[k] sk) v2 q2) := mid_step hM HD.out hW hkd
          clear HC
          go_wp2_with (fail)
          go_roundw
          case rel =>
            obtain ⟨v2, q2, hM2⟩ := M2.out
            exact ⟨k + 1, _, v2, q2, by omega, by go_num, hM2⟩
          case measure => simp [intOf]; omega
      · have hdd : S.data.toList.drop k = [] := List.drop_eq_nil_of_le (by have : S.data.toList.length = S.size := by simp
                                                                           omega)
        have HF : Hid (Went w wr B X sF v ps oF) := by
          have h1 := hM.fin
          have h2 := hM.out
          rw [hdd] at h1 h2
          have h3 : sk = sF := h1
          subst h3
          refine ⟨⟨vk, qs, hM.rep, by simpa [runO] using h2, hM.hv⟩, hM.kept⟩
        clear hM hdd
        go_wp2_with (fail)
        go_ret
        exact ⟨rfl, HF.out⟩
end Go.Proofs.YtgfjgenkpfdofaaDoor
