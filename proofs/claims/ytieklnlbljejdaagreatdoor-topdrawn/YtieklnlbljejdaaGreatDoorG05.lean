/-
  LinkCome LinkTake LinkGive
-/
import Derived.Test.YtieklnlbljejdaaGreatDoorG02
import Derived.Test.YtieklnlbljejdaaGreatDoorG04
namespace Go.Proofs.YtieklnlbljejdaaGreatDoor
open Go.RowKit
def LS.next (s : LS) (nx : Int) : LS := if nx ≤ 3 then { s with st := nx, ns := s.fs, nm := s.fm, sz := 255 } else { s with st := nx }
theorem Kept.tab {w w' : World} {B : Nat} {o : Option Nat} (k : Kept w w' B o) (h : TabOk w) (hB : B ≠ 0) (ho : o ≠ some 0) : TabOk w' := fun e s he hs =>
 (World.cell?_of_block (a := ⟨0, e * 10 + s, none⟩) (k.block 0 h.lt (by omega) ho)).trans (h e s he hs)
set_option maxRecDepth 100000 in
set_option maxHeartbeats 4000000 in
theorem come_no (B : Nat) (X : Nat → Prop) (s : LS) (v : Value) (ps : List PV) (p : PV) (ev : Int) (D : List UInt8) (nx : Int) (f : Nat) (w : World) (hT : TabOk w) (h : Rep w B X s v ps) (hR : stepI s.st ev = (D, nx, f)) (hf : f ≠ 0) :
 Calls Tryz.prog 171 #[.pointer (some ⟨B, 0, none⟩), .int .i64 ev, .agg #[.int .i64 p.code, .int .i64 p.id, .slice p.a p.n p.cap]] w fun e w' => e = .returned (.iface 128 (.int .i64 (f : Int))) ∧ Below w.heap.size w w' := by
 have hk := below_alloc w (.cells #[.int .i64 p.code, .int .i64 p.id, .slice p.a p.n p.cap] 37)
 have hst := step_as s.st ev D nx f hR _ (hT.below hk)
 have e1 : errV f = .iface 128 (.int .i64 (f : Int)) := by simp [errV, hf]
 rw [e1] at hst
 have hl := h.lk.lt
 have c6 : w.cell? ⟨B, 6, none⟩ = some (.int .i64 s.st) := h.lk.cell 6
 clear h hT e1
 go_enter Tryz.func171, Tryz.ntmps171
 go_wp2_with (fail)
 refine hst.mono ?_
 rintro e w1 ⟨rfl, m1, rfl⟩
 go_wp2_with (fail)
 go_ret
 exact ⟨rfl, below_drewN hk _⟩
structure Mid (w wr : World) (B : Nat) (X : Nat → Prop) (Z : Nat) (v : Value) (ps : List PV) (p : PV) (S : ByteArray) (k : Nat) (sF : LS) (oF : List APkt) (sk : LS) (vk : Value) (qs : List PV) : Prop where
 rep : Rep wr B X sk vk (ps ++ qs)
 bd : Bd sk (100 + k)
 fin : runS (S.data.toList.drop k) sk = sF
 out : qs.map PV.abs ++ runO (S.data.toList.drop k) sk p.abs = oF
 ans : PvOk wr X vk p
 kept : Kept w wr B v.ownBlock
 hv : ∀ g, vk.ownBlock = some g → v.ownBlock = some g ∨ w.heap.size ≤ g
 d0 : wr.cell? ⟨Z, 0, none⟩ = some (.int .i64 p.code)
 d1 : wr.cell? ⟨Z, 1, none⟩ = some (.int .i64 p.id)
 d2 : wr.cell? ⟨Z, 2, none⟩ = some (.slice p.a p.n p.cap)
 nz : vk.ownBlock ≠ some Z
 few : qs.length ≤ k
theorem actO_len (c : UInt8) (s : LS) (a : APkt) : (actO c s a).length ≤ 1 := by
 unfold actO
 split
 · simp
 · split
   · simp
   · split
     · simp
     · split <;> simp
theorem mid_step {w wr V : World} {B Z : Nat} {X : Nat → Prop} {v : Value} {ps : List PV} {p : PV} {S : ByteArray} {k : Nat} {sF : LS} {oF : List APkt} {sk : LS} {vk : Value} {qs : List PV} {c : UInt8} {r : List UInt8}
 (hM : Mid w wr B X Z v ps p S k sF oF sk vk qs) (hD : S.data.toList.drop k = c :: r) (hW : Went wr.drew V B X (actS c sk) vk (ps ++ qs) (actO c sk p.abs)) (hkd : Below wr.heap.size wr wr.drew) :
 ∃ v2 q2, Mid w V B X Z v ps p S (k + 1) sF oF (actS c sk) v2 q2 := by
 obtain ⟨⟨v2, q2, hR, ho, hv⟩, hK⟩ := hW
 have hr : S.data.toList.drop (k + 1) = r := by
  have := congrArg (List.drop 1) hD
  simpa using this
 have hK1 : Kept wr V B vk.ownBlock := (Kept.of_below B vk.ownBlock hkd).trans hK (fun i e => .inl e)
 have keepZ : ∀ j, V.cell? ⟨Z, j, none⟩ = wr.cell? ⟨Z, j, none⟩ := fun j => World.cell?_of_block (a := ⟨Z, j, none⟩) (hK1.block Z (World.block_lt_of_cell? wr _ hM.d0) (fun e => by
  subst e
  have h1 := hM.d0
  have h2 := hM.d1
  have h3 := hM.d2
  have h4 : wr.cell? ⟨Z, 2, none⟩ = some (.int .i64 sk.ns) := hM.rep.lk.cell 2
  rw [h3] at h4
  simp at h4) hM.nz)
 have hsz : wr.drew.heap.size = wr.heap.size := rfl
 refine ⟨v2, qs ++ q2, by rw [← List.append_assoc]; exact hR, ?_, ?_, ?_, ?_, ?_, ?_, (keepZ 0).trans hM.d0, (keepZ 1).trans hM.d1, (keepZ 2).trans hM.d2, ?_, ?_⟩
 · have := Bd.act hM.bd (by omega) c
   exact ⟨this.o1, this.o2, by have := this.l1; push_cast; omega, by have := this.l2; push_cast; omega⟩
 · rw [hr, ← hM.fin, hD]; rfl
 · rw [hr, ← hM.out, hD, List.map_append, ho, List.append_assoc]; rfl
 · exact hM.ans.kept hM.rep.self hK1 (fun g hg => hv g hg)
 · refine hM.kept.trans hK1 (fun i e => ?_)
   rcases hM.hv i e with h1 | h1
   · exact .inl h1
   · exact .inr h1
 · intro g hg
   rcases hv g hg with h1 | h1
   · exact hM.hv g h1
   · exact .inr (Nat.le_trans hM.kept.size h1)
 · intro e
   rcases hv Z e with h1 | h1
   · exact hM.nz h1
   · have h3 : Z < wr.heap.size := World.block_lt_of_cell? wr _ hM.d0
     have h2 : wr.heap.size ≤ Z := h1
     omega
 · rw [List.length_append]
   have h1 : q2.length = (actO c sk p.abs).length := by rw [← ho]; simp
   have h2 := actO_len c sk p.abs
   have h3 := hM.few
   omega
set_option maxRecDepth 100000 in
set_option maxHeartbeats 8000000 in
theorem come_yes (B : Nat) (X : Nat → Prop) (s : LS) (v : Value) (ps : List PV) (p : PV) (ev : Int) (S : ByteArray) (nx : Int) (w : World) (hT : TabOk w) (h : Rep w B X s v ps) (hb : Bd s 100) (hp : PvOk w X v p) (hn : ps.length ≤ 50) (hR : stepI s.st ev = (S.data.toList, nx, 0)) (hS : S.size ≤ 4) :
 Calls Tryz.prog 171 #[.pointer (some ⟨B, 0, none⟩), .int .i64 ev, .agg #[.int .i64 p.code, .int .i64 p.id, .slice p.a p.n p.cap]] w fun e w' => e = .returned .nilIface ∧ Went w w' B X (runS S.data.toList (s.next nx)) v ps (runO S.data.toList (s.next nx) p.abs) := by
 have hk := below_alloc w (.cells #[.int .i64 p.code, .int .i64 p.id, .slice p.a p.n p.cap] 37)
 have hA := fun j => World.cell?_alloc_mark w #[.int .i64 p.code, .int .i64 p.id, .slice p.a p.n p.cap] 37 (0, 0) j
 have hst := step_as s.st ev S.data.toList nx 0 hR _ (hT.below hk)
 have e0 : errV 0 = .nilIface := rfl
 have eS : (⟨S.data.toList.toArray⟩ : ByteArray) = S := by simp
 rw [e0, eS] at hst
 have hl := h.lk.lt
 have hvl := h.row.lt
 have c6 : w.cell? ⟨B, 6, none⟩ = some (.int .i64 s.st) := h.lk.cell 6
 have h0 := h.below hk
 have hp0 := hp.kept h.self (Kept.of_below B v.ownBlock hk) (fun _ e => .inl e)
 obtain ⟨sF, hsF⟩ : ∃ sF, runS S.data.toList (s.next nx) = sF := ⟨_, rfl⟩
 obtain ⟨oF, hoF⟩ : ∃ oF, runO S.data.toList (s.next nx) p.abs = oF := ⟨_, rfl⟩
 rw [hsF, hoF]
 have HsF : Hid _ := hsF
 have HoF : Hid _ := hoF
 clear hsF hoF
 go_enter Tryz.func171, Tryz.ntmps171
 go_wp2_with (fail)
 refine hst.mono ?_
 rintro e w1 ⟨rfl, m1, rfl⟩
 obtain ⟨W1, hW1⟩ : ∃ W1, (w.alloc (.cells #[.int .i64 p.code, .int .i64 p.id, .slice p.a p.n p.cap] 37)).drewN m1 = W1 := ⟨_, rfl⟩
 obtain ⟨Z, hZ⟩ : ∃ Z, w.heap.size = Z := ⟨_, rfl⟩
 have d0 : W1.cell? ⟨Z, 0, none⟩ = some (.int .i64 p.code) := by rw [← hW1, ← hZ]; exact hA 0
 have d1 : W1.cell? ⟨Z, 1, none⟩ = some (.int .i64 p.id) := by rw [← hW1, ← hZ]; exact hA 1
 have d2 : W1.cell? ⟨Z, 2, none⟩ = some (.slice p.a p.n p.cap) := by rw [← hW1, ← hZ]; exact hA 2
 have hb1 : Below w.heap.size w W1 := by rw [← hW1]; exact below_drewN hk m1
 have h1 : Rep W1 B X s v ps := h.below hb1
 have hp1 : PvOk W1 X v p := hp.kept h.self (Kept.of_below B v.ownBlock hb1) (fun _ e => .inl e)
 have hk1 := Kept.of_below B v.ownBlock hb1
 rw [hW1, hZ]
 have hBZ : B ≠ Z := by omega
 have hnz : v.ownBlock ≠ some Z := fun e => by have := hvl Z e; omega
 clear hst hW1 hZ hA h0 hk h c6 hl e0 eS hT hp hp0 hb1 hvl
 have hlB := h1.lk.lt
 have c0 : W1.cell? ⟨B, 0, none⟩ = some (.int .i64 s.fs) := h1.lk.cell 0
 have c1 : W1.cell? ⟨B, 1, none⟩ = some (.int .i64 s.fm) := h1.lk.cell 1
 have c2 : W1.cell? ⟨B, 2, none⟩ = some (.int .i64 s.ns) := h1.lk.cell 2
 have c3 : W1.cell? ⟨B, 3, none⟩ = some (.int .i64 s.nm) := h1.lk.cell 3
 have c6 : W1.cell? ⟨B, 6, none⟩ = some (.int .i64 s.st) := h1.lk.cell 6
 have c7 : W1.cell? ⟨B, 7, none⟩ = some (.int .i64 s.sz) := h1.lk.cell 7
 have fz : ∀ j, W1.frozen? ⟨B, j, none⟩ = false := h1.lk.frozen
 have tail : ∀ (W2 : World) (s2 : LS), Rep W2 B X s2 v ps → Kept W1 W2 B v.ownBlock → s.next nx = s2 → Bd s2 100 → Mid w W2 B X Z v ps p S 0 sF oF s2 v [] := by
  intro W2 s2 hR2 hK2 hs2 hb2
  have keepZ : ∀ j, W2.cell? ⟨Z, j, none⟩ = W1.cell? ⟨Z, j, none⟩ := fun j => World.cell?_of_block (a := ⟨Z, j, none⟩) (hK2.block Z (World.block_lt_of_cell? W1 _ d0) (fun e => hBZ e.symm) hnz)
  exact ⟨by rw [List.append_nil]; exact hR2, ⟨hb2.o1, hb2.o2, by have := hb2.l1; omega, by have := hb2.l2; omega⟩, by rw [← HsF.out, hs2]; rfl, by rw [← HoF.out, hs2]; rfl, hp1.kept h1.self hK2 (fun _ e => .inl e), hk1.trans hK2 (fun i e => .inl e), fun _ e => .inl e, (keepZ 0).trans d0, (keepZ 1).trans d1, (keepZ 2).trans d2, hnz, Nat.le_refl _⟩
 have HT : Hid _ := tail
 clear tail
 clear HsF HoF
 by_cases hx : nx ≤ 3
 · have M0 : Hid (Mid w ((((W1.setCell ⟨B, 6, none⟩ (.int .i64 nx)).setCell ⟨B, 2, none⟩ (.int .i64 s.fs)).setCell ⟨B, 3, none⟩ (.int .i64 s.fm)).setCell ⟨B, 7, none⟩ (.int .i64 255)) B X Z v ps p S 0 sF oF { s with st := nx, ns := s.fs, nm := s.fm, sz := 255 } v []) :=
    HT.out _ _ ((((h1.setC 6 _ { s with st := nx } rfl).setC 2 _ { s with st := nx, ns := s.fs } rfl).setC 3 _ { s with st := nx, ns := s.fs, nm := s.fm } rfl).setC 7 _ _ rfl) (kept_set (kept_set (kept_set (kept_set (Kept.refl _ B _) 6 _) 2 _) 3 _) 7 _) (by simp [LS.next, hx]) ⟨hb.o1, hb.o2, hb.l1, hb.l2⟩
   clear HT h1 hk1 hp1
   go_wp2_with (fail)
   obtain ⟨W2, hW2⟩ : ∃ W2, ((((W1.setCell ⟨B, 6, none⟩ (.int .i64 nx)).setCell ⟨B, 2, none⟩ (.int .i64 s.fs)).setCell ⟨B, 3, none⟩ (.int .i64 s.fm)).setCell ⟨B, 7, none⟩ (.int .i64 255)) = W2 := ⟨_, rfl⟩
   have M1 : Hid (Mid w W2 B X Z v ps p S 0 sF oF { s with st := nx, ns := s.fs, nm := s.fm, sz := 255 } v []) := by show Mid _ _ _ _ _ _ _ _ _ _ _ _ _ _ _; rw [← hW2]; exact M0.out
   rw [hW2]
   clear M0 hW2 d0 d1 d2 c0 c1 c2 c3 c6 c7 fz
   go_loopw [42] (fun i wr => ∃ (k : Nat) (sk : LS) (vk : Value) (qs : List PV), k ≤ S.size ∧ i = .int .i64 k ∧ Mid w wr B X Z v ps p S k sF oF sk vk qs) (fun i _ => S.size - (intOf i).toNat)
   case atStart => exact ⟨0, _, v, [], Nat.zero_le _, rfl, M1.out⟩
   case round =>
    obtain ⟨k, sk, vk, qs, hk, rfl, hM⟩ := hrel
    by_cases hlt : k < S.size
    · have hlt' : (k : Int) < (S.size : Int) := by omega
      have hk0 : (0 : Int) ≤ (k : Int) := by omega
      have HD : Hid (S.data.toList.drop k = S[k] :: S.data.toList.drop (k + 1)) := by
       show _ = _
       rw [List.drop_eq_getElem_cons (by simpa using hlt)]; rfl
      obtain ⟨x0, x1, x2⟩ := And.intro hM.d0 (And.intro hM.d1 hM.d2)
      have xl : Z < wr.heap.size := World.block_lt_of_cell? wr _ x0
      have hkd : Below wr.heap.size wr wr.drew := below_drew (Below.refl _ _)
      have HC := act_any S[k] B X sk vk (ps ++ qs) p wr.drew (hM.rep.below hkd) ⟨hM.bd.o1, hM.bd.o2, by have := hM.bd.l1; omega, by have := hM.bd.l2; omega⟩ (hM.ans.kept hM.rep.self (Kept.of_below B vk.ownBlock hkd) (fun _ e => .inl e)) (by rw [List.length_append]; have := hM.few; omega)
      go_wp2_with (fail)
      go_region_with (go_at_call 208; refine HC.mono ?_; rintro e V ⟨rfl, hW⟩)
      all_goals
       have M2 : Hid (∃ v2 q2, Mid w V B X Z v ps p S (k + 1) sF oF (actS S[k] sk) v2 q2) := mid_step hM HD.out hW hkd
       clear HC
       go_wp2_with (fail)
       go_roundw
       case rel =>
        obtain ⟨v2, q2, hM2⟩ := M2.out
        exact ⟨k + 1, _, v2, q2, by omega, by go_num, hM2⟩
       case measure => simp [intOf]; omega
    · have hdd : S.data.toList.drop k = [] := List.drop_eq_nil_of_le (by have : S.data.toList.length = S.size := by simp
                                                                         omega)
      have HF : Hid (Went w wr B X sF v ps oF) := by
       have h1 := hM.fin
       have h2 := hM.out
       rw [hdd] at h1 h2
       have h3 : sk = sF := h1
       subst h3
       refine ⟨⟨vk, qs, hM.rep, by simpa [runO] using h2, hM.hv⟩, hM.kept⟩
      clear hM hdd
      go_wp2_with (fail)
      go_ret
      exact ⟨rfl, HF.out⟩
 · have M0 : Hid (Mid w (W1.setCell ⟨B, 6, none⟩ (.int .i64 nx)) B X Z v ps p S 0 sF oF { s with st := nx } v []) :=
    HT.out _ _ (h1.setC 6 _ _ rfl) (kept_set (Kept.refl _ B _) 6 _) (by simp [LS.next, hx]) ⟨hb.o1, hb.o2, hb.l1, hb.l2⟩
   clear HT h1 hk1 hp1
   go_wp2_with (fail)
   obtain ⟨W2, hW2⟩ : ∃ W2, (W1.setCell ⟨B, 6, none⟩ (.int .i64 nx)) = W2 := ⟨_, rfl⟩
   have M1 : Hid (Mid w W2 B X Z v ps p S 0 sF oF { s with st := nx } v []) := by show Mid _ _ _ _ _ _ _ _ _ _ _ _ _ _ _; rw [← hW2]; exact M0.out
   rw [hW2]
   clear M0 hW2 d0 d1 d2 c0 c1 c2 c3 c6 c7 fz
   go_loopw [42] (fun i wr => ∃ (k : Nat) (sk : LS) (vk : Value) (qs : List PV), k ≤ S.size ∧ i = .int .i64 k ∧ Mid w wr B X Z v ps p S k sF oF sk vk qs) (fun i _ => S.size - (intOf i).toNat)
   case atStart => exact ⟨0, _, v, [], Nat.zero_le _, rfl, M1.out⟩
   case round =>
    obtain ⟨k, sk, vk, qs, hk, rfl, hM⟩ := hrel
    by_cases hlt : k < S.size
    · have hlt' : (k : Int) < (S.size : Int) := by omega
      have hk0 : (0 : Int) ≤ (k : Int) := by omega
      have HD : Hid (S.data.toList.drop k = S[k] :: S.data.toList.drop (k + 1)) := by
       show _ = _
       rw [List.drop_eq_getElem_cons (by simpa using hlt)]; rfl
      obtain ⟨x0, x1, x2⟩ := And.intro hM.d0 (And.intro hM.d1 hM.d2)
      have xl : Z < wr.heap.size := World.block_lt_of_cell? wr _ x0
      have hkd : Below wr.heap.size wr wr.drew := below_drew (Below.refl _ _)
      have HC := act_any S[k] B X sk vk (ps ++ qs) p wr.drew (hM.rep.below hkd) ⟨hM.bd.o1, hM.bd.o2, by have := hM.bd.l1; omega, by have := hM.bd.l2; omega⟩ (hM.ans.kept hM.rep.self (Kept.of_below B vk.ownBlock hkd) (fun _ e => .inl e)) (by rw [List.length_append]; have := hM.few; omega)
      go_wp2_with (fail)
      go_region_with (go_at_call 208; refine HC.mono ?_; rintro e V ⟨rfl, hW⟩)
      all_goals
       have M2 : Hid (∃ v2 q2, Mid w V B X Z v ps p S (k + 1) sF oF (actS S[k] sk) v2 q2) := mid_step hM HD.out hW hkd
       clear HC
       go_wp2_with (fail)
       go_roundw
       case rel =>
        obtain ⟨v2, q2, hM2⟩ := M2.out
        exact ⟨k + 1, _, v2, q2, by omega, by go_num, hM2⟩
       case measure => simp [intOf]; omega
    · have hdd : S.data.toList.drop k = [] := List.drop_eq_nil_of_le (by have : S.data.toList.length = S.size := by simp
                                                                         omega)
      have HF : Hid (Went w wr B X sF v ps oF) := by
       have h1 := hM.fin
       have h2 := hM.out
       rw [hdd] at h1 h2
       have h3 : sk = sF := h1
       subst h3
       refine ⟨⟨vk, qs, hM.rep, by simpa [runO] using h2, hM.hv⟩, hM.kept⟩
      clear hM hdd
      go_wp2_with (fail)
      go_ret
      exact ⟨rfl, HF.out⟩
end Go.Proofs.YtieklnlbljejdaaGreatDoor

namespace Go.Proofs.YtieklnlbljejdaaGreatDoor
open Go.RowKit
set_option maxRecDepth 100000 in
set_option maxHeartbeats 2000000 in
theorem equal_any (a b : Option Addr) (ca cb n m : Nat) (os qs : List Opt) (w : World) (ha : OptR w a n os) (hb : OptR w b m qs) (hn : n ≤ 1000000) (hm : m ≤ 1000000) :
 Calls Tryz.prog 230 #[.slice a n ca, .slice b m cb] w fun e w' => e = .returned (.bool (decide (os = qs))) ∧ ∃ k, w' = w.drewN k := by
 have hl := ha.1
 have hl2 := hb.1
 by_cases hnm : n = m
 · subst hnm
   have heq : ((n : Int) != (n : Int)) = false := by simp
   go_enter Tryz.func230, Tryz.ntmps230
   go_wp2_with (fail)
   go_loopw [13] (fun i wr => ∃ k m : Nat, k ≤ n ∧ i = .int .i64 k ∧ os.take k = qs.take k ∧ wr = w.drewN m) (fun i _ => n - (intOf i).toNat)
   case atStart => exact ⟨0, 0, Nat.zero_le _, rfl, rfl, rfl⟩
   case round =>
    obtain ⟨k, m, hk, rfl, hT, rfl⟩ := hrel
    have HT : Hid _ := hT
    clear hT
    by_cases hlt : k < n
    · rcases ha.2 with hA | ⟨b1, o1, rfl, hA⟩
      · omega
      rcases hb.2 with hB | ⟨b2, o2, rfl, hB⟩
      · omega
      obtain ⟨c1, c2⟩ := hA k (by omega)
      obtain ⟨c3, c4⟩ := hB k (by omega)
      have H1 : Hid (os.take (k + 1) = os.take k ++ [os[k]'(by omega)]) := List.take_succ_eq_append_getElem (by omega)
      have H2 : Hid (qs.take (k + 1) = qs.take k ++ [qs[k]'(by omega)]) := List.take_succ_eq_append_getElem (by omega)
      have H3 : Hid (os = qs → os[k]'(by omega) = qs[k]'(by omega)) := fun h => by subst h; rfl
      clear hA hB
      generalize os[k]'(by omega) = o at c1 c2 H1 H3
      generalize qs[k]'(by omega) = q at c3 c4 H2 H3
      have hlt' : (k : Int) < (n : Int) := by omega
      cases q1 : (o.1 == q.1)
      · have hne : Hid (decide (os = qs) = false) := by
         show _ = _
         rw [decide_eq_false_iff_not]
         intro h
         have := H3.out h
         rw [this] at q1
         simp at q1
        go_wp2_with (fail)
        go_quiet (fail)
        go_wp2_with (fail)
        rw [hne.out]
        go_ret
        exact ⟨rfl, _, drewN_drewN _ _ _⟩
      · cases q2 : (o.2 == q.2)
        · have hne : Hid (decide (os = qs) = false) := by
           show _ = _
           rw [decide_eq_false_iff_not]
           intro h
           have := H3.out h
           rw [this] at q2
           simp at q2
          go_wp2_with (fail)
          go_quiet (fail)
          go_wp2_with (fail)
          rw [hne.out]
          go_ret
          exact ⟨rfl, _, drewN_drewN _ _ _⟩
        · have HE : Hid (os.take (k + 1) = qs.take (k + 1)) := by
           show _ = _
           rw [H1.out, H2.out, HT.out]
           simp at q1 q2
           congr 2
           exact Prod.ext q1 q2
          go_wp2_with (fail)
          go_quiet (fail)
          go_wp2_with (fail)
          go_roundw
          case rel => exact ⟨k + 1, _, by omega, by go_num, HE.out, rfl⟩
          case measure => simp [intOf]; omega
    · have hfin : decide (os = qs) = true := by
       have h1 : os.take k = os := List.take_of_length_le (by omega)
       have h2 : qs.take k = qs := List.take_of_length_le (by omega)
       have := HT.out
       rw [h1, h2] at this
       simp [this]
      go_wp2_with (fail)
      rw [hfin]
      go_ret
      exact ⟨rfl, m, rfl⟩
 · have heq : ((n : Int) != (m : Int)) = true := by simp; omega
   have hne : decide (os = qs) = false := by
    rw [decide_eq_false_iff_not]
    intro h
    subst h
    omega
   rw [hne]
   go_enter Tryz.func230, Tryz.ntmps230
   go_wp2_with (fail)
   go_ret
   exact ⟨rfl, 0, rfl⟩
def comeS (s : LS) (ev : Int) : LS := runS (stepI s.st ev).1 (s.next (stepI s.st ev).2.1)
def comeO (s : LS) (ev : Int) (ans : APkt) : List APkt := runO (stepI s.st ev).1 (s.next (stepI s.st ev).2.1) ans
theorem stepI_len (s e : Int) : (stepI s e).1.length ≤ 4 := by
 unfold stepI
 split
 · simp
 · rename_i h
   exact (show ∀ e, e < 12 → ∀ s, s < 10 → (stepR s e).1.length ≤ 4 by decide +kernel) e.toNat (by omega) s.toNat (by omega)
theorem come_ok (B : Nat) (X : Nat → Prop) (s : LS) (v : Value) (ps : List PV) (p : PV) (ev : Int) (w : World) (hT : TabOk w) (h : Rep w B X s v ps) (hb : Bd s 100) (hp : PvOk w X v p) (hn : ps.length ≤ 50) (hf : (stepI s.st ev).2.2 = 0) :
 Calls Tryz.prog 171 #[.pointer (some ⟨B, 0, none⟩), .int .i64 ev, .agg #[.int .i64 p.code, .int .i64 p.id, .slice p.a p.n p.cap]] w fun e w' => e = .returned .nilIface ∧ Went w w' B X (comeS s ev) v ps (comeO s ev p.abs) := by
 have hl := stepI_len s.st ev
 unfold comeS comeO
 obtain ⟨D, nx, f, hR⟩ : ∃ D nx f, stepI s.st ev = (D, nx, f) := ⟨_, _, _, rfl⟩
 rw [hR] at hf hl ⊢
 simp only at hf hl ⊢
 subst hf
 exact come_yes B X s v ps p ev ⟨D.toArray⟩ nx w hT h hb hp hn hR (by show D.toArray.size ≤ 4; simpa using hl)
def sizeOfL : List Opt → Int
 | [] => 255
 | o :: r => if o.1 = 1 then o.2 else sizeOfL r
set_option maxRecDepth 100000 in
set_option maxHeartbeats 2000000 in
theorem sizeOf_any (a : Option Addr) (n cap : Nat) (os : List Opt) (w : World) (hn : n ≤ 1000000) (ho : OptR w a n os) :
 Calls Tryz.prog 229 #[.slice a n cap] w fun e w' => e = .returned (.int .i64 (sizeOfL os)) ∧ Below w.heap.size w w' := by
 go_enter Tryz.func229, Tryz.ntmps229
 go_wp2_with (fail)
 go_loopw [7] (fun i wr => ∃ k : Nat, k ≤ n ∧ i = .int .i64 k ∧ sizeOfL os = sizeOfL (os.drop k) ∧ Below w.heap.size w wr) (fun i _ => n - (intOf i).toNat)
 case atStart => exact ⟨0, Nat.zero_le _, rfl, rfl, Below.refl _ _⟩
 case round =>
  obtain ⟨k, hk, rfl, hF0, hbel⟩ := hrel
  have hF : Hid _ := hF0
  clear hF0
  by_cases hlt : k < n
  · have hor := ho.below hbel
    rcases hor.2 with h0 | ⟨b, off, rfl, hc⟩
    · omega
    have hlo : k < os.length := by rw [ho.1]; exact hlt
    obtain ⟨c1, c2⟩ := hc k hlo
    have HD : Hid (os.drop k = os[k] :: os.drop (k + 1)) := List.drop_eq_getElem_cons hlo
    generalize os[k] = o at c1 c2 HD
    clear hc
    have hlt' : (k : Int) < (n : Int) := by omega
    have hw1 := hbel.alloc hbel.size (.cells #[.int .i64 o.1, .int .i64 o.2] 276)
    cases q1 : (o.1 == 1)
    · have HE : Hid (sizeOfL os = sizeOfL (os.drop (k + 1))) := by
       show _ = _
       rw [hF.out, HD.out, sizeOfL, if_neg (by simpa using q1)]
      go_wp2_with (fail)
      go_roundw
      case rel => exact ⟨k + 1, by omega, by go_num, HE.out, hw1⟩
      case measure => simp [intOf]; omega
    · have HE : Hid (sizeOfL os = o.2) := by
       show _ = _
       rw [hF.out, HD.out, sizeOfL, if_pos (by simpa using q1)]
      go_wp2_with (fail)
      rw [HE.out]
      go_ret
      exact ⟨rfl, hw1⟩
  · have HE : Hid (sizeOfL os = 255) := by
     show _ = _
     have hdd : os.drop k = [] := List.drop_eq_nil_of_le (by rw [ho.1]; omega)
     rw [hF.out, hdd, sizeOfL]
    go_wp2_with (fail)
    rw [HE.out]
    go_ret
    exact ⟨rfl, hbel⟩
def LS.sized (s : LS) (os : List Opt) : LS := if 6 ≤ s.st then { s with sz := sizeOfL os } else s
set_option maxRecDepth 100000 in
set_option maxHeartbeats 8000000 in
theorem request_ack (B : Nat) (X : Nat → Prop) (s : LS) (v : Value) (ps : List PV) (id : Int) (a : Option Addr) (n cap : Nat) (os : List Opt) (w : World) (hT : TabOk w) (h : Rep w B X s v ps) (hb : Bd s 100) (hn : ps.length ≤ 50)
 (ho : OptR w a n os) (hfar : ∀ k, optOwn a n = some k → ¬ X k ∧ v.ownBlock ≠ some k ∧ k < w.heap.size) (hnil : NilOk a cap) (hnn : n ≤ 1000) (m1 : 0 ≤ s.nm) (m2 : s.nm ≤ 255) (hj : judgeR s.nm os = (2, os)) (hf : (stepI s.st 6).2.2 = 0) :
 Calls Tryz.prog 211 #[.pointer (some ⟨B, 0, none⟩), .agg #[.int .i64 1, .int .i64 id, .slice a n cap]] w fun e w' => e = .returned .nilIface ∧ Went w w' B X ((comeS s 6).sized os) v ps (comeO s 6 (2, id, os)) := by
 have hk := below_alloc w (.cells #[.int .i64 1, .int .i64 id, .slice a n cap] 37)
 have hA := fun j => World.cell?_alloc_mark w #[.int .i64 1, .int .i64 id, .slice a n cap] 37 (0, 0) j
 have hl := h.lk.lt
 have hvl := h.row.lt
 have h1 := h.below hk
 have hz : ∀ w : World, (zeroValue 37).run Tryz.prog w = .ok (.agg #[.int .i64 0, .int .i64 0, .slice none 0 0]) w := fun w => by kernel_rfl
 have hol := ho.1
 obtain ⟨W1, hW1⟩ : ∃ W1, w.alloc (.cells #[.int .i64 1, .int .i64 id, .slice a n cap] 37) = W1 := ⟨_, rfl⟩
 obtain ⟨Z, hZ⟩ : ∃ Z, w.heap.size = Z := ⟨_, rfl⟩
 have d1 : W1.cell? ⟨Z, 1, none⟩ = some (.int .i64 id) := by rw [← hW1, ← hZ]; exact hA 1
 have d2 : W1.cell? ⟨Z, 2, none⟩ = some (.slice a n cap) := by rw [← hW1, ← hZ]; exact hA 2
 rw [hW1] at h1 hk
 have hBZ : B ≠ Z := by omega
 have hnz : v.ownBlock ≠ some Z := fun e => by have := hvl Z e; omega
 have HW : Hid (w.alloc (.cells #[.int .i64 1, .int .i64 id, .slice a n cap] 37) = W1) := hW1
 have HZ : Hid (w.heap.size = Z) := hZ
 clear hA hW1 hZ hl
 have c2 : W1.cell? ⟨B, 2, none⟩ = some (.int .i64 s.ns) := h1.lk.cell 2
 have c3 : W1.cell? ⟨B, 3, none⟩ = some (.int .i64 s.nm) := h1.lk.cell 3
 have hlB := h1.lk.lt
 have hlZ : Z < W1.heap.size := World.block_lt_of_cell? W1 _ d1
 have hxl := h1.old
 have hself := h1.self
 have hJ := judge_any s.ns s.nm a n cap os W1.drew m1 m2 (by omega) hnil (ho.below (below_drew hk))
 rw [hj] at hJ
 go_enter Tryz.func211, Tryz.ntmps211
 go_wp2_with (fail)
 rw [HW.out, HZ.out]
 go_region_with (go_at_call 228; refine hJ.mono ?_; rintro e w2 ⟨u, rfl, hM⟩)
 all_goals
  obtain ⟨a', n', cap', rfl, hP⟩ := pv_made (X := X) (v := v) 2 id hM (show os.length ≤ 1000 by omega) hxl (fun k hk3 => Nat.lt_of_lt_of_le (hvl k hk3) hk.size)
  have k12 : Below W1.heap.size W1 w2 := below_chain (below_drew (Below.refl _ _)) hM.below
  have R2 := h1.below k12
  have d1' : w2.cell? ⟨Z, 1, none⟩ = some (.int .i64 id) := (k12.cell (p := ⟨Z, 1, none⟩) hlZ).trans d1
  have d2' : w2.cell? ⟨Z, 2, none⟩ = some (.slice a n cap) := (k12.cell (p := ⟨Z, 2, none⟩) hlZ).trans d2
  have hlZ2 : Z < w2.heap.size := World.block_lt_of_cell? w2 _ d1'
  have k23 := below_alloc w2 (.cells #[.int .i64 2, .int .i64 id, .slice a' n' cap'] 37)
  have k03 := below_chain hk (below_chain k12 k23)
  have R3 := R2.below k23
  have P3 := hP.kept hself (Kept.of_below B v.ownBlock k23) (fun _ e => .inl e)
  have HC := come_ok B X s v ps ⟨2, id, a', n', cap', os⟩ 6 _ (hT.below k03) R3 hb P3 hn hf
  have d2'' := (k23.cell (p := ⟨Z, 2, none⟩) hlZ2).trans d2'
  have ho3 := ho.below k03
  have hlZ3 : Z < (w2.alloc (.cells #[.int .i64 2, .int .i64 id, .slice a' n' cap'] 37)).heap.size := World.block_lt_of_cell? _ _ d2''
  clear hM hP R2 k12 c2 c3 d1 d2 h1 hJ R3 P3
  go_wp2_with (fail)
  refine HC.mono ?_
  rintro e w4 ⟨rfl, hW⟩
  obtain ⟨⟨v', qs, hR4, ho4, hv4⟩, hK4⟩ := hW
  have c6 : w4.cell? ⟨B, 6, none⟩ = some (.int .i64 (comeS s 6).st) := hR4.lk.cell 6
  have z2 : w4.cell? ⟨Z, 2, none⟩ = some (.slice a n cap) := (World.cell?_of_block (a := ⟨Z, 2, none⟩) (hK4.block Z hlZ3 (fun e => hBZ e.symm) hnz)).trans d2''
  have ho5 : OptR w4 a n os := ho3.keptO (fun k hk4 => by obtain ⟨q1, q2, q3⟩ := hfar k hk4; exact hK4.block k (Nat.lt_of_lt_of_le q3 k03.size) (fun e => q1 (by rw [e]; exact hself)) q2)
  have hl4 := hR4.lk.lt
  have hlz4 : Z < w4.heap.size := World.block_lt_of_cell? w4 _ z2
  have hK04 : Kept w w4 B v.ownBlock := (Kept.of_below B v.ownBlock k03).trans hK4 (fun i e => .inl e)
  have hvv : ∀ g, v'.ownBlock = some g → v.ownBlock = some g ∨ w.heap.size ≤ g := fun g hg => by
   rcases hv4 g hg with e | e
   · exact .inl e
   · exact .inr (Nat.le_trans k03.size e)
  clear HC hv4 hK4 ho3 d2'' d2' d1' hlZ2 hlZ3 k23 k03
  obtain ⟨s', hs'⟩ : ∃ s', comeS s 6 = s' := ⟨_, rfl⟩
  rw [hs'] at hR4 c6
  have HS : Hid (comeS s 6 = s') := hs'
  clear hs'
  by_cases h6 : 6 ≤ s'.st
  · go_wp2_with (fail)
    refine (sizeOf_any a n cap os w4 (by omega) ho5).mono ?_
    rintro e w5 ⟨rfl, k5⟩
    have R5 := hR4.below k5
    have c7 : w5.cell? ⟨B, 7, none⟩ = some (.int .i64 s'.sz) := R5.lk.cell 7
    have fz : ∀ j, w5.frozen? ⟨B, j, none⟩ = false := R5.lk.frozen
    have hl5 := R5.lk.lt
    have HR6 : Hid (Rep (w5.setCell ⟨B, 7, none⟩ (.int .i64 (sizeOfL os))) B X { s' with sz := sizeOfL os } v' (ps ++ qs)) := R5.setC 7 _ _ rfl
    have HK6 : Hid (Kept w (w5.setCell ⟨B, 7, none⟩ (.int .i64 (sizeOfL os))) B v.ownBlock) := kept_set (hK04.trans (Kept.of_below B v.ownBlock k5) (fun i e => .inl e)) 7 _
    clear R5 hR4 hK04 k5 ho5 z2 c6
    go_wp2_with (fail)
    go_ret
    rw [HS.out]
    have e6 : s'.sized os = { s' with sz := sizeOfL os } := by simp [LS.sized, h6]
    rw [e6]
    exact ⟨rfl, ⟨v', qs, HR6.out, ho4, hvv⟩, HK6.out⟩
  · go_wp2_with (fail)
    go_ret
    rw [HS.out]
    have e6 : s'.sized os = s' := by unfold LS.sized; rw [if_neg (by omega)]
    rw [e6]
    exact ⟨rfl, ⟨v', qs, hR4, ho4, hvv⟩, hK04⟩
end Go.Proofs.YtieklnlbljejdaaGreatDoor

namespace Go.Proofs.YtieklnlbljejdaaGreatDoor
open Go.RowKit
set_option maxRecDepth 100000 in
theorem out_rep (B : Nat) (X : Nat → Prop) (s : LS) (v : Value) (ps : List PV) (w : World) (h : Rep w B X s v ps) :
 Calls Tryz.prog 174 #[.pointer (some ⟨B, 0, none⟩)] w fun e w' => e = .returned v ∧ Rep w' B X s (.slice none 0 0) [] ∧ Row w' 3 v ps.length (pvC ps) ∧ (∀ p ∈ ps, PvOk w' X v p) ∧ Kept w w' B none := by
 have hl := h.lk.lt
 have c11 : w.cell? ⟨B, 11, none⟩ = some v := h.lk.cell 11
 have fz : ∀ j, w.frozen? ⟨B, j, none⟩ = false := h.lk.frozen
 have hk : Kept w (w.setCell ⟨B, 11, none⟩ (.slice none 0 0)) B none := kept_set (Kept.refl w B _) 11 _
 have hk2 : Kept w (w.setCell ⟨B, 11, none⟩ (.slice none 0 0)) B v.ownBlock := kept_set (Kept.refl w B _) 11 _
 have HR : Hid (Rep (w.setCell ⟨B, 11, none⟩ (.slice none 0 0)) B X s (.slice none 0 0) []) := ⟨h.lk.set 11 _, Row.nil _ 3, fun g hg => by simp [Value.ownBlock] at hg, h.self, fun k hk4 => Nat.lt_of_lt_of_le (h.old k hk4) hk.size, fun p hp => by simp at hp⟩
 have HO : Hid (Row (w.setCell ⟨B, 11, none⟩ (.slice none 0 0)) 3 v ps.length (pvC ps)) := h.row.keep hk.size (fun k hk3 => Below.heap_setCell _ _ _ k (fun e => h.ne (by rw [hk3]; exact congrArg some e)))
 have HP : Hid (∀ p ∈ ps, PvOk (w.setCell ⟨B, 11, none⟩ (.slice none 0 0)) X v p) := fun p hp => (h.pk p hp).kept h.self hk2 (fun _ e => .inl e)
 clear h hk2
 go_enter Tryz.func174, Tryz.ntmps174
 go_wp2_with (fail)
 go_ret
 exact ⟨rfl, HR.out, HO.out, HP.out, hk⟩
end Go.Proofs.YtieklnlbljejdaaGreatDoor
