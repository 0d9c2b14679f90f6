/-
  Two ends who talk: talk.
-/
import Derived.Test.YtakckdeadchflabDoorLinkTalk
namespace Go.Proofs.YtakckdeadchflabDoor
open Go.RowKit

theorem Rep.other {w w' : World} {B E : Nat} {X : Nat → Prop} {s : LS} {v : Value} {ps : List PV} (h : Rep w B X s v ps) (k : Kept w w' E none) (hne : B ≠ E) (hE : X E) : Rep w' B X s v ps := by
  have hk : ∀ i, i < w.heap.size → ¬ X i → w'.heap[i]? = w.heap[i]? := fun i hi hx => k.block i hi (fun e => hx (by rw [e]; exact hE)) (by simp)
  refine ⟨h.lk.keep (k.block B h.lk.lt hne (by simp)), h.row.keep k.size (fun i hi => hk i (h.row.lt i hi) (h.own i hi)), h.own, h.self, fun i hi => Nat.lt_of_lt_of_le (h.old i hi) k.size, fun p hp => ?_⟩
  have q := h.pk p hp
  exact ⟨q.opt.kept (cap := p.cap) (fun j hj => by obtain ⟨a1, a2, a3⟩ := q.far j hj; exact hk j a3 a1), q.nil, q.le, q.few, fun j hj => by obtain ⟨a1, a2, a3⟩ := q.far j hj; exact ⟨a1, a2, Nat.lt_of_lt_of_le a3 k.size⟩⟩
structure Pair (w0 w : World) (N : Nat) (X : Nat → Prop) (Ba Bb : Nat) (sa : LS) (va : Value) (pa : List PV) (sb : LS) (vb : Value) (pb : List PV) : Prop where
  a : Rep w Ba X sa va pa
  b : Rep w Bb X sb vb pb
  ne : Ba ≠ Bb
  c1 : ∀ k, va.ownBlock = some k → vb.ownBlock ≠ some k
  c2 : ∀ p ∈ pa, ∀ k, p.val.ownBlock = some k → vb.ownBlock ≠ some k
  an : ∀ k, va.ownBlock = some k → N ≤ k
  bn : ∀ k, vb.ownBlock = some k → N ≤ k
  pos : 0 < N
  ba : N ≤ Ba
  bb : N ≤ Bb
  tab : TabOk w
  below : Below N w0 w
  size : N ≤ w0.heap.size
def talkF : Nat → LS → List APkt → LS → List APkt → LS × List APkt × LS × List APkt
  | 0, sa, oa, sb, ob => (sa, oa, sb, ob)
  | n + 1, sa, oa, sb, ob => talkF n (dlvS (ob ++ dlvO oa sb) sa) (dlvO (ob ++ dlvO oa sb) sa) (dlvS oa sb) []
def talkOk : Nat → LS → List APkt → LS → List APkt → Prop
  | 0, _, _, _, _ => True
  | n + 1, sa, oa, sb, ob => dlvOk oa sb ∧ dlvOk (ob ++ dlvO oa sb) sa ∧ oa.length ≤ 10 ∧ (ob ++ dlvO oa sb).length ≤ 10 ∧ (dlvO (ob ++ dlvO oa sb) sa).length ≤ 10 ∧ talkOk n (dlvS (ob ++ dlvO oa sb) sa) (dlvO (ob ++ dlvO oa sb) sa) (dlvS oa sb) []

/-- Behind a's Out. -/
theorem pair_out {w0 w w' : World} {N : Nat} {X : Nat → Prop} {Ba Bb : Nat} {sa : LS} {va : Value} {pa : List PV} {sb : LS} {vb : Value} {pb : List PV} (h : Pair w0 w N X Ba Bb sa va pa sb vb pb)
    (hR : Rep w' Ba X sa nilV []) (hrow : Row w' 3 va pa.length (pvC pa)) (hpk : ∀ p ∈ pa, PvOk w' X va p) (hK : Kept w w' Ba none) :
    Fly w' N X Ba Bb sa va pa sb vb pb ∧ Below N w0 w' := by
  have hNw : N ≤ w.heap.size := Nat.le_trans h.size h.below.size
  refine ⟨⟨hR, h.b.other hK h.ne.symm h.a.self, h.ne, hrow, fun k hk => ⟨h.a.own k hk, h.c1 k hk⟩, fun p hp => ?_, h.bn, h.pos, h.bb, ?_⟩, h.below.trans (hK.belowN h.ba (fun i e => by simp at e) hNw)⟩
  · have q := hpk p hp
    exact ⟨q.opt, q.nil, q.le, q.few, fun k hk => by obtain ⟨a1, a2, a3⟩ := q.far k hk; exact ⟨a1, h.c2 p hp k hk, a3⟩⟩
  · exact hK.tab h.tab (by have := h.ba; have := h.pos; omega) (by simp)
/-- Behind b's Out. -/
theorem fly_out {w0 w w' : World} {N : Nat} {X : Nat → Prop} {Ba Bb : Nat} {sa : LS} {x : Value} {xs : List PV} {sb : LS} {vb : Value} {pb : List PV} (h : Fly w N X Ba Bb sa x xs sb vb pb) (hba : N ≤ Ba) (hNw : N ≤ w.heap.size) (hbel : Below N w0 w)
    (hR : Rep w' Bb X sb nilV []) (hrow : Row w' 3 vb pb.length (pvC pb)) (hpk : ∀ p ∈ pb, PvOk w' X vb p) (hK : Kept w w' Bb none) :
    Fly w' N X Bb Ba sb vb pb sa nilV [] ∧ Below N w0 w' := by
  refine ⟨⟨hR, h.giver.other hK h.ne h.taker.self, h.ne.symm, hrow, fun k hk => ⟨h.taker.own k hk, by simp [Value.ownBlock]⟩, fun p hp => ?_, fun k hk => by simp [Value.ownBlock] at hk, h.pos, hba, ?_⟩, hbel.trans (hK.belowN h.bt (fun i e => by simp at e) hNw)⟩
  · have q := hpk p hp
    exact ⟨q.opt, q.nil, q.le, q.few, fun k hk => by obtain ⟨a1, a2, a3⟩ := q.far k hk; exact ⟨a1, by simp [Value.ownBlock], a3⟩⟩
  · exact hK.tab h.tab (by have := h.bt; have := h.pos; omega) (by simp)
/-- The cells of the packet that comes next. -/
theorem way_cells {w0 w : World} {N : Nat} {X : Nat → Prop} {Bg Bt : Nat} {sg : LS} {x : Value} {xs : List PV} {j : Nat} {sF : LS} {oF : List APkt} {st : LS} {vt : Value} {pt : List PV} (h : Way w0 w N X Bg Bt sg x xs j sF oF st vt pt) (hj : j < xs.length) :
    ∃ g cap, x = .slice (some ⟨g, 0, none⟩) xs.length cap ∧ g < w.heap.size ∧ w.cell? ⟨g, j * 3, none⟩ = some (.int .i64 xs[j].code) ∧ w.cell? ⟨g, j * 3 + 1, none⟩ = some (.int .i64 xs[j].id) ∧ w.cell? ⟨g, j * 3 + 2, none⟩ = some (.slice xs[j].a xs[j].n xs[j].cap) := by
  obtain ⟨g1, g2, g3⟩ := pvC_get xs j hj
  rcases h.fly.row.2 with ⟨_, hn⟩ | ⟨g, cap, hx, hg, _, _, hc, _⟩
  · omega
  · exact ⟨g, cap, hx, hg, hc _ _ g1, hc _ _ g2, hc _ _ g3⟩
theorem row_shape {w : World} {v : Value} {n : Nat} {xs : List Value} (h : Row w 3 v n xs) : ∃ a cap, v = .slice a n cap := by
  rcases h.2 with ⟨rfl, rfl⟩ | ⟨g, cap, rfl, _⟩
  · exact ⟨_, _, rfl⟩
  · exact ⟨_, _, rfl⟩

set_option maxRecDepth 100000 in
set_option maxHeartbeats 8000000 in
theorem talk_any (T : Nat) (hTT : T ≤ 1000) (N : Nat) (X : Nat → Prop) (Ba Bb : Nat) (sa : LS) (va : Value) (pa : List PV) (sb : LS) (vb : Value) (pb : List PV) (w0 w : World) (h : Pair w0 w N X Ba Bb sa va pa sb vb pb) (hok : talkOk T sa (pa.map PV.abs) sb (pb.map PV.abs)) (R : LS × List APkt × LS × List APkt) (hR : talkF T sa (pa.map PV.abs) sb (pb.map PV.abs) = R) :
    Calls Tryd.prog 7 #[.pointer (some ⟨Ba, 0, none⟩), .pointer (some ⟨Bb, 0, none⟩), .int .i64 T] w fun e w' => e = .returned (.tuple #[]) ∧ ∃ sa' va' pa' sb' vb' pb', Pair w0 w' N X Ba Bb sa' va' pa' sb' vb' pb' ∧ (sa', pa'.map PV.abs, sb', pb'.map PV.abs) = R ∧ (0 < T → vb' = nilV) := by
  have HP : Hid (Pair w0 w N X Ba Bb sa va pa sb vb pb) := h
  have HO : Hid (talkOk T sa (pa.map PV.abs) sb (pb.map PV.abs)) := hok
  have HR : Hid (talkF T sa (pa.map PV.abs) sb (pb.map PV.abs) = R) := hR
  clear h hok hR
  go_enter Tryd.func7, Tryd.ntmps7
  go_wp2_with (fail)
  go_loopw [6] (fun i wr => ∃ (k : Nat) (sa : LS) (va : Value) (pa : List PV) (sb : LS) (vb : Value) (pb : List PV), k ≤ T ∧ i = .int .i64 k ∧ (0 < k → vb = nilV) ∧ Pair w0 wr N X Ba Bb sa va pa sb vb pb ∧ talkOk (T - k) sa (pa.map PV.abs) sb (pb.map PV.abs) ∧ talkF (T - k) sa (pa.map PV.abs) sb (pb.map PV.abs) = R) (fun i _ => T - (intOf i).toNat)
  case atStart => exact ⟨0, sa, va, pa, sb, vb, pb, Nat.zero_le _, rfl, fun h => absurd h (by omega), HP.out, HO.out, HR.out⟩
  case round =>
    clear HP HO HR
    obtain ⟨k, sa, va, pa, sb, vb, pb, hk, rfl, hnv0, hP0, hok0, hR0⟩ := hrel
    have HNV : Hid _ := hnv0
    clear hnv0
    obtain ⟨V0, rfl⟩ : ∃ V0, V0 = wr := ⟨_, rfl⟩
    by_cases hlt : k < T
    · have hlt' : (k : Int) < (T : Int) := by omega
      obtain ⟨t, ht⟩ : ∃ t, T - k = t + 1 := ⟨T - k - 1, by omega⟩
      rw [ht] at hok0 hR0
      obtain ⟨o1, o2, o3, o4, o5, o6⟩ := hok0
      have H1 : Hid _ := o1
      have H2 : Hid _ := o2
      have H5 : Hid _ := o6
      have H6 : Hid (talkF t (dlvS (pb.map PV.abs ++ dlvO (pa.map PV.abs) sb) sa) (dlvO (pb.map PV.abs ++ dlvO (pa.map PV.abs) sb) sa) (dlvS (pa.map PV.abs) sb) [] = R) := hR0
      have HT : Hid (T - (k + 1) = t) := by show _ = _; omega
      have HPr : Hid (Pair w0 V0 N X Ba Bb sa va pa sb vb pb) := hP0
      have HC := out_rep Ba X sa va pa V0 hP0.a
      have hla : pa.length ≤ 10 := by simpa using o3
      clear o1 o2 o3 o6 hP0 hR0 ht
      go_wp2_with (fail)
      refine HC.mono ?_
      rintro e V1 ⟨rfl, r1, r2, r3, r4⟩
      obtain ⟨hF1, hB1⟩ := pair_out HPr.out r1 r2 r3 r4
      obtain ⟨xa, xc, hxa⟩ := row_shape r2
      have W1 : Hid (Way w0 V1 N X Ba Bb sa va pa 0 (dlvS (pa.map PV.abs) sb) (pb.map PV.abs ++ dlvO (pa.map PV.abs) sb) sb vb pb) := ⟨hF1, rfl, rfl, H1.out, by simpa using o4, hB1, HPr.out.size⟩
      clear HC r1 r2 r3 r4 hF1 hB1 H1
      subst hxa
      go_wp2_with (fail)
      go_loopw [8] (fun i wr => ∃ (j : Nat) (st : LS) (vt : Value) (pt : List PV), j ≤ pa.length ∧ i = .int .i64 j ∧ Way w0 wr N X Ba Bb sa (.slice xa pa.length xc) pa j (dlvS (pa.map PV.abs) sb) (pb.map PV.abs ++ dlvO (pa.map PV.abs) sb) st vt pt) (fun i _ => pa.length - (intOf i).toNat)
      case atStart => exact ⟨0, _, _, _, Nat.zero_le _, rfl, W1.out⟩
      case round =>
        clear W1
        obtain ⟨j, st, vt, pt, hj, rfl, hW⟩ := hrel
        obtain ⟨V2, rfl⟩ : ∃ V2, V2 = wr := ⟨_, rfl⟩
        by_cases hjl : j < pa.length
        · have hjl' : (j : Int) < (pa.length : Int) := by omega
          have hj0 : (0 : Int) ≤ (j : Int) := by omega
          obtain ⟨g, cap, hx, hg, e1, e2, e3⟩ := way_cells hW hjl
          simp only [Value.slice.injEq] at hx
          obtain ⟨rfl, -, rfl⟩ := hx
          have HC := way_step hW hjl
          generalize pa[j] = pp at e1 e2 e3 HC
          clear hW
          go_wp2_with (fail)
          refine HC.mono ?_
          rintro e V3 ⟨rfl, st', vt', pt', hW'⟩
          have HW' : Hid _ := hW'
          clear HC hW'
          go_wp2_with (fail)
          go_roundw
          case rel => exact ⟨j + 1, st', vt', pt', by omega, by go_num, HW'.out⟩
          case measure => simp [intOf]; omega
        · have hdd : (pa.map PV.abs).drop j = [] := List.drop_eq_nil_of_le (by simp; omega)
          have hs1 : st = dlvS (pa.map PV.abs) sb := by have := hW.fin; rw [hdd] at this; exact this
          have ho1 : pt.map PV.abs = pb.map PV.abs ++ dlvO (pa.map PV.abs) sb := by have := hW.out; rw [hdd] at this; simpa [dlvO] using this
          have HC := out_rep Bb X st vt pt V2 hW.fly.taker
          have hlp : pt.length ≤ 10 := by have h1 := congrArg List.length ho1; simp only [List.length_map] at h1; omega
          have HW : Hid _ := hW
          have HS : Hid _ := hs1
          have HOO : Hid _ := ho1
          clear hW hs1 ho1 hdd
          go_wp2_with (fail)
          refine HC.mono ?_
          rintro e V3 ⟨rfl, r1, r2, r3, r4⟩
          obtain ⟨hF2, hB2⟩ := fly_out HW.out.fly HPr.out.ba (Nat.le_trans HW.out.size HW.out.below.size) HW.out.below r1 r2 r3 r4
          obtain ⟨ya, yc, hya⟩ := row_shape r2
          have W2 : Hid (Way w0 V3 N X Bb Ba st vt pt 0 (dlvS (pt.map PV.abs) sa) (dlvO (pt.map PV.abs) sa) sa nilV []) := ⟨hF2, rfl, rfl, by rw [HOO.out]; exact H2.out, by rw [HOO.out]; exact o5, hB2, HPr.out.size⟩
          clear HC r1 r2 r3 r4 hF2 hB2
          subst hya
          go_wp2_with (fail)
          go_loopw [10] (fun i wr => ∃ (j : Nat) (st2 : LS) (vt2 : Value) (pt2 : List PV), j ≤ pt.length ∧ i = .int .i64 j ∧ Way w0 wr N X Bb Ba st (.slice ya pt.length yc) pt j (dlvS (pt.map PV.abs) sa) (dlvO (pt.map PV.abs) sa) st2 vt2 pt2) (fun i _ => pt.length - (intOf i).toNat)
          case atStart => exact ⟨0, _, _, _, Nat.zero_le _, rfl, W2.out⟩
          case round =>
            clear W2
            obtain ⟨q, st2, vt2, pt2, hq, rfl, hW2⟩ := hrel
            obtain ⟨V4, rfl⟩ : ∃ V4, V4 = wr := ⟨_, rfl⟩
            by_cases hql : q < pt.length
            · have hql' : (q : Int) < (pt.length : Int) := by omega
              have hq0 : (0 : Int) ≤ (q : Int) := by omega
              obtain ⟨g, cap, hx, hg, e1, e2, e3⟩ := way_cells hW2 hql
              simp only [Value.slice.injEq] at hx
              obtain ⟨rfl, -, rfl⟩ := hx
              have HC := way_step hW2 hql
              generalize pt[q] = pp at e1 e2 e3 HC
              clear hW2
              go_wp2_with (fail)
              refine HC.mono ?_
              rintro e V5 ⟨rfl, st', vt', pt', hW'⟩
              have HW' : Hid _ := hW'
              clear HC hW'
              go_wp2_with (fail)
              go_roundw
              case rel => exact ⟨q + 1, st', vt', pt', by omega, by go_num, HW'.out⟩
              case measure => simp [intOf]; omega
            · have HE : Hid (∃ sa2 va2 pa2 sb2 vb2 pb2, vb2 = nilV ∧ Pair w0 V4 N X Ba Bb sa2 va2 pa2 sb2 vb2 pb2 ∧ talkOk (T - (k + 1)) sa2 (pa2.map PV.abs) sb2 (pb2.map PV.abs) ∧ talkF (T - (k + 1)) sa2 (pa2.map PV.abs) sb2 (pb2.map PV.abs) = R) := by
                have hdd : (pt.map PV.abs).drop q = [] := List.drop_eq_nil_of_le (by simp; omega)
                have hs2 : st2 = dlvS (pt.map PV.abs) sa := by have := hW2.fin; rw [hdd] at this; exact this
                have ho2 : pt2.map PV.abs = dlvO (pt.map PV.abs) sa := by have := hW2.out; rw [hdd] at this; simpa [dlvO] using this
                have f := hW2.fly
                refine ⟨st2, vt2, pt2, st, nilV, [], rfl, ⟨f.taker, f.giver, f.ne.symm, fun k hk => by simp [Value.ownBlock], fun p hp k hk => by simp [Value.ownBlock], f.tn, fun k hk => by simp [Value.ownBlock] at hk, f.pos, f.bt, HPr.out.bb, f.tab, hW2.below, hW2.size⟩, ?_, ?_⟩
                · rw [HT.out, hs2, ho2, HOO.out, HS.out]; exact H5.out
                · rw [HT.out, hs2, ho2, HOO.out, HS.out]; exact H6.out
              clear hW2
              go_wp2_with (fail)
              go_roundw
              case rel =>
                obtain ⟨sa2, va2, pa2, sb2, vb2, pb2, x0, x1, x2, x3⟩ := HE.out
                exact ⟨k + 1, sa2, va2, pa2, sb2, vb2, pb2, by omega, by go_num, fun _ => x0, x1, x2, x3⟩
              case measure => simp [intOf]; omega
    · have hT0 : T - k = 0 := by omega
      rw [hT0] at hR0
      have HE : Hid ((sa, pa.map PV.abs, sb, pb.map PV.abs) = R) := hR0
      have HPr : Hid (Pair w0 V0 N X Ba Bb sa va pa sb vb pb) := hP0
      clear hP0 hok0 hR0 hT0
      go_wp2_with (fail)
      first | go_end0 | refine bodyPost_ret (results_none rfl _ _ _) rfl ?_
      exact ⟨rfl, sa, va, pa, sb, vb, pb, HPr.out, HE.out, fun h => HNV.out (by omega)⟩
end Go.Proofs.YtakckdeadchflabDoor
