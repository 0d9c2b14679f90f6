/-
  NtRound NtCabs
-/
import Derived.Test.YtieklnlbljejdaaGreatDoorG36
import Derived.Test.YtieklnlbljejdaaGreatDoorG43
namespace Go.Proofs.YtieklnlbljejdaaGreatDoor
open Go.RowKit St
namespace Rt
theorem tick_same (y : NtM) (i : Int) : (y.tick i).1.n = y.n ∧ (y.tick i).1.nc = y.nc ∧ (y.tick i).1.ms = y.ms ∧ ∀ x, ((y.tick i).1.C x).e = (y.C x).e ∧ ((y.tick i).1.C x).inn = (y.C x).inn := by
 unfold NtM.tick
 split
 · exact ⟨rfl, rfl, rfl, fun _ => ⟨rfl, rfl⟩⟩
 · exact gather_same _
theorem recvAt_same (y : NtM) (c d q : Nat) : (y.recvAt c d q).n = y.n ∧ (y.recvAt c d q).nc = y.nc ∧ (y.recvAt c d q).ms = y.ms ∧ ∀ x, ((y.recvAt c d q).C x).e = (y.C x).e ∧ ((y.recvAt c d q).C x).inn = (y.C x).inn := by
 refine ⟨rfl, rfl, rfl, fun x => ?_⟩
 show (if x = c then ({ y.C c with on := upN (y.C c).on d (((y.C c).on d).drop q) } : CbM) else y.C x).e = _ ∧ (if x = c then ({ y.C c with on := upN (y.C c).on d (((y.C c).on d).drop q) } : CbM) else y.C x).inn = _
 by_cases e : x = c
 · rw [if_pos e]; subst e; exact ⟨rfl, rfl⟩
 · rw [if_neg e]; exact ⟨rfl, rfl⟩
theorem deliver_same (y : NtM) (i d many : Int) : (y.deliver i d many).1.n = y.n ∧ (y.deliver i d many).1.nc = y.nc ∧ (y.deliver i d many).1.ms = y.ms ∧ ∀ x, ((y.deliver i d many).1.C x).e = (y.C x).e ∧ ((y.deliver i d many).1.C x).inn = (y.C x).inn := by
 unfold NtM.deliver
 split
 · exact ⟨rfl, rfl, rfl, fun _ => ⟨rfl, rfl⟩⟩
 · obtain ⟨g1, g2, g3, g4⟩ := gather_same (y.recvAt i.toNat d.toNat (min many.toNat ((y.C i.toNat).on d.toNat).length))
   obtain ⟨r1, r2, r3, r4⟩ := recvAt_same y i.toNat d.toNat (min many.toNat ((y.C i.toNat).on d.toNat).length)
   exact ⟨g1.trans r1, g2.trans r2, g3.trans r3, fun x => ⟨(g4 x).1.trans (r4 x).1, (g4 x).2.trans (r4 x).2⟩⟩
theorem ticks_same (y : NtM) : ∀ q, (y.ticks q).n = y.n ∧ (y.ticks q).nc = y.nc ∧ (y.ticks q).ms = y.ms ∧ ∀ x, ((y.ticks q).C x).e = (y.C x).e ∧ ((y.ticks q).C x).inn = (y.C x).inn
 | 0 => ⟨rfl, rfl, rfl, fun _ => ⟨rfl, rfl⟩⟩
 | q + 1 => by
   obtain ⟨g1, g2, g3, g4⟩ := tick_same (y.ticks q) ((q : Int) + 1)
   obtain ⟨r1, r2, r3, r4⟩ := ticks_same y q
   exact ⟨g1.trans r1, g2.trans r2, g3.trans r3, fun x => ⟨(g4 x).1.trans (r4 x).1, (g4 x).2.trans (r4 x).2⟩⟩
def NtM.delivD (y : NtM) (c d : Nat) : NtM := if d = 0 then y.delivs c else if d = 1 then ((y.delivs c).deliver (c : Int) 0 2000).1 else y.delivs (c + 1)
theorem delivD_next (y : NtM) (c d : Nat) (hd : d < 2) : y.delivD c (d + 1) = ((y.delivD c d).deliver (c : Int) (d : Int) 2000).1 := by
 have : d = 0 ∨ d = 1 := by omega
 rcases this with rfl | rfl <;> rfl
theorem delivs_same (y : NtM) : ∀ q, (y.delivs q).n = y.n ∧ (y.delivs q).nc = y.nc ∧ (y.delivs q).ms = y.ms ∧ ∀ x, ((y.delivs q).C x).e = (y.C x).e ∧ ((y.delivs q).C x).inn = (y.C x).inn
 | 0 => ⟨rfl, rfl, rfl, fun _ => ⟨rfl, rfl⟩⟩
 | q + 1 => by
   obtain ⟨h1, h2, h3, h4⟩ := deliver_same ((y.delivs q).deliver (q : Int) 0 2000).1 (q : Int) 1 2000
   obtain ⟨g1, g2, g3, g4⟩ := deliver_same (y.delivs q) (q : Int) 0 2000
   obtain ⟨r1, r2, r3, r4⟩ := delivs_same y q
   exact ⟨h1.trans (g1.trans r1), h2.trans (g2.trans r2), h3.trans (g3.trans r3), fun x => ⟨(h4 x).1.trans ((g4 x).1.trans (r4 x).1), (h4 x).2.trans ((g4 x).2.trans (r4 x).2)⟩⟩
theorem delivD_same (y : NtM) (q d : Nat) : (y.delivD q d).n = y.n ∧ (y.delivD q d).nc = y.nc := by
 unfold NtM.delivD
 split
 · exact ⟨(delivs_same y q).1, (delivs_same y q).2.1⟩
 · split
   · exact ⟨(deliver_same _ _ _ _).1.trans (delivs_same y q).1, (deliver_same _ _ _ _).2.1.trans (delivs_same y q).2.1⟩
   · exact ⟨(delivs_same y (q + 1)).1, (delivs_same y (q + 1)).2.1⟩
theorem turns_same (y : NtM) : ∀ t, (y.turns t).n = y.n ∧ (y.turns t).nc = y.nc ∧ (y.turns t).ms = y.ms ∧ ∀ x, ((y.turns t).C x).e = (y.C x).e ∧ ((y.turns t).C x).inn = (y.C x).inn
 | 0 => ⟨rfl, rfl, rfl, fun _ => ⟨rfl, rfl⟩⟩
 | t + 1 => by
   obtain ⟨g1, g2, g3, g4⟩ := delivs_same (y.turns t) y.nc
   obtain ⟨r1, r2, r3, r4⟩ := turns_same y t
   exact ⟨g1.trans r1, g2.trans r2, g3.trans r3, fun x => ⟨(g4 x).1.trans (r4 x).1, (g4 x).2.trans (r4 x).2⟩⟩
theorem round_same (y : NtM) : y.round.n = y.n ∧ y.round.nc = y.nc ∧ y.round.ms = y.ms ∧ ∀ x, (y.round.C x).e = (y.C x).e ∧ (y.round.C x).inn = (y.C x).inn := by
 obtain ⟨g1, g2, g3, g4⟩ := turns_same (y.ticks y.n) 12
 obtain ⟨r1, r2, r3, r4⟩ := ticks_same y y.n
 exact ⟨g1.trans r1, g2.trans r2, g3.trans r3, fun x => ⟨(g4 x).1.trans (r4 x).1, (g4 x).2.trans (r4 x).2⟩⟩
theorem NOk.ticks {y : NtM} {D : Nat} (h : NOk y D 0) (hD : D ≤ 800000000) : ∀ q, q ≤ 6 → NOk (y.ticks q) (D + 6 * q) 0
 | 0, _ => h
 | q + 1, hq => ((NOk.ticks h hD q (by omega)).tick (by omega) ((q : Int) + 1)).mono (by omega) (Nat.le_refl _)
theorem NOk.delivs {y : NtM} {D : Nat} (h : NOk y D 0) (hD : D ≤ 890000000) : ∀ q, q ≤ 9 → NOk (y.delivs q) (D + 12000 * q) 0
 | 0, _ => h
 | q + 1, hq => (((NOk.delivs h hD q (by omega)).deliver (by omega) (q : Int) 0 2000).deliver (by omega) (q : Int) 1 2000).mono (by omega) (Nat.le_refl _)
theorem NOk.delivD {y : NtM} {D : Nat} (h : NOk y D 0) (hD : D ≤ 890000000) (q d : Nat) (hq : q < 9) (hd : d ≤ 2) : NOk (y.delivD q d) (D + 12000 * q + 6000 * d) 0 := by
 unfold NtM.delivD
 split
 · exact (h.delivs hD q (by omega)).mono (by omega) (Nat.le_refl _)
 · split
   · exact ((h.delivs hD q (by omega)).deliver (by omega) _ _ _).mono (by omega) (Nat.le_refl _)
   · exact (h.delivs hD (q + 1) (by omega)).mono (by omega) (Nat.le_refl _)
theorem NOk.turns {y : NtM} {D : Nat} (h : NOk y D 0) (hD : D ≤ 810000000) : ∀ t, t ≤ 12 → NOk (y.turns t) (D + 108000 * t) 0
 | 0, _ => h
 | t + 1, ht => by
   have h1 := NOk.turns h hD t (by omega)
   have h9 := h.c9
   exact (h1.delivs (by omega) y.nc h9).mono (by omega) (Nat.le_refl _)
theorem NOk.round {y : NtM} {D : Nat} (h : NOk y D 0) (hD : D ≤ 800000000) : NOk y.round (D + 1300000) 0 := by
 have n6 := h.n6
 have h1 := h.ticks hD y.n n6
 exact (h1.turns (by omega) 12 (Nat.le_refl _)).mono (by omega) (Nat.le_refl _)
set_option maxRecDepth 100000 in
set_option maxHeartbeats 4000000 in
theorem round_net (y : Yt) (n : NtM) (D : Nat) (w : World) (h : NetR w y n) (hT : TabOk w) (hok : NOk n D 0) (hD : D ≤ 800000000) :
 Calls Tryz.prog 54 #[.pointer (some ⟨y.N, 0, none⟩)] w fun e w' => e = .returned (.tuple #[]) ∧ WentN w w' y n.round n.n := by
 have c0 := h.k0
 have cl := h.Nlt
 have n6 := h.n6
 have c9 := h.c9
 obtain ⟨a, cp, hcv, hgc⟩ := h.cvs
 obtain ⟨m, hm⟩ : ∃ m, n.n = m := ⟨_, rfl⟩
 obtain ⟨nc, hnc⟩ : ∃ nc, n.nc = nc := ⟨_, rfl⟩
 have H0 : Hid (WentN w w y (n.ticks 0) m) := by
  show WentN _ _ _ _ _
  rw [← hm]
  exact WentN.refl h
 have HTick : Hid (∀ q W, q < m → WentN w W y (n.ticks q) m → Calls Tryz.prog 56 #[.pointer (some ⟨y.N, 0, none⟩), .int .i64 ((q : Int) + 1)] W fun e w' => (∃ v, e = .returned v) ∧ WentN w w' y (n.ticks (q + 1)) m) := by
  intro q W hq hW
  have hTW := hW.tab h hm hT
  refine (hW.call (E := fun e => ∃ v, e = .returned v) fun y1 R1 s1 => ?_)
  rw [← s1.N]
  refine (tick_net y1 (n.ticks q) (D + 6 * q) ((q : Int) + 1) W R1 hTW (hok.ticks hD q (by omega)) (by omega)).mono ?_
  rintro e w' ⟨rfl, hw⟩
  rw [(ticks_same n q).1, hm] at hw
  exact ⟨⟨_, rfl⟩, hw⟩
 have hokT := hok.ticks hD m (by omega)
 have HK3 : Hid (∀ M W, M.nc = nc → WentN w W y M m → W.cell? ⟨y.N, 3, none⟩ = some (.slice a nc cp) ∧ y.N < W.heap.size) := by
  intro M W hM hW
  have h1 := hW.k3
  rw [hM, ← hnc, hcv] at h1
  rw [← hnc]
  exact ⟨h1, hW.lt⟩
 have HEnd : Hid (n.round = (n.ticks m).turns 12) := by
  show _ = _
  unfold NtM.round
  rw [hm]
 obtain ⟨T, hTe⟩ : ∃ T, n.ticks m = T := ⟨_, rfl⟩
 have hTn : T.n = m := by rw [← hTe, (ticks_same n m).1, hm]
 have hTc : T.nc = nc := by rw [← hTe, (ticks_same n m).2.1, hnc]
 have HTT : Hid (∀ W, WentN w W y (n.ticks m) m → WentN w W y (T.turns 0) m) := by
  intro W hW
  rw [hTe] at hW
  exact hW
 rw [hTe] at hokT HEnd
 have HDel : Hid (∀ t c d W, t < 12 → c < nc → d < 2 → WentN w W y ((T.turns t).delivD c d) m → Calls Tryz.prog 101 #[.pointer (some ⟨y.N, 0, none⟩), .int .i64 (c : Int), .int .i64 (d : Int), .int .i64 2000] W fun e w' => (∃ v, e = .returned v) ∧ WentN w w' y ((T.turns t).delivD c (d + 1)) m) := by
  intro t c d W ht hc hd hW
  have hTW := hW.tab h hm hT
  refine (hW.call (E := fun e => ∃ v, e = .returned v) fun y1 R1 s1 => ?_)
  rw [← s1.N]
  have h1 := hokT.turns (by omega) t (by omega)
  have h2 := h1.delivD (by omega) c d (by omega) (by omega)
  refine (deliver_net y1 _ _ (c : Int) (d : Int) 2000 W R1 hTW h2 (by omega)).mono ?_
  rintro e w' ⟨rfl, hw⟩
  rw [← delivD_next _ _ _ hd, (delivD_same _ _ _).1, (turns_same T t).1, hTn] at hw
  exact ⟨⟨_, rfl⟩, hw⟩
 have HNC : Hid (∀ t, (T.turns t).nc = nc) := fun t => by rw [(turns_same T t).2.1, hTc]
 have HNext : Hid (∀ t W, WentN w W y ((T.turns t).delivs nc) m → WentN w W y (T.turns (t + 1)) m) := by
  intro t W hW
  show WentN w W y ((T.turns t).delivs T.nc) m
  rw [hTc]
  exact hW
 rw [hm] at c0 n6 ⊢
 rw [hnc] at c9
 clear h hT hok hokT hcv hgc hm hnc hTe hTn hTc
 go_enter Tryz.func54, Tryz.ntmps54
 go_wp2_with (fail)
 go_loopw [10] (fun x wr => ∃ q : Nat, q ≤ m ∧ x = .int .i64 q ∧ WentN w wr y (n.ticks q) m) (fun x _ => m - (intOf x).toNat)
 case atStart => exact ⟨0, Nat.zero_le _, rfl, H0.out⟩
 case round =>
  obtain ⟨q, hq, rfl, hwq⟩ := hrel
  obtain ⟨V, rfl⟩ : ∃ V, V = wr := ⟨_, rfl⟩
  by_cases hlt : q < m
  · have hlt' : (q : Int) < (m : Int) := by omega
    have hwr : IntKind.i64.wrap ((q : Int) + 1) = (q : Int) + 1 := IntWalk.i64_in _ ⟨by omega, by omega⟩
    have ht := HTick.out q V hlt hwq
    clear hwq
    go_wp2_with (fail)
    refine ht.mono ?_
    rintro e w1 ⟨⟨v, rfl⟩, hw1⟩
    have HW : Hid _ := hw1
    clear ht hw1
    go_wp2_with (fail)
    go_roundw
    case rel => exact ⟨q + 1, by omega, by go_num, HW.out⟩
    case measure => simp [intOf]; omega
  · have hge : ¬ (q : Int) < (m : Int) := by omega
    obtain rfl : q = m := by omega
    have HT0 : Hid (WentN w V y (T.turns 0) q) := HTT.out V hwq
    clear hwq HTT H0 HTick
    go_wp2_with (fail)
    go_loopw [18] (fun x wr => ∃ t : Nat, t ≤ 12 ∧ x = .int .i64 t ∧ WentN w wr y (T.turns t) q) (fun x _ => 12 - (intOf x).toNat)
    case atStart => exact ⟨0, Nat.zero_le _, rfl, HT0.out⟩
    case round =>
     obtain ⟨t, ht, rfl, hwt⟩ := hrel
     obtain ⟨V2, rfl⟩ : ∃ V2, V2 = wr := ⟨_, rfl⟩
     by_cases hlt2 : t < 12
     · have hlt2' : (t : Int) < 12 := by omega
       obtain ⟨d3, dl⟩ := HK3.out _ V2 (HNC.out t) hwt
       have HD0 : Hid (WentN w V2 y ((T.turns t).delivD 0 0) q) := hwt
       clear hwt
       go_wp2_with (fail)
       go_loopw [25] (fun x wr => ∃ c : Nat, c ≤ nc ∧ x = .int .i64 c ∧ WentN w wr y ((T.turns t).delivD c 0) q) (fun x _ => nc - (intOf x).toNat)
       case atStart => exact ⟨0, Nat.zero_le _, rfl, HD0.out⟩
       case round =>
        obtain ⟨c, hc, rfl, hwc⟩ := hrel
        obtain ⟨V3, rfl⟩ : ∃ V3, V3 = wr := ⟨_, rfl⟩
        by_cases hlt3 : c < nc
        · have hlt3' : (c : Int) < (nc : Int) := by omega
          have HDc : Hid (WentN w V3 y ((T.turns t).delivD c 0) q) := hwc
          clear hwc
          go_wp2_with (fail)
          go_loopw [28] (fun x wr => ∃ d : Nat, d ≤ 2 ∧ x = .int .i64 d ∧ WentN w wr y ((T.turns t).delivD c d) q) (fun x _ => 2 - (intOf x).toNat)
          case atStart => exact ⟨0, Nat.zero_le _, rfl, HDc.out⟩
          case round =>
           obtain ⟨d, hd, rfl, hwd⟩ := hrel
           obtain ⟨V4, rfl⟩ : ∃ V4, V4 = wr := ⟨_, rfl⟩
           by_cases hlt4 : d < 2
           · have hlt4' : (d : Int) < 2 := by omega
             have hdel := HDel.out t c d V4 hlt2 hlt3 hlt4 hwd
             clear hwd
             go_wp2_with (fail)
             refine hdel.mono ?_
             rintro e w1 ⟨⟨v, rfl⟩, hw1⟩
             have HW : Hid _ := hw1
             clear hdel hw1
             go_wp2_with (fail)
             go_roundw
             case rel => exact ⟨d + 1, by omega, by go_num, HW.out⟩
             case measure => simp [intOf]; omega
           · have hge4 : ¬ (d : Int) < 2 := by omega
             obtain rfl : d = 2 := by omega
             have HW : Hid (WentN w V4 y ((T.turns t).delivD (c + 1) 0) q) := hwd
             clear hwd
             go_wp2_with (fail)
             go_roundw
             case rel => exact ⟨c + 1, by omega, by go_num, HW.out⟩
             case measure => simp [intOf]; omega
        · have hge3 : ¬ (c : Int) < (nc : Int) := by omega
          obtain rfl : c = nc := by omega
          have HW : Hid (WentN w V3 y (T.turns (t + 1)) q) := HNext.out t V3 hwc
          clear hwc
          go_wp2_with (fail)
          go_roundw
          case rel => exact ⟨t + 1, by omega, by go_num, HW.out⟩
          case measure => simp [intOf]; omega
     · have hge2 : ¬ (t : Int) < 12 := by omega
       obtain rfl : t = 12 := by omega
       have HW : Hid (WentN w V2 y n.round q) := by
        show WentN _ _ _ _ _
        rw [HEnd.out]
        exact hwt
       clear hwt
       go_wp2_with (fail)
       first | go_end0 | refine bodyPost_ret (results_none rfl _ _ _) rfl ?_
       exact ⟨rfl, HW.out⟩
end Rt
end Go.Proofs.YtieklnlbljejdaaGreatDoor

namespace Go.Proofs.YtieklnlbljejdaaGreatDoor
open Go.RowKit St
namespace Rt
def natsV (l : List Nat) : List Value := l.map fun (n : Nat) => Value.int .i64 (n : Int)
def inOf (n : NtM) (k c : Nat) : Bool := (n.C c).inn && (((n.C c).e 0).1 == k || ((n.C c).e 1).1 == k)
set_option maxRecDepth 100000 in
set_option maxHeartbeats 4000000 in
theorem cablesIn_any (y : Yt) (n : NtM) (k : Nat) (w : World) (h : NetR w y n) :
 Calls Tryz.prog 115 #[.pointer (some ⟨y.N, 0, none⟩), .int .i64 ((k : Int) + 1)] w fun e w' => ∃ v, e = .returned v ∧ Row w' 1 v (n.cabsIn k).length (natsV (n.cabsIn k)) ∧ (∀ b, v.ownBlock = some b → w.heap.size ≤ b) ∧ Below w.heap.size w w' := by
 obtain ⟨i0, hi, hz0, hz1, hz2⟩ := info_parts infoI64
 have c3 := h.k3
 obtain ⟨a, cp, hcv, hgc⟩ := h.cvs
 rw [hcv] at c3
 have cl := h.Nlt
 have c9 := h.c9
 obtain ⟨nc, hnc⟩ : ∃ nc, n.nc = nc := ⟨_, rfl⟩
 have HGC : Hid (∀ c, c < nc → ∃ g, y.gC = some g ∧ a = some ⟨g, 0, none⟩) := by
  show ∀ c, _ → _
  rw [← hnc]
  exact hgc
 have HF : Hid (∀ W q g, Below w.heap.size w W → q < nc → y.gC = some g → ∃ a0 n0 c0 a1 n1 c1, W.cell? ⟨g, q * 7, none⟩ = some (.int .i64 ((((n.C q).e 0).1 : Int) + 1)) ∧ W.cell? ⟨g, q * 7 + 1, none⟩ = some (.int .i64 (((n.C q).e 0).2 : Int)) ∧ W.cell? ⟨g, q * 7 + 2, none⟩ = some (.int .i64 ((((n.C q).e 1).1 : Int) + 1)) ∧ W.cell? ⟨g, q * 7 + 3, none⟩ = some (.int .i64 (((n.C q).e 1).2 : Int)) ∧ W.cell? ⟨g, q * 7 + 4, none⟩ = some (.bool (n.C q).inn) ∧ W.cell? ⟨g, q * 7 + 5, none⟩ = some (.slice a0 n0 c0) ∧ W.cell? ⟨g, q * 7 + 6, none⟩ = some (.slice a1 n1 c1) ∧ g < W.heap.size) := by
  intro W q g hb hq hg
  have R := h.below hb
  have hC := R.rc g hg q (by rw [hnc]; exact hq)
  obtain ⟨a0, c0, e0⟩ := Row.shape (R.ob q 0 (by rw [hnc]; exact hq) (by decide))
  obtain ⟨a1, c1, e1⟩ := Row.shape (R.ob q 1 (by rw [hnc]; exact hq) (by decide))
  refine ⟨a0, ((n.C q).on 0).length, c0, a1, ((n.C q).on 1).length, c1, hC.cell 0 (by decide), hC.cell 1 (by decide), hC.cell 2 (by decide), hC.cell 3 (by decide), hC.cell 4 (by decide), ?_, ?_, hC.lt (by decide)⟩
  · rw [← e0]; exact hC.cell 5 (by decide)
  · rw [← e1]; exact hC.cell 6 (by decide)
 have HE : Hid (n.cabsIn k = (List.range nc).filter (inOf n k)) := by
  show _ = _
  rw [← hnc]
  rfl
 rw [hnc] at c3 c9
 clear h hgc hcv hnc
 go_enter Tryz.func115, Tryz.ntmps115
 go_wp2_with (fail)
 go_loopw [5, 13] (fun v x wr => ∃ q : Nat, q ≤ nc ∧ x = .int .i64 q ∧ Row wr 1 v ((List.range q).filter (inOf n k)).length (natsV ((List.range q).filter (inOf n k))) ∧ (∀ b, v.ownBlock = some b → w.heap.size ≤ b) ∧ Below w.heap.size w wr) (fun _ x _ => nc - (intOf x).toNat)
 case atStart => exact ⟨0, Nat.zero_le _, rfl, Row.nil _ _, fun b hb => by simp [Value.ownBlock] at hb, Below.refl _ _⟩
 case round =>
  obtain ⟨q, hq, rfl, hrow, hown, hbel⟩ := hrel
  by_cases hlt : q < nc
  · have hlt' : (q : Int) < (nc : Int) := by omega
    have hq0 : (0 : Int) ≤ (q : Int) := by omega
    obtain ⟨g, hg, rfl⟩ := HGC.out q hlt
    obtain ⟨a0, n0, c0, a1, n1, c1, k0, k1, k2, k3, k4, k5, k6, gl⟩ := HF.out wr q g hbel hlt hg
    have HP : Hid ((List.range (q + 1)).filter (inOf n k) = (List.range q).filter (inOf n k) ++ if inOf n k q = true then [q] else []) := by
     show _ = _
     rw [List.range_succ, List.filter_append]
     congr 1
     by_cases e : inOf n k q = true
     · rw [if_pos e, List.filter_cons_of_pos e]; rfl
     · rw [if_neg e, List.filter_cons_of_neg e]; rfl
    have hio : inOf n k q = ((n.C q).inn && (((n.C q).e 0).1 == k || ((n.C q).e 1).1 == k)) := rfl
    have HR : Hid _ := hrow
    have HO : Hid _ := hown
    have HB : Hid _ := hbel
    clear hown hbel hg
    obtain ⟨L, hL⟩ : ∃ L, (List.range q).filter (inOf n k) = L := ⟨_, rfl⟩
    have hLq : L.length ≤ q := by
     rw [← hL]
     have := List.length_filter_le (inOf n k) (List.range q)
     simpa using this
    rw [hL] at hrow HP
    generalize ((n.C q).e 0).1 = r0 at k0 hio
    generalize ((n.C q).e 1).1 = r1 at k2 hio
    generalize ((n.C q).e 0).2 = p0 at k1
    generalize ((n.C q).e 1).2 = p1 at k3
    generalize (n.C q).inn = inn at k4 hio
    cases inn with
    | false =>
      have hne0 : True := trivial
      have hne1 : True := trivial
      have hio' : inOf n k q = false := by rw [hio]; first | rfl | simp [hne0, hne1]
      have HN : Hid (Row (wr.alloc (.cells #[.int .i64 ((r0 : Int) + 1), .int .i64 (p0 : Int), .int .i64 ((r1 : Int) + 1), .int .i64 (p1 : Int), .bool false, .slice a0 n0 c0, .slice a1 n1 c1] 197)) 1 u5 ((List.range (q + 1)).filter (inOf n k)).length (natsV ((List.range (q + 1)).filter (inOf n k))) ∧ (∀ b, u5.ownBlock = some b → w.heap.size ≤ b) ∧ Below w.heap.size w (wr.alloc (.cells #[.int .i64 ((r0 : Int) + 1), .int .i64 (p0 : Int), .int .i64 ((r1 : Int) + 1), .int .i64 (p1 : Int), .bool false, .slice a0 n0 c0, .slice a1 n1 c1] 197))) := by
       rw [HP.out, hio']
       simp only [Bool.false_eq_true, if_false, List.append_nil]
       exact ⟨hrow.alloc _, HO.out, HB.out.alloc HB.out.size _⟩
      clear hrow hio hio' hL
      go_wp2_with (fail)
      go_roundw
      case rel => exact ⟨q + 1, by omega, by go_num, HN.out⟩
      case measure => simp [intOf]; omega
    | true =>
      by_cases h0 : r0 = k
      · rw [h0] at k0 hio
        have hio' : inOf n k q = true := by rw [hio]; simp
        go_wp2_with (at_builtin; go_must (refine wpList_append_row _ rfl (.tmp 36) (.tmp 38) 22 rfl 3 i0 (.int .i64 0) 1 8 Tryz.underlying22 hi hz0 hz1 hz2 rfl (by decide) u5 L.length (natsV L) rfl ((hrow.alloc _).alloc _) _ 1 1 [.int .i64 (q : Int)] rfl rfl (by decide) (cells_oneN _ _ _ _ (by simp)) (one_int _ _) (by unfold maxLen; omega) (by omega) ?_))
        intro g' cap' w3 hr3 hg3 ho3
        have HN : Hid (Row w3 1 (.slice (some ⟨g', 0, none⟩) (L.length + 1) cap') ((List.range (q + 1)).filter (inOf n k)).length (natsV ((List.range (q + 1)).filter (inOf n k))) ∧ (∀ b, Value.ownBlock (.slice (some ⟨g', 0, none⟩) (L.length + 1) cap') = some b → w.heap.size ≤ b) ∧ Below w.heap.size w w3) := by
         have hs := HB.out.size
         rw [HP.out, hio']
         simp only [if_true, List.length_append, List.length_cons, List.length_nil]
         refine ⟨?_, fun b hb => ?_, ?_⟩
         · have e9 : natsV (L ++ [q]) = natsV L ++ [.int .i64 (q : Int)] := by simp [natsV]
           rw [e9]
           exact hr3
         · have : g' = b := by simpa [Value.ownBlock] using hb
           subst this
           rcases ho3 with e | e
           · exact HO.out _ e
           · (try simp at e)
             omega
         · exact ((HB.out.alloc hs _).alloc (by simp; omega) _).grown hg3 (by simp; omega) (fun b hb => HO.out b (by rw [← hb]))
        clear hr3 hg3 ho3 hrow hio hio' hL
        go_wp2_with (fail)
        go_roundw
        case rel => exact ⟨q + 1, by omega, by go_num, HN.out⟩
        case measure => simp [intOf]; omega
      · have hne0 : (r0 == k) = false := by simpa using h0
        have hz : ¬ ((r0 : Int) + 1 = (k : Int) + 1) := by omega
        have hz' : ((r0 : Int) + 1 == (k : Int) + 1) = false := by simpa using hz
        have hz3 : ¬ ((r0 : Int) = (k : Int)) := by omega
        by_cases h1 : r1 = k
        · rw [h1] at k2 hio
          have hio' : inOf n k q = true := by rw [hio]; simp
          go_wp2_with (at_builtin; go_must (refine wpList_append_row _ rfl (.tmp 36) (.tmp 38) 22 rfl 3 i0 (.int .i64 0) 1 8 Tryz.underlying22 hi hz0 hz1 hz2 rfl (by decide) u5 L.length (natsV L) rfl ((hrow.alloc _).alloc _) _ 1 1 [.int .i64 (q : Int)] rfl rfl (by decide) (cells_oneN _ _ _ _ (by simp)) (one_int _ _) (by unfold maxLen; omega) (by omega) ?_))
          intro g' cap' w3 hr3 hg3 ho3
          have HN : Hid (Row w3 1 (.slice (some ⟨g', 0, none⟩) (L.length + 1) cap') ((List.range (q + 1)).filter (inOf n k)).length (natsV ((List.range (q + 1)).filter (inOf n k))) ∧ (∀ b, Value.ownBlock (.slice (some ⟨g', 0, none⟩) (L.length + 1) cap') = some b → w.heap.size ≤ b) ∧ Below w.heap.size w w3) := by
           have hs := HB.out.size
           rw [HP.out, hio']
           simp only [if_true, List.length_append, List.length_cons, List.length_nil]
           refine ⟨?_, fun b hb => ?_, ?_⟩
           · have e9 : natsV (L ++ [q]) = natsV L ++ [.int .i64 (q : Int)] := by simp [natsV]
             rw [e9]
             exact hr3
           · have : g' = b := by simpa [Value.ownBlock] using hb
             subst this
             rcases ho3 with e | e
             · exact HO.out _ e
             · (try simp at e)
               omega
           · exact ((HB.out.alloc hs _).alloc (by simp; omega) _).grown hg3 (by simp; omega) (fun b hb => HO.out b (by rw [← hb]))
          clear hr3 hg3 ho3 hrow hio hio' hL
          go_wp2_with (fail)
          go_roundw
          case rel => exact ⟨q + 1, by omega, by go_num, HN.out⟩
          case measure => simp [intOf]; omega
        · have hne1 : (r1 == k) = false := by simpa using h1
          have hy : ¬ ((r1 : Int) + 1 = (k : Int) + 1) := by omega
          have hy' : ((r1 : Int) + 1 == (k : Int) + 1) = false := by simpa using hy
          have hy3 : ¬ ((r1 : Int) = (k : Int)) := by omega
          have hio' : inOf n k q = false := by rw [hio]; first | rfl | simp [hne0, hne1]
          have HN : Hid (Row (wr.alloc (.cells #[.int .i64 ((r0 : Int) + 1), .int .i64 (p0 : Int), .int .i64 ((r1 : Int) + 1), .int .i64 (p1 : Int), .bool true, .slice a0 n0 c0, .slice a1 n1 c1] 197)) 1 u5 ((List.range (q + 1)).filter (inOf n k)).length (natsV ((List.range (q + 1)).filter (inOf n k))) ∧ (∀ b, u5.ownBlock = some b → w.heap.size ≤ b) ∧ Below w.heap.size w (wr.alloc (.cells #[.int .i64 ((r0 : Int) + 1), .int .i64 (p0 : Int), .int .i64 ((r1 : Int) + 1), .int .i64 (p1 : Int), .bool true, .slice a0 n0 c0, .slice a1 n1 c1] 197))) := by
           rw [HP.out, hio']
           simp only [Bool.false_eq_true, if_false, List.append_nil]
           exact ⟨hrow.alloc _, HO.out, HB.out.alloc HB.out.size _⟩
          clear hrow hio hio' hL
          go_wp2_with (fail)
          go_roundw
          case rel => exact ⟨q + 1, by omega, by go_num, HN.out⟩
          case measure => simp [intOf]; omega
  · obtain rfl : q = nc := by omega
    have HW : Hid (Row wr 1 u5 (n.cabsIn k).length (natsV (n.cabsIn k)) ∧ (∀ b, u5.ownBlock = some b → w.heap.size ≤ b) ∧ Below w.heap.size w wr) := by
     show _ ∧ _ ∧ _
     rw [HE.out]
     exact ⟨hrow, hown, hbel⟩
    have hge : ¬ (q : Int) < (q : Int) := by omega
    clear hrow hown hbel
    go_wp2_with (fail)
    go_ret
    exact ⟨_, rfl, HW.out⟩
end Rt
end Go.Proofs.YtieklnlbljejdaaGreatDoor
