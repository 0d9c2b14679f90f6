/-
  NtTick NtDeliver NtDeliver2
-/
import Derived.Test.YtieklnlbljejdaaGreatDoorG41
namespace Go.Proofs.YtieklnlbljejdaaGreatDoor
open Go.RowKit St
namespace Rt
theorem NetR.routerN {w w' : World} {y : Yt} {n : NtM} {i : Nat} {r : RtM} (h : NetR w y n) (hi : i < n.n) (hW : WentR w w' (y.z i) r (n.R i).n) (hr : r.n = (n.R i).n ∧ r.id = (n.R i).id) : WentN w w' y (n.setR i r) n.n := by
 obtain ⟨h3, h4⟩ := h.rn i hi
 rw [h3] at hW
 exact h.router hi hW ⟨hr.1.trans h3, hr.2.trans h4⟩
theorem tickN_any (y : Yt) (n : NtM) (D k i : Nat) (w : World) (h : NetR w y n) (hT : TabOk w) (hok : NOk n D k) (hD : D ≤ 1000000000) (hk : k ≤ 90000) (hi : i < n.n) :
 Calls Tryz.prog 25 #[.pointer (some ⟨(y.z i).R, 0, none⟩)] w fun e w' => e = .returned (.tuple #[]) ∧ WentN w w' y (n.setR i (n.R i).tick) n.n := by
 refine (tickR_any (y.z i) (n.R i) k w (h.rt i hi) hT (hok.ok i hi) (hok.fits (by omega) hi) hk).mono ?_
 rintro e w1 ⟨rfl, hw⟩
 have hg := Grew.ticks (n.R i) (n.R i).n
 exact ⟨rfl, h.routerN hi hw ⟨hg.n, hg.id⟩⟩
theorem sendN_any (y : Yt) (n : NtM) (D k i : Nat) (t : Int) (tx : ByteArray) (w : World) (h : NetR w y n) (hok : NOk n D k) (hD : D ≤ 1000000000) (hk : k ≤ 90000) (hi : i < n.n) :
 Calls Tryz.prog 27 #[.pointer (some ⟨(y.z i).R, 0, none⟩), .int .i64 t, .string tx] w fun e w' => e = .returned (errV (sendTo (n.R i) t tx.data.toList).2) ∧ WentN w w' y (n.setR i (sendTo (n.R i) t tx.data.toList).1) n.n := by
 refine (sendR_any (y.z i) (n.R i) k t tx w (h.rt i hi) (hok.ok i hi) (hok.fits (by omega) hi) (by omega)).mono ?_
 rintro e w1 ⟨rfl, hw⟩
 have hg := Grew.sendTo (n.R i) t tx.data.toList
 exact ⟨rfl, h.routerN hi hw ⟨hg.n, hg.id⟩⟩
theorem wrap_pred {k m : Nat} (h : k < m) (hm : m ≤ 6) : IntKind.i64.wrap ((k : Int) + 1 - 1) = (k : Int) := by
 have : (k : Int) + 1 - 1 = k := by omega
 rw [this]; exact IntWalk.i64_in _ ⟨by omega, by omega⟩
set_option maxRecDepth 100000 in
set_option maxHeartbeats 1000000 in
theorem tick_net (y : Yt) (n : NtM) (D : Nat) (i : Int) (w : World) (h : NetR w y n) (hT : TabOk w) (hok : NOk n D 0) (hD : D ≤ 900000000) :
 Calls Tryz.prog 56 #[.pointer (some ⟨y.N, 0, none⟩), .int .i64 i] w fun e w' => e = .returned (errV (n.tick i).2) ∧ WentN w w' y (n.tick i).1 n.n := by
 have hh := hasRouter_any y n i w h
 rcases hasN_cases i n.n with ⟨hn, hi⟩ | ⟨k, hk, rfl⟩
 · have hE : n.tick i = (n, 6) := by unfold NtM.tick; rw [if_pos hi]
   rw [hE]
   rw [hn] at hh
   have HW : Hid _ := WentN.refl h
   clear h hok hT
   go_enter Tryz.func56, Tryz.ntmps56
   go_wp2_with (fail)
   refine hh.mono ?_
   rintro e w1 ⟨rfl, rfl⟩
   clear hh
   go_wp2_with (fail)
   go_ret
   exact ⟨rfl, HW.out⟩
 · rw [hasN_yes hk] at hh
   have hE : n.tick ((k : Int) + 1) = ((n.setR k (n.R k).tick).gather, 0) := by
    unfold NtM.tick
    have e1 : ((k : Int) + 1 - 1).toNat = k := by omega
    rw [if_neg (by omega), e1]
   rw [hE]
   have c0 := h.k0
   have cl := h.Nlt
   have d0 := h.ptr hk
   have dl := h.gRlt
   have n6 := h.n6
   have hw := wrap_pred hk n6
   have hi' : (k : Int) < (n.n : Int) := by omega
   have hi0 : (0 : Int) ≤ (k : Int) := by omega
   have ht := tickN_any y n D 0 k w h hT hok (by omega) (by omega) hk
   have hok1 := hok.tickR (by omega) hk
   have hg : Hid (∀ W, WentN w W y (n.setR k (n.R k).tick) n.n → Calls Tryz.prog 111 #[.pointer (some ⟨y.N, 0, none⟩)] W fun e w' => e = .returned (.tuple #[]) ∧ WentN w w' y (n.setR k (n.R k).tick).gather n.n) := by
    intro W hW
    refine hW.call fun y1 R1 s1 => ?_
    rw [← s1.N]
    exact gather_any y1 _ D _ W R1 hok1 (by omega) (by omega)
   have e0 : errV 0 = .nilIface := rfl
   rw [e0]
   clear h hok hT hok1
   go_enter Tryz.func56, Tryz.ntmps56
   go_wp2_with (fail)
   refine hh.mono ?_
   rintro e w1 ⟨rfl, rfl⟩
   clear hh
   go_wp2_with (fail)
   refine ht.mono ?_
   rintro e w1 ⟨rfl, hw1⟩
   have hg1 := hg.out _ hw1
   clear ht hw1
   go_wp2_with (fail)
   refine hg1.mono ?_
   rintro e w2 ⟨rfl, hw2⟩
   have HW : Hid _ := hw2
   clear hg1 hw2
   go_wp2_with (fail)
   go_ret
   exact ⟨rfl, HW.out⟩
set_option maxRecDepth 100000 in
set_option maxHeartbeats 1000000 in
theorem send_net (y : Yt) (n : NtM) (D : Nat) (i t : Int) (tx : ByteArray) (w : World) (h : NetR w y n) (hok : NOk n D 0) (hD : D ≤ 900000000) :
 Calls Tryz.prog 53 #[.pointer (some ⟨y.N, 0, none⟩), .int .i64 i, .int .i64 t, .string tx] w fun e w' => e = .returned (errV (n.send i t tx.data.toList).2) ∧ WentN w w' y (n.send i t tx.data.toList).1 n.n := by
 have hh := hasRouter_any y n i w h
 rcases hasN_cases i n.n with ⟨hn, hi⟩ | ⟨k, hk, rfl⟩
 · have hE : n.send i t tx.data.toList = (n, 6) := by unfold NtM.send; rw [if_pos hi]
   rw [hE]
   rw [hn] at hh
   have HW : Hid _ := WentN.refl h
   clear h hok
   go_enter Tryz.func53, Tryz.ntmps53
   go_wp2_with (fail)
   refine hh.mono ?_
   rintro e w1 ⟨rfl, rfl⟩
   clear hh
   go_wp2_with (fail)
   go_ret
   exact ⟨rfl, HW.out⟩
 · rw [hasN_yes hk] at hh
   have e1 : ((k : Int) + 1 - 1).toNat = k := by omega
   have c0 := h.k0
   have cl := h.Nlt
   have d0 := h.ptr hk
   have dl := h.gRlt
   have n6 := h.n6
   have hw := wrap_pred hk n6
   have hi' : (k : Int) < (n.n : Int) := by omega
   have hi0 : (0 : Int) ≤ (k : Int) := by omega
   have ht := sendN_any y n D 0 k t tx w h hok (by omega) (by omega) hk
   have hok1 := hok.sendR (by omega) hk t tx.data.toList
   obtain ⟨q, hq⟩ : ∃ q, sendTo (n.R k) t tx.data.toList = q := ⟨_, rfl⟩
   have hE : n.send ((k : Int) + 1) t tx.data.toList = if q.2 ≠ 0 then (n, q.2) else ((n.setR k q.1).gather, 0) := by
    unfold NtM.send
    rw [if_neg (by omega), e1, hq]
   rw [hE]
   rw [hq] at ht hok1
   have hg : Hid (∀ W, WentN w W y (n.setR k q.1) n.n → Calls Tryz.prog 111 #[.pointer (some ⟨y.N, 0, none⟩)] W fun e w' => e = .returned (.tuple #[]) ∧ WentN w w' y (n.setR k q.1).gather n.n) := by
    intro W hW
    refine hW.call fun y1 R1 s1 => ?_
    rw [← s1.N]
    exact gather_any y1 _ _ _ W R1 hok1 (by omega) (by omega)
   have hsame : q.2 ≠ 0 → q.1 = n.R k := fun hz => by
    rw [← hq] at hz ⊢
    unfold Rt.sendTo at hz ⊢
    split at hz
    · rename_i hc; rw [if_pos hc]
    · exact absurd rfl hz
   have hself : n.setR k (n.R k) = n := by
    unfold NtM.setR
    rw [upN_self]
   by_cases h0 : q.2 = 0
   · rw [if_neg (by simp [h0])]
     rw [h0] at ht
     have e0 : errV 0 = .nilIface := rfl
     rw [e0] at ht ⊢
     clear h hok hok1 hsame hE hq h0
     go_enter Tryz.func53, Tryz.ntmps53
     go_wp2_with (fail)
     refine hh.mono ?_
     rintro e w1 ⟨rfl, rfl⟩
     clear hh
     go_wp2_with (fail)
     refine ht.mono ?_
     rintro e w1 ⟨rfl, hw1⟩
     have hg1 := hg.out _ hw1
     clear ht hw1
     go_wp2_with (fail)
     refine hg1.mono ?_
     rintro e w2 ⟨rfl, hw2⟩
     have HW : Hid _ := hw2
     clear hg1 hw2
     go_wp2_with (fail)
     go_ret
     exact ⟨rfl, HW.out⟩
   · rw [if_pos h0]
     rw [hsame h0, hself] at ht
     have ee : errV q.2 = .iface 128 (.int .i64 (q.2 : Int)) := by simp only [errV]; rw [if_neg h0]
     rw [ee] at ht ⊢
     clear h hok hok1 hsame hE hq hg h0
     go_enter Tryz.func53, Tryz.ntmps53
     go_wp2_with (fail)
     refine hh.mono ?_
     rintro e w1 ⟨rfl, rfl⟩
     clear hh
     go_wp2_with (fail)
     refine ht.mono ?_
     rintro e w1 ⟨rfl, hw1⟩
     have HW : Hid _ := hw1
     clear ht hw1
     go_wp2_with (fail)
     go_ret
     exact ⟨rfl, HW.out⟩
end Rt
end Go.Proofs.YtieklnlbljejdaaGreatDoor

namespace Go.Proofs.YtieklnlbljejdaaGreatDoor
open Go.RowKit St
namespace Rt
theorem WentN.cellR {W : World} {y y1 : Yt} {n : NtM} {i R : Nat} (R1 : NetR W y1 n) (s1 : y.same y1) (hi : i < n.n) (hc : W.cell? ⟨y.gR, i, none⟩ = some (.pointer (some ⟨R, 0, none⟩))) : (y1.z i).R = R := by
 have h1 := R1.ptr hi
 rw [s1.gR, hc] at h1
 have h2 := Option.some.inj h1
 injection h2 with h3
 injection h3 with h4
 injection h4 with h5
 exact h5.symm
def DelT (W3 : World) (y : Yt) (n n1 : NtM) (i R : Nat) (b : Bool) (W : World) : Prop := WentN W3 W y (if b = true then n1 else n) n.n ∧ W.cell? ⟨y.gR, i, none⟩ = some (.pointer (some ⟨R, 0, none⟩))
theorem DelT.below {W3 : World} {y : Yt} {n n1 : NtM} {i R : Nat} {b : Bool} {W W' : World} (h : DelT W3 y n n1 i R b W) (hn : n1.n = n.n) (hb : Below W.heap.size W W') : DelT W3 y n n1 i R b W' := by
 refine ⟨h.1.below (by cases b <;> simp [hn]) hb, ?_⟩
 exact (World.cell?_of_block (a := ⟨y.gR, i, none⟩) (hb.block y.gR (World.block_lt_of_cell? _ _ h.2))).trans h.2
theorem delAt_any (W3 : World) (y : Yt) (n n1 : NtM) (i p R : Nat) (b : Bool) (W : World) (hn : n1.n = n.n) (hi : i < n.n) (hW : DelT W3 y n n1 i R b W) :
 Calls Tryz.prog 157 #[.pointer (some ⟨y.N, 0, none⟩), .agg #[.int .i64 ((i : Int) + 1), .int .i64 (p : Int)]] W fun e w' => e = .returned (.pointer (some ⟨R, 0, none⟩)) ∧ DelT W3 y n n1 i R b w' := by
 obtain ⟨y1, R1, s1, hm1, he1⟩ := hW.1.ex
 have hnn : (if b = true then n1 else n).n = n.n := by cases b <;> simp [hn]
 have hR := WentN.cellR R1 s1 (by rw [hnn]; exact hi) hW.2
 rw [← s1.N]
 refine (at_any y1 _ i p W R1 (by rw [hnn]; exact hi)).mono ?_
 rintro e w1 ⟨rfl, b1⟩
 exact ⟨by rw [hR], hW.below hn b1⟩
theorem delTake_any (W3 : World) (y : Yt) (n : NtM) (D c d g i R : Nat) (many : Int) (W : World) (hok : NOk n D 0) (hc : c < n.nc) (hd : d < 2) (hg : y.gC = some g) (n1 : NtM) (hn1 : n.setC c { n.C c with on := upN (n.C c).on d (((n.C c).on d).drop (min many.toNat ((n.C c).on d).length)) } = n1) (hW : DelT W3 y n n1 i R false W) :
 Calls Tryz.prog 158 #[.pointer (some ⟨g, c * 7, none⟩), .int .i64 (d : Int), .int .i64 many] W fun e w' => e = .returned (.string ⟨(((n.C c).on d).take (min many.toNat ((n.C c).on d).length)).toArray⟩) ∧ DelT W3 y n n1 i R true w' := by
 obtain ⟨h1, h2⟩ := hW
 have h1 : WentN W3 W y n n.n := h1
 obtain ⟨y1, R1, s1, hm1, he1⟩ := h1.ex
 have hg1 : y1.gC = some g := by rw [s1.gC]; exact hg
 refine (takeC_any g (c * 7) d (n.C c) (y1.ov c) many W hd (R1.rc g hg1 c hc) (R1.ob c d hc hd) (R1.onNe hg1) (R1.ol c d hc hd)).mono ?_
 rintro e w1 ⟨rfl, v', hw⟩
 have hk := R1.cbW hc hd hg1 hw rfl (fun x hx => upN_other _ _ hx) (by
  show (upN (n.C c).on d _ d).length ≤ 2000
  rw [upN_same, List.length_drop]
  have := hok.ol c d hc hd
  omega)
 rw [hn1] at hk
 refine ⟨rfl, WentN.thenBy h1.kept s1 hm1 he1 hk, ?_⟩
 rw [← s1.gR] at h2 ⊢
 refine (World.cell?_of_block (a := ⟨y1.gR, i, none⟩) (hw.block y1.gR R1.gRlt (fun e => ?_) (fun e => ?_))).trans h2
 · exact R1.at_ne (l := .R) (l' := .C) rfl hg1 (by intro e; cases e) e
 · exact R1.at_ne (l := .on c d) (l' := .R) e rfl (by intro e; cases e) rfl
theorem delRecv_any (W3 : World) (y : Yt) (n : NtM) (D c d i p R q : Nat) (W : World) (hok : NOk n D 0) (hD : D ≤ 900000000) (h3 : NetR W3 y n) (hT : TabOk W3) (hc : c < n.nc) (hd : d < 2) (hip : (n.C c).e (1 - d) = (i, p)) (n1 : NtM) (hn1 : n.setC c { n.C c with on := upN (n.C c).on d (((n.C c).on d).drop q) } = n1) (hW : DelT W3 y n n1 i R true W) :
 Calls Tryz.prog 23 #[.pointer (some ⟨R, 0, none⟩), .int .i64 (p : Int), .string ⟨(((n.C c).on d).take q).toArray⟩] W fun e w' => e = .returned .nilIface ∧ WentN W3 w' y (n.recvAt c d q) n.n := by
 obtain ⟨h1, h2⟩ := hW
 have h1 : WentN W3 W y n1 n.n := h1
 have hi := (hok.en c (1 - d) hc (by omega))
 rw [hip] at hi
 have hnn : n1.n = n.n := by rw [← hn1]; rfl
 have hRR : n1.R = n.R := by rw [← hn1]; rfl
 have hTW := h1.tab h3 rfl hT
 obtain ⟨y1, R1, s1, hm1, he1⟩ := h1.ex
 have hR := WentN.cellR R1 s1 (by rw [hnn]; exact hi.1) h2
 rw [← hR]
 have hl := hok.ol c d hc hd
 have hsz : (⟨(((n.C c).on d).take q).toArray⟩ : ByteArray).size ≤ 2000 := by
  show Array.size _ ≤ _
  simp
  omega
 have hrt := R1.rt i (by rw [hnn]; exact hi.1)
 have hfit := hok.fits (by omega) (i := i) hi.1
 rw [hRR] at hrt
 refine (recv_any _ (y1.z i) (n.R i) p 0 W hrt hTW (hok.ok i hi.1) hfit (by omega) (by rw [(hok.rn i hi.1).1]; exact hi.2)).mono ?_
 rintro e w1 ⟨rfl, hw⟩
 have e1 : (⟨(((n.C c).on d).take q).toArray⟩ : ByteArray).data.toList = ((n.C c).on d).take q := by simp
 rw [e1] at hw
 have hgr := Grew.recv (n.R i) p (((n.C c).on d).take q)
 have hi1 : i < n1.n := by rw [hnn]; exact hi.1
 have hwn : WentN W w1 y1 (n1.setR i ((n.R i).recv p (((n.C c).on d).take q))) n1.n := by
  have e2 : (n.R i) = n1.R i := by rw [hRR]
  refine R1.routerN hi1 ?_ ?_
  · rw [← e2]; exact hw
  · rw [← e2]; exact ⟨hgr.n, hgr.id⟩
 rw [hnn] at hwn
 refine ⟨rfl, WentN.thenBy h1.kept s1 hm1 he1 ?_⟩
 have e3 : n.recvAt c d q = n1.setR i ((n.R i).recv p (((n.C c).on d).take q)) := by
  unfold NtM.recvAt
  rw [hip, hn1]
 rw [e3]
 exact hwn
theorem cell3_alloc {w : World} {p q r : Addr} {u v t : Value} {o : Obj} (h : w.cell? p = some u ∧ w.cell? q = some v ∧ w.cell? r = some t) : (w.alloc o).cell? p = some u ∧ (w.alloc o).cell? q = some v ∧ (w.alloc o).cell? r = some t := ⟨cell_alloc h.1, cell_alloc h.2.1, cell_alloc h.2.2⟩
theorem cell3_set2 {x : World} {b c d g k l m : Nat} {a1 a2 u v t : Value} (h : x.cell? ⟨b, k, none⟩ = some u ∧ x.cell? ⟨c, l, none⟩ = some v ∧ x.cell? ⟨d, m, none⟩ = some t) (hb : b ≠ g) (hc : c ≠ g) (hd : d ≠ g) :
 ((x.setCell ⟨g, 0, none⟩ a1).setCell ⟨g, 1, none⟩ a2).cell? ⟨b, k, none⟩ = some u ∧ ((x.setCell ⟨g, 0, none⟩ a1).setCell ⟨g, 1, none⟩ a2).cell? ⟨c, l, none⟩ = some v ∧ ((x.setCell ⟨g, 0, none⟩ a1).setCell ⟨g, 1, none⟩ a2).cell? ⟨d, m, none⟩ = some t :=
 ⟨cell_other (cell_other h.1 hb) hb, cell_other (cell_other h.2.1 hc) hc, cell_other (cell_other h.2.2 hd) hd⟩
end Rt
end Go.Proofs.YtieklnlbljejdaaGreatDoor

namespace Go.Proofs.YtieklnlbljejdaaGreatDoor
open Go.RowKit St
namespace Rt
theorem cbF_end (c : CbM) (o : Nat → Value) (x : Nat) (hx : x < 2) : cbF c o (x * 2) = .int .i64 (((c.e x).1 : Int) + 1) ∧ cbF c o (x * 2 + 1) = .int .i64 ((c.e x).2 : Int) := by
 have : x = 0 ∨ x = 1 := by omega
 rcases this with rfl | rfl <;> exact ⟨rfl, rfl⟩
set_option maxRecDepth 100000 in
set_option maxHeartbeats 4000000 in
theorem deliver_net (y : Yt) (n : NtM) (D : Nat) (i d many : Int) (w : World) (h : NetR w y n) (hT : TabOk w) (hok : NOk n D 0) (hD : D ≤ 900000000) :
 Calls Tryz.prog 101 #[.pointer (some ⟨y.N, 0, none⟩), .int .i64 i, .int .i64 d, .int .i64 many] w fun e w' => e = .returned (errV (n.deliver i d many).2) ∧ WentN w w' y (n.deliver i d many).1 n.n := by
 have hh := hasWay_any y n i d w h
 rcases hasW_cases i d n.nc with ⟨hn, hi⟩ | ⟨c, k, hc, hk, rfl, rfl⟩
 · have hE : n.deliver i d many = (n, 6) := by unfold NtM.deliver; rw [if_pos hi]
   rw [hE]
   rw [hn] at hh
   have HW : Hid _ := WentN.refl h
   clear h hok hT
   go_enter Tryz.func101, Tryz.ntmps101
   go_wp2_with (fail)
   refine hh.mono ?_
   rintro e w1 ⟨rfl, rfl⟩
   clear hh
   go_wp2_with (fail)
   go_ret
   exact ⟨rfl, HW.out⟩
 · rw [hasW_yes hc hk] at hh
   obtain ⟨q, hq⟩ : ∃ q, min many.toNat ((n.C c).on k).length = q := ⟨_, rfl⟩
   have hE : n.deliver (c : Int) (k : Int) many = ((n.recvAt c k q).gather, 0) := by
    unfold NtM.deliver
    rw [if_neg (by omega), Int.toNat_natCast, Int.toNat_natCast, hq]
   rw [hE]
   have e0 : errV 0 = .nilIface := rfl
   rw [e0]
   obtain ⟨a, cp, hcv, hgc⟩ := h.cvs
   obtain ⟨g, hg, rfl⟩ := hgc c hc
   have hok1 := hok.recvAt (D := D) (k := 0) (c := c) (d := k) (q := q) (by omega) hc hk
   have hG : Hid (∀ W, WentN w W y (n.recvAt c k q) n.n → Calls Tryz.prog 111 #[.pointer (some ⟨y.N, 0, none⟩)] W fun e w' => e = .returned (.tuple #[]) ∧ WentN w w' y (n.recvAt c k q).gather n.n) := by
    intro W hW
    refine hW.call fun y1 R1 s1 => ?_
    rw [← s1.N]
    exact gather_any y1 _ _ _ W R1 hok1 (by omega) (by omega)
   obtain ⟨x, hx⟩ : ∃ x, 1 - k = x := ⟨_, rfl⟩
   have hx2 : x < 2 := by omega
   have hot := fun W => other_any k hk W
   rw [hx] at hot
   obtain ⟨j, p, hjp⟩ : ∃ j p, (n.C c).e x = (j, p) := ⟨_, _, rfl⟩
   have HF : Hid (∀ W, Below w.heap.size w W → W.cell? ⟨y.N, 3, none⟩ = some (.slice (some ⟨g, 0, none⟩) n.nc cp) ∧ W.cell? ⟨g, c * 7 + x * 2, none⟩ = some (.int .i64 ((j : Int) + 1)) ∧ W.cell? ⟨g, c * 7 + x * 2 + 1, none⟩ = some (.int .i64 (p : Int))) := by
    intro W hb
    have R1 := h.below hb
    have h3 := R1.k3
    rw [hcv] at h3
    have h4 := (R1.rc g hg c hc).cell (x * 2) (by omega)
    have h5 := (R1.rc g hg c hc).cell (x * 2 + 1) (by omega)
    obtain ⟨g1, g2⟩ := cbF_end (n.C c) (y.ov c) x hx2
    rw [g1, hjp] at h4
    rw [g2, hjp] at h5
    exact ⟨h3, h4, h5⟩
   have HH : Hid _ := h
   have HT : Hid _ := hT
   have HOK : Hid _ := hok
   have HG : Hid _ := hg
   have HJP : Hid _ := hjp
   have HX : Hid _ := hx
   have HQ : Hid _ := hq
   have c9 := h.c9
   have hc' : (c : Int) < (n.nc : Int) := by omega
   have hc0 : (0 : Int) ≤ (c : Int) := by omega
   have hx' : (x : Int) < 2 := by omega
   have hx0 : (0 : Int) ≤ (x : Int) := by omega
   obtain ⟨nc, hnc⟩ : ∃ nc, n.nc = nc := ⟨_, rfl⟩
   rw [hnc] at HF hc' c9
   obtain ⟨YN, hYN⟩ : ∃ YN, y.N = YN := ⟨_, rfl⟩
   rw [hYN] at HF hh ⊢
   have HYN : Hid _ := hYN
   have HC : Hid (c < n.nc) := hc
   clear h hok hT hcv hgc hok1 hE hjp hnc hq hYN hc hg
   have F0 := HF.out w.drew (below_d w)
   have gl : g < w.drew.heap.size := World.block_lt_of_cell? _ _ F0.2.1
   have Nl : YN < w.drew.heap.size := World.block_lt_of_cell? _ _ F0.1
   have gne : g ≠ w.heap.size := by have : g < w.heap.size := gl; omega
   have Nne : YN ≠ w.heap.size := by have : YN < w.heap.size := Nl; omega
   go_enter Tryz.func101, Tryz.ntmps101
   go_wp2_with (fail)
   refine hh.mono ?_
   rintro e w1 ⟨rfl, rfl⟩
   clear hh
   go_wp2_with (fail)
   go_cut [9] (fun v wx => ∃ Y : Nat, v = .pointer (some ⟨Y, 0, none⟩) ∧ wx.cell? ⟨Y, 0, none⟩ = some (.int .i64 ((j : Int) + 1)) ∧ wx.cell? ⟨Y, 1, none⟩ = some (.int .i64 (p : Int)) ∧ Below w.heap.size w wx ∧ w.heap.size ≤ Y)
   case first =>
    go_region_held3 (fun x' => x'.cell? ⟨YN, 3, none⟩ = some (.slice (some ⟨g, 0, none⟩) nc cp) ∧ x'.cell? ⟨g, c * 7 + x * 2, none⟩ = some (.int .i64 ((j : Int) + 1)) ∧ x'.cell? ⟨g, c * 7 + x * 2 + 1, none⟩ = some (.int .i64 (p : Int)))
     (first | assumption | exact F0 | exact cell3_alloc F0 | exact cell3_set2 (cell3_alloc F0) Nne gne gne)
     (first | (go_at_call 156; refine (hot _).mono ?_; rintro e w1 ⟨rfl, rfl⟩))
    all_goals
     go_wp2_with (fail)
     go_meet
     have hB : Blk (w.alloc (.cells #[.int .i64 ((j : Int) + 1), .int .i64 (p : Int)] 192)).drew w.heap.size #[.int .i64 ((j : Int) + 1), .int .i64 (p : Int)] 192 := (Blk.new w _ _).drew
     exact ⟨_, rfl, hB.cell 0, hB.cell 1, below_drew (below_alloc _ _), Nat.le_refl _⟩
   case rest =>
    obtain ⟨Y, rfl, y0, y1, hb3, hY⟩ := hcut
    rename World => wx
    have R3 := HH.out.below hb3
    have hT3 : TabOk wx := TabOk.below (w := w) HT.out hb3
    have Yl := World.block_lt_of_cell? _ _ y0
    have hYn : ¬ y.all n.n Y := fun e => by
     have := HH.out.allLt e
     omega
    obtain ⟨n1, hn1⟩ : ∃ n1, n.setC c { n.C c with on := upN (n.C c).on k (((n.C c).on k).drop q) } = n1 := ⟨_, rfl⟩
    have hnn : n1.n = n.n := by rw [← hn1]; rfl
    have hncc : n1.nc = n.nc := by rw [← hn1]; rfl
    have hjn : j < n.n := by have := (HOK.out.en c x HC.out hx2).1; rw [HJP.out] at this; exact this
    have hjp' : (n.C c).e (1 - k) = (j, p) := by rw [HX.out]; exact HJP.out
    have hF3 := HF.out
    have FW : ∀ (W : World) (n' : NtM), n'.nc = n.nc → WentN wx W y n' n.n → W.cell? ⟨Y, 0, none⟩ = some (.int .i64 ((j : Int) + 1)) ∧ W.cell? ⟨Y, 1, none⟩ = some (.int .i64 (p : Int)) ∧ W.cell? ⟨YN, 3, none⟩ = some (.slice (some ⟨g, 0, none⟩) nc cp) := by
     intro W n' hn' hW
     have hk' := hW.kept.block Y Yl hYn
     refine ⟨(World.cell?_of_block (a := ⟨Y, 0, none⟩) hk').trans y0, (World.cell?_of_block (a := ⟨Y, 1, none⟩) hk').trans y1, ?_⟩
     have h3 := (hF3 wx hb3).1
     have k3 := R3.k3
     rw [HYN.out, h3] at k3
     have k4 := hW.k3
     rw [hn', ← Option.some.inj k3, HYN.out] at k4
     exact k4
    have FT : ∀ (b : Bool) (W : World), DelT wx y n n1 j (y.z j).R b W → W.cell? ⟨Y, 0, none⟩ = some (.int .i64 ((j : Int) + 1)) ∧ W.cell? ⟨Y, 1, none⟩ = some (.int .i64 (p : Int)) ∧ W.cell? ⟨YN, 3, none⟩ = some (.slice (some ⟨g, 0, none⟩) nc cp) := by
     intro b W hW
     refine FW W _ ?_ hW.1
     cases b
     · rfl
     · exact hncc
    have hat := fun (b : Bool) (W : World) (hW : DelT wx y n n1 j (y.z j).R b W) => delAt_any wx y n n1 j p (y.z j).R b W hnn hjn hW
    have htk := fun (W : World) (hW : DelT wx y n n1 j (y.z j).R false W) => delTake_any wx y n D c k g j (y.z j).R many W HOK.out HC.out hk HG.out n1 (by rw [HQ.out]; exact hn1) hW
    have hrc : ∀ (W : World), DelT wx y n n1 j (y.z j).R true W → Calls Tryz.prog 23 #[.pointer (some ⟨(y.z j).R, 0, none⟩), .int .i64 (p : Int), .string ⟨(((n.C c).on k).take q).toArray⟩] W fun e w' => e = .returned .nilIface ∧ WentN wx w' y (n.recvAt c k q) n.n ∧ (w'.cell? ⟨Y, 0, none⟩ = some (.int .i64 ((j : Int) + 1)) ∧ w'.cell? ⟨Y, 1, none⟩ = some (.int .i64 (p : Int)) ∧ w'.cell? ⟨YN, 3, none⟩ = some (.slice (some ⟨g, 0, none⟩) nc cp)) := by
     intro W hW
     refine (delRecv_any wx y n D c k j p (y.z j).R q W HOK.out hD R3 hT3 HC.out hk hjp' n1 hn1 hW).mono ?_
     rintro e w' ⟨rfl, hw⟩
     exact ⟨rfl, hw, FW w' (n.recvAt c k q) rfl hw⟩
    rw [HQ.out] at htk
    have t0 : DelT wx y n n1 j (y.z j).R false wx.drew := ⟨WentN.still R3 (below_d wx), (World.cell?_of_block (a := ⟨y.gR, j, none⟩) rfl).trans (R3.ptr hjn)⟩
    have F0 := FT _ _ t0
    have HB3 : Hid _ := hb3
    generalize (y.z j).R = RR at hat htk hrc t0 FT
    generalize (⟨(((n.C c).on k).take q).toArray⟩ : ByteArray) = sx at htk hrc
    obtain ⟨T, hTe⟩ : ∃ T, DelT wx y n n1 j RR = T := ⟨_, rfl⟩
    obtain ⟨T2, hT2e⟩ : ∃ T2 : World → Prop, (fun w' => WentN wx w' y (n.recvAt c k q) n.n) = T2 := ⟨_, rfl⟩
    have hT2' : ∀ x, WentN wx x y (n.recvAt c k q) n.n = T2 x := fun x => congrFun hT2e x
    have HT2 : Hid _ := hT2'
    simp only [hT2'] at hrc
    rw [hTe] at hat htk hrc t0 FT
    rw [HYN.out] at hat
    have Yl2 : Y < wx.drew.heap.size := Yl
    have cl2 := World.block_lt_of_cell? _ _ F0.2.2
    clear FW hn1 hnn hncc hF3 R3 hT3 hYn hTe hT2e hT2' hjp' y0 y1 hb3 F0 hot
    have F0 := FT _ _ t0
    go_wp2_with (fail)
    go_region_held3 (fun x' => x'.cell? ⟨Y, 0, none⟩ = some (.int .i64 ((j : Int) + 1)) ∧ x'.cell? ⟨Y, 1, none⟩ = some (.int .i64 (p : Int)) ∧ x'.cell? ⟨YN, 3, none⟩ = some (.slice (some ⟨g, 0, none⟩) nc cp))
     (first | assumption | exact F0 | exact F1 | exact F2 | exact F3)
     (first
       | (go_at_call 157; refine (hat _ _ (by assumption)).mono ?_; rintro e w1 ⟨rfl, t1⟩; have F1 := FT _ _ t1)
       | (go_at_call 158; refine (htk _ (by assumption)).mono ?_; rintro e w2 ⟨rfl, t2⟩; have F2 := FT _ _ t2)
       | (go_at_call 23; refine (hrc _ (by assumption)).mono ?_; rintro e w3 ⟨rfl, t3, F3⟩))
    all_goals
     have hW3 := t3
     rw [← HT2.out] at hW3
     have hg1 := hG.out _ (WentN.first HB3.out hW3)
     rw [HYN.out] at hg1
     clear hW3 hat htk hrc t0 t1 t2 t3 FT F0 F1 F2 F3
     go_wp2_with (fail)
     refine hg1.mono ?_
     rintro e w4 ⟨rfl, hw4⟩
     have HW : Hid _ := hw4
     clear hg1 hw4
     go_wp2_with (fail)
     go_ret
     exact ⟨rfl, HW.out⟩
end Rt
end Go.Proofs.YtieklnlbljejdaaGreatDoor
