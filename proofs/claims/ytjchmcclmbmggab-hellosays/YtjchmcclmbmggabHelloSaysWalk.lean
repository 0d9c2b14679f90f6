/-
  'HelloSays' returns true at every number, list of hellos, list of ticks and text, and changes nothing that was there.
-/
import Derived.Test.YtjchmcclmbmggabHelloWalk2
import Derived.Test.YtjchmcclmbmggabIntsIn
namespace Go.Proofs.Ytjchmcclmbmggab
open Go.RowKit
namespace helloSays

/-- The two who are heard. -/
structure In (w wx : World) (X : Nat) (p : Peer) : Prop where
  x : Blk wx X p.c 49
  m : Blk wx (X + 1) p.c 50
  l0 : 0 ≤ p.2.2
  l1 : p.2.2 ≤ 4
  b : Below w.heap.size w wx
  old : w.heap.size ≤ X
theorem In.below {w a b : World} {X : Nat} {p : Peer} (h : In w a X p) (k : Below a.heap.size a b) : In w b X p := ⟨h.x.below k, h.m.below k, h.l0, h.l1, below_chain h.b k, h.old⟩
theorem hear_le (me f s : Int) : 0 ≤ (hearP me f s).2.2 ∧ (hearP me f s).2.2 ≤ 4 := by unfold hearP; split <;> simp
theorem tick_le (p : Peer) (h0 : 0 ≤ p.2.2) (h1 : p.2.2 ≤ 4) : 0 ≤ (tickP p).2.2 ∧ (tickP p).2.2 ≤ 4 := by unfold tickP; split <;> simp <;> omega
theorem In.setX {w a : World} {X : Nat} {p : Peer} (h : In w a X p) (q : Peer) : Blk (((a.setCell ⟨X, 0, none⟩ (.int .i64 q.1)).setCell ⟨X, 1, none⟩ (.bool q.2.1)).setCell ⟨X, 2, none⟩ (.int .i64 q.2.2)) X q.c 49 ∧ Blk (((a.setCell ⟨X, 0, none⟩ (.int .i64 q.1)).setCell ⟨X, 1, none⟩ (.bool q.2.1)).setCell ⟨X, 2, none⟩ (.int .i64 q.2.2)) (X + 1) p.c 50 ∧ Below w.heap.size w (((a.setCell ⟨X, 0, none⟩ (.int .i64 q.1)).setCell ⟨X, 1, none⟩ (.bool q.2.1)).setCell ⟨X, 2, none⟩ (.int .i64 q.2.2)) :=
  have ho := h.old
  ⟨((h.x.set 0 _).set 1 _).set 2 _, ((h.m.other (by omega) _).other (by omega) _).other (by omega) _, ((h.b.setCell ho _).setCell ho _).setCell ho _⟩
theorem setM {w a : World} {X : Nat} {p q : Peer} (hx : Blk a X q.c 49) (hm : Blk a (X + 1) p.c 50) (hb : Below w.heap.size w a) (ho : w.heap.size ≤ X) (q0 : 0 ≤ q.2.2) (q1 : q.2.2 ≤ 4) :
    In w (((a.setCell ⟨X + 1, 0, none⟩ (.int .i64 q.1)).setCell ⟨X + 1, 1, none⟩ (.bool q.2.1)).setCell ⟨X + 1, 2, none⟩ (.int .i64 q.2.2)) X q :=
  ⟨((hx.other (by omega) _).other (by omega) _).other (by omega) _, ((hm.set 0 _).set 1 _).set 2 _, q0, q1, ((hb.setCell (by show _ ≤ X + 1; omega) _).setCell (by show _ ≤ X + 1; omega) _).setCell (by show _ ≤ X + 1; omega) _, ho⟩

theorem six {w x : World} {X : Nat} {p0 p2 : Int} {p1 : Bool} (h : In w x X (p0, p1, p2)) : x.cell? ⟨X, 0, none⟩ = some (.int .i64 p0) ∧ x.cell? ⟨X, 1, none⟩ = some (.bool p1) ∧ x.cell? ⟨X, 2, none⟩ = some (.int .i64 p2) ∧ x.cell? ⟨X + 1, 0, none⟩ = some (.int .i64 p0) ∧ x.cell? ⟨X + 1, 1, none⟩ = some (.bool p1) ∧ x.cell? ⟨X + 1, 2, none⟩ = some (.int .i64 p2) :=
  ⟨h.x.cell 0, h.x.cell 1, h.x.cell 2, h.m.cell 0, h.m.cell 1, h.m.cell 2⟩
def tV (f q : Int) : Value := if helB f q = true then .string ⟨#[St.u8 f, St.u8 q]⟩ else .string ByteArray.empty
def eV (f q : Int) : Value := if helB f q = true then .nilIface else .iface 111 (.int .i64 1)

set_option maxRecDepth 100000 in
set_option maxHeartbeats 8000000 in
theorem walk (me : Int) (a : Option Addr) (n cap : Nat) (hs : List Opt) (b : Option Addr) (m cap2 : Nat) (xs : List Int) (s : ByteArray) (w : World) (ho : OptR w a n hs) (hn : n ≤ maxLen) (hx : IntsR w b m xs) (hm : m ≤ maxLen) (hs0 : s.size ≤ maxLen) :
    Calls Try.prog 5 #[.int .i64 me, .slice a n cap, .slice b m cap2, .string s] w fun e w' => e = .returned (.bool true) ∧ Below w.heap.size w w' := by
  have hz := zeroPeer
  have hz2 := zeroHello
  have hz3 := zeroRPeer
  have h1 := hellos_true w
  unfold maxLen at hn hm hs0
  by_cases g1 : (30 : Int) < (n : Int)
  · go_enter Try.func5, Try.ntmps5
    go_wp2_with (fail)
    refine h1.mono ?_
    rintro e w1 ⟨rfl, k1⟩
    go_wp2_with (fail)
    go_ret
    exact ⟨rfl, k1⟩
  by_cases g2 : (30 : Int) < (m : Int)
  · go_enter Try.func5, Try.ntmps5
    go_wp2_with (fail)
    refine h1.mono ?_
    rintro e w1 ⟨rfl, k1⟩
    go_wp2_with (fail)
    go_ret
    exact ⟨rfl, k1⟩
  by_cases g3 : (20 : Int) < (s.size : Int)
  · go_enter Try.func5, Try.ntmps5
    go_wp2_with (fail)
    refine h1.mono ?_
    rintro e w1 ⟨rfl, k1⟩
    go_wp2_with (fail)
    go_ret
    exact ⟨rfl, k1⟩
  obtain ⟨⟨pf, ps, pe⟩, hP⟩ : ∃ P, helR s.data.toList = P := ⟨_, rfl⟩
  have hp1 := fun W => hparse_any s W
  have hp2 := fun W => hof_any s W
  rw [hP] at hp1 hp2
  simp only at hp1 hp2
  have e1 : (pf == pf) = true := by simp
  have e2 : (ps == ps) = true := by simp
  clear hP
  go_enter Try.func5, Try.ntmps5
  go_wp2_with (fail)
  refine h1.mono ?_
  rintro e w1 ⟨rfl, k1⟩
  go_wp2_with (fail)
  refine (hp1 _).mono ?_
  rintro e w2 ⟨rfl, k2⟩
  have k02 := below_chain k1 k2
  have hA := Blk.new w2 #[.int .i64 pf, .int .i64 ps] 42
  have k03 := k02.alloc k02.size (.cells #[.int .i64 pf, .int .i64 ps] 42)
  clear h1 hp1 k1 k2
  go_wp2_with (fail)
  refine (hp2 _).mono ?_
  rintro e w3 ⟨rfl, k3⟩
  have hA3 := hA.below k3
  have c0 : w3.cell? ⟨w2.heap.size, 0, none⟩ = some (.int .i64 pf) := hA3.cell 0
  have c1 : w3.cell? ⟨w2.heap.size, 1, none⟩ = some (.int .i64 ps) := hA3.cell 1
  have l3 := hA3.lt
  have k04 := below_chain k03 k3
  have k05 := k04.alloc k04.size (.cells #[.int .i64 pf, .int .i64 ps] 42)
  clear hp2 hA hA3 k03 k3 k02
  go_wp2_with (fail)
  refine (same_ok pe _).mono ?_
  rintro e w4 ⟨rfl, rfl⟩
  go_wp2_with (fail)
  obtain ⟨W0, hW0⟩ : ∃ W0, ((w3.alloc (.cells #[.int .i64 pf, .int .i64 ps] 42)).alloc (.cells #[.int .i64 0, .bool false, .int .i64 0] 49)).alloc (.cells #[.int .i64 0, .bool false, .int .i64 0] 50) = W0 := ⟨_, rfl⟩
  have hI0 : In w W0 (w3.heap.size + 1) (0, false, 0) := by
    rw [← hW0]
    refine ⟨(Blk.newN _ _ _ _ (by simp)).below (below_alloc _ _), Blk.newN _ _ _ _ (by simp), by decide, by decide, ?_, ?_⟩
    · exact (k05.alloc k05.size _).alloc (Nat.le_trans k05.size (by simp)) _
    · exact Nat.le_succ_of_le k04.size
  rw [hW0]
  obtain ⟨X, hX⟩ : ∃ X, w3.heap.size + 1 = X := ⟨_, rfl⟩
  rw [hX] at hI0
  rw [hX]
  clear hX hW0 k05 k04 c0 c1 l3 e1 e2
  go_loopw [16] (fun i wr => ∃ (k : Nat) (p : Peer), k ≤ n ∧ i = .int .i64 k ∧ In w wr X p) (fun i _ => n - (intOf i).toNat)
  case atStart => exact ⟨0, _, Nat.zero_le _, rfl, hI0⟩
  case round =>
    clear hI0
    obtain ⟨k, p, hk, rfl, hI⟩ := hrel
    by_cases hlt : k < n
    · have hor := ho.below hI.b
      rcases hor.2 with h0 | ⟨hb, off, rfl, hc⟩
      · omega
      have hlo : k < hs.length := by rw [ho.1]; exact hlt
      obtain ⟨d0, d1⟩ := hc k hlo
      generalize hs[k] = o at d0 d1
      obtain ⟨f, q⟩ := o
      simp only at d0 d1
      clear hc hor
      have hlt' : (k : Int) < (n : Int) := by omega
      obtain ⟨W1, hW1⟩ : ∃ W1, wr.alloc (.cells #[.int .i64 f, .int .i64 q] 42) = W1 := ⟨_, rfl⟩
      obtain ⟨Z, hZ⟩ : ∃ Z, wr.heap.size = Z := ⟨_, rfl⟩
      have hI1 : In w W1 X p := by rw [← hW1]; exact hI.below (below_alloc _ _)
      have hZ1 : Blk W1 Z #[.int .i64 f, .int .i64 q] 42 := by rw [← hW1, ← hZ]; exact Blk.new _ _ _
      have HW1 : Hid (wr.alloc (.cells #[.int .i64 f, .int .i64 q] 42) = W1) := hW1
      have HZ : Hid (wr.heap.size = Z) := hZ
      clear hW1 hZ
      go_upto_region 14 with fail
      rw [HW1.out, HZ.out]
      clear d0 d1 hI
      have z0 : W1.cell? ⟨Z, 0, none⟩ = some (.int .i64 f) := hZ1.cell 0
      have z1 : W1.cell? ⟨Z, 1, none⟩ = some (.int .i64 q) := hZ1.cell 1
      have zl := hZ1.lt
      go_cut [18, 19] (fun t e wx => t = tV f q ∧ e = eV f q ∧ In w wx X p ∧ Blk wx Z #[.int .i64 f, .int .i64 q] 42)
      case first =>
        cases hh : helB f q
        · have HT : Hid (tV f q = .string ByteArray.empty ∧ eV f q = .iface 111 (.int .i64 1)) := by show _ ∧ _; simp [tV, eV, hh]
          have hc := hbytes_bad f q W1 hh
          clear hh
          go_wp2_with (fail)
          refine hc.mono ?_
          rintro e w5 ⟨rfl, k5⟩
          clear hc
          go_wp2_with (fail)
          go_meet
          exact ⟨HT.out.1.symm, HT.out.2.symm, hI1.below k5, hZ1.below k5⟩
        · have HT : Hid (tV f q = .string ⟨#[St.u8 f, St.u8 q]⟩ ∧ eV f q = .nilIface) := by show _ ∧ _; simp [tV, eV, hh]
          have hc := hbytes_good f q W1 (by simp [helB] at hh; omega) (by simp [helB] at hh; omega) (by simp [helB] at hh; omega) (by simp [helB] at hh; omega) hh
          clear hh
          go_wp2_with (fail)
          refine hc.mono ?_
          rintro e w5 ⟨rfl, k5⟩
          clear hc
          go_wp2_with (fail)
          go_meet
          exact ⟨HT.out.1.symm, HT.out.2.symm, hI1.below k5, hZ1.below k5⟩
      case rest =>
      clear hI1 hZ1 z0 z1 zl
      obtain ⟨rfl, rfl, hI2, hZ2⟩ := hcut
      obtain ⟨W2, rfl⟩ : ∃ W2, W2 = wc := ⟨_, rfl⟩
      have z0 : W2.cell? ⟨Z, 0, none⟩ = some (.int .i64 f) := hZ2.cell 0
      have z1 : W2.cell? ⟨Z, 1, none⟩ = some (.int .i64 q) := hZ2.cell 1
      have zl := hZ2.lt
      go_upto_region 15 with fail
      go_cut [20] (fun v wx => v = .bool (helB f q) ∧ W2 = wx)
      case first =>
        refine helB_cases f q _ ?_ ?_ ?_ ?_ ?_
        all_goals
          intros
          rename_i hv
          have HV : Hid _ := hv
          clear hv
          go_wp2_with (fail)
          go_meet
          refine ⟨?_, rfl⟩
          first | (rw [HV.out]; done) | (rw [HV.out]; rfl) | (rw [HV.out]; simp; omega)
      case rest =>
      obtain ⟨rfl, rfl⟩ := hcut
      go_upto_region 16 with fail
      go_cut [18, 19, 20, 126] (fun _ _ _ v wx => v = .bool false ∧ In w wx X p ∧ Blk wx Z #[.int .i64 f, .int .i64 q] 42)
      case first =>
        cases hh : helB f q
        · have HT : tV f q = .string ByteArray.empty ∧ eV f q = .iface 111 (.int .i64 1) := by simp [tV, eV, hh]
          rw [HT.1, HT.2]
          clear HT hh
          have hsm := same_ok 1
          have e1 : errV 1 = .iface 111 (.int .i64 1) := rfl
          rw [e1] at hsm
          clear e1
          go_wp2_with (fail)
          refine (hsm _).mono ?_
          rintro e w6 ⟨rfl, rfl⟩
          go_wp2_with (fail)
          go_meet
          exact ⟨rfl, hI2, hZ2⟩
        · have HT : tV f q = .string ⟨#[St.u8 f, St.u8 q]⟩ ∧ eV f q = .nilIface := by simp [tV, eV, hh]
          have f1 : 1 ≤ f := by simp [helB] at hh; omega
          have f2 : f ≤ 6 := by simp [helB] at hh; omega
          have q1 : 0 ≤ q := by simp [helB] at hh; omega
          have q2 : q ≤ 6 := by simp [helB] at hh; omega
          rw [HT.1, HT.2]
          clear HT hh
          have hcv := fun W => conv2 W f q (by omega) (by omega) (by omega) (by omega)
          go_wp2_with (fail)
          go_meet
          exact ⟨by simp, hI2.below (below_alloc _ _), hZ2.below (below_alloc _ _)⟩
      case rest =>
      clear hI2 hZ2 z0 z1 zl
      obtain ⟨rfl, hI3, hZ3⟩ := hcut
      obtain ⟨W3, rfl⟩ : ∃ W3, W3 = wc := ⟨_, rfl⟩
      obtain ⟨p0, p1, p2⟩ := p
      have z0 : W3.cell? ⟨Z, 0, none⟩ = some (.int .i64 f) := hZ3.cell 0
      have z1 : W3.cell? ⟨Z, 1, none⟩ = some (.int .i64 q) := hZ3.cell 1
      have zl := hZ3.lt
      have x0 : W3.cell? ⟨X, 0, none⟩ = some (.int .i64 p0) := hI3.x.cell 0
      have x1 : W3.cell? ⟨X, 1, none⟩ = some (.bool p1) := hI3.x.cell 1
      have x2 : W3.cell? ⟨X, 2, none⟩ = some (.int .i64 p2) := hI3.x.cell 2
      have xl := hI3.m.lt
      have hle := hear_le me f q
      obtain ⟨H, hH⟩ : ∃ H, hearP me f q = H := ⟨_, rfl⟩
      have hh1 := hear_any p0 p2 me f q p1
      have hh2 := rhear_any p0 p2 me f q p1
      rw [hH] at hh1 hh2 hle
      clear hH
      go_wp2_with (fail)
      refine (hh1 _).mono ?_
      rintro e w6 ⟨rfl, k6⟩
      have hI6 := hI3.below k6
      have hZ6 := hZ3.below k6
      obtain ⟨s1, s2, s3⟩ := hI6.setX H
      have hzz : Z ≠ X := fun e => by
        subst e
        have h1 := hI3.x.cell 1
        rw [z1] at h1
        simp [Peer.c] at h1
      have hzz2 : Z ≠ X + 1 := fun e => by
        subst e
        have h1 := hI3.m.cell 1
        rw [z1] at h1
        simp [Peer.c] at h1
      have s4 : Blk (((w6.setCell ⟨X, 0, none⟩ (.int .i64 H.1)).setCell ⟨X, 1, none⟩ (.bool H.2.1)).setCell ⟨X, 2, none⟩ (.int .i64 H.2.2)) Z #[.int .i64 f, .int .i64 q] 42 := ((hZ6.other hzz _).other hzz _).other hzz _
      have y0 : w6.cell? ⟨X, 0, none⟩ = some (.int .i64 p0) := hI6.x.cell 0
      have y1 : w6.cell? ⟨X, 1, none⟩ = some (.bool p1) := hI6.x.cell 1
      have y2 : w6.cell? ⟨X, 2, none⟩ = some (.int .i64 p2) := hI6.x.cell 2
      have yf := hI6.x.frozen
      have yl := hI6.x.lt
      have hold := hI3.old
      clear hh1 x0 x1 x2 xl z0 z1 zl k6 hI3 hZ3 hZ6
      go_upto_region 19 with fail
      obtain ⟨W7, hW7⟩ : ∃ W7, (((w6.setCell ⟨X, 0, none⟩ (.int .i64 H.1)).setCell ⟨X, 1, none⟩ (.bool H.2.1)).setCell ⟨X, 2, none⟩ (.int .i64 H.2.2)) = W7 := ⟨_, rfl⟩
      rw [hW7] at s1 s2 s3 s4 ⊢
      clear hW7 y0 y1 y2 yf yl hI6
      have z0 : W7.cell? ⟨Z, 0, none⟩ = some (.int .i64 f) := s4.cell 0
      have z1 : W7.cell? ⟨Z, 1, none⟩ = some (.int .i64 q) := s4.cell 1
      have zl := s4.lt
      have m0 : W7.cell? ⟨X + 1, 0, none⟩ = some (.int .i64 p0) := s2.cell 0
      have m1 : W7.cell? ⟨X + 1, 1, none⟩ = some (.bool p1) := s2.cell 1
      have m2 : W7.cell? ⟨X + 1, 2, none⟩ = some (.int .i64 p2) := s2.cell 2
      have ml := s2.lt
      go_wp2_with (fail)
      refine (hh2 _).mono ?_
      rintro e w8 ⟨rfl, k8⟩
      have s1' := s1.below k8
      have s2' := s2.below k8
      have s3' := below_chain s3 k8
      have hI9 := setM s1' s2' s3' hold hle.1 hle.2
      have y0 : w8.cell? ⟨X + 1, 0, none⟩ = some (.int .i64 p0) := s2'.cell 0
      have y1 : w8.cell? ⟨X + 1, 1, none⟩ = some (.bool p1) := s2'.cell 1
      have y2 : w8.cell? ⟨X + 1, 2, none⟩ = some (.int .i64 p2) := s2'.cell 2
      have yf := s2'.frozen
      have yl := s2'.lt
      clear hh2 z0 z1 zl m0 m1 m2 ml k8 s1 s2 s3 s4
      go_upto_region 20 with fail
      obtain ⟨W9, hW9⟩ : ∃ W9, (((w8.setCell ⟨X + 1, 0, none⟩ (.int .i64 H.1)).setCell ⟨X + 1, 1, none⟩ (.bool H.2.1)).setCell ⟨X + 1, 2, none⟩ (.int .i64 H.2.2)) = W9 := ⟨_, rfl⟩
      rw [hW9] at hI9 ⊢
      clear hW9 y0 y1 y2 yf yl s1' s2' s3' hle
      go_wp2_with (fail)
      clear HW1 HZ
      obtain ⟨wo, rfl⟩ : ∃ wo, wo = wr := ⟨_, rfl⟩
      go_loopw [21] (fun j wr => ∃ (i : Nat) (p : Peer), i ≤ 9 ∧ j = .int .i64 i ∧ In w wr X p) (fun j _ => 9 - (intOf j).toNat)
      case atStart => exact ⟨0, _, Nat.zero_le _, rfl, hI9⟩
      case round =>
        clear hI9
        obtain ⟨i, ⟨p0, p1, p2⟩, hi, rfl, hI⟩ := hrel
        have x0 : wr.cell? ⟨X, 0, none⟩ = some (.int .i64 p0) := hI.x.cell 0
        have x1 : wr.cell? ⟨X, 1, none⟩ = some (.bool p1) := hI.x.cell 1
        have x2 : wr.cell? ⟨X, 2, none⟩ = some (.int .i64 p2) := hI.x.cell 2
        have m0 : wr.cell? ⟨X + 1, 0, none⟩ = some (.int .i64 p0) := hI.m.cell 0
        have m1 : wr.cell? ⟨X + 1, 1, none⟩ = some (.bool p1) := hI.m.cell 1
        have m2 : wr.cell? ⟨X + 1, 2, none⟩ = some (.int .i64 p2) := hI.m.cell 2
        have xl := hI.x.lt
        have ml := hI.m.lt
        have hxr := hx.below hI.b
        by_cases hgo : ∃ h : k < xs.length, (i : Int) < xs[k] ∧ (i : Int) < 9
        · obtain ⟨hkx, t1, t2⟩ := hgo
          rcases hxr.2 with h0 | ⟨tb, toff, rfl, hc⟩
          · have := hxr.1; omega
          have t3 := hc k hkx
          have hkm : (k : Int) < (m : Int) := by have := hxr.1; omega
          generalize xs[k] = tk at t1 t3
          clear hc hxr
          have hle := tick_le (p0, p1, p2) hI.l0 hI.l1
          have ht1 := tick_any p0 p2 p1 wr hI.l0 (by have := hI.l1; simp at this; omega)
          have ht2 := fun W => rtick_any p0 p2 p1 W hI.l0 (by have := hI.l1; simp at this; omega)
          obtain ⟨H2, hH2⟩ : ∃ H2, tickP (p0, p1, p2) = H2 := ⟨_, rfl⟩
          rw [hH2] at ht1 ht2 hle
          clear hH2
          go_wp2_with (fail)
          refine ht1.mono ?_
          rintro e w6 ⟨rfl, k6⟩
          have hI6 := hI.below k6
          obtain ⟨s1, s2, s3⟩ := hI6.setX H2
          have y0 : w6.cell? ⟨X, 0, none⟩ = some (.int .i64 p0) := hI6.x.cell 0
          have y1 : w6.cell? ⟨X, 1, none⟩ = some (.bool p1) := hI6.x.cell 1
          have y2 : w6.cell? ⟨X, 2, none⟩ = some (.int .i64 p2) := hI6.x.cell 2
          have yf := hI6.x.frozen
          have yl := hI6.x.lt
          have hold2 := hI.old
          clear ht1 x0 x1 x2 m0 m1 m2 xl ml k6 hI t3
          go_upto_region 24 with fail
          obtain ⟨W7, hW7⟩ : ∃ W7, (((w6.setCell ⟨X, 0, none⟩ (.int .i64 H2.1)).setCell ⟨X, 1, none⟩ (.bool H2.2.1)).setCell ⟨X, 2, none⟩ (.int .i64 H2.2.2)) = W7 := ⟨_, rfl⟩
          rw [hW7] at s1 s2 s3 ⊢
          clear hW7 y0 y1 y2 yf yl hI6
          have m0 : W7.cell? ⟨X + 1, 0, none⟩ = some (.int .i64 p0) := s2.cell 0
          have m1 : W7.cell? ⟨X + 1, 1, none⟩ = some (.bool p1) := s2.cell 1
          have m2 : W7.cell? ⟨X + 1, 2, none⟩ = some (.int .i64 p2) := s2.cell 2
          have ml := s2.lt
          go_wp2_with (fail)
          refine (ht2 _).mono ?_
          rintro e w8 ⟨rfl, k8⟩
          have s1' := s1.below k8
          have s2' := s2.below k8
          have s3' := below_chain s3 k8
          have hI9 := setM s1' s2' s3' hold2 hle.1 hle.2
          have y0 : w8.cell? ⟨X + 1, 0, none⟩ = some (.int .i64 p0) := s2'.cell 0
          have y1 : w8.cell? ⟨X + 1, 1, none⟩ = some (.bool p1) := s2'.cell 1
          have y2 : w8.cell? ⟨X + 1, 2, none⟩ = some (.int .i64 p2) := s2'.cell 2
          have yf := s2'.frozen
          have yl := s2'.lt
          clear ht2 m0 m1 m2 ml k8 s1 s2 s3 s1' s2' s3'
          go_wp2_with (fail)
          go_roundw
          case rel => exact ⟨i + 1, H2, by omega, by go_num, hI9⟩
          case measure => simp [intOf]; omega
        · have KD : Below wr.heap.size wr wr.drew := below_drew (Below.refl _ _)
          have F0 := six (hI.below KD)
          have q0 : (p0 != p0) = false := by simp
          have q1 : (p1 != p1) = false := by simp
          have q2 : (p2 != p2) = false := by simp
          have r0 : (me != me) = false := by simp
          have r1 : (me == me) = true := by simp
          have r2 : (p0 == p0) = true := by simp
          have main : ∀ (Q : Prop), (¬ (k : Int) < (m : Int) → Q) → ((k : Int) < (m : Int) → ∀ (tb toff : Nat) (tk : Int), b = some ⟨tb, toff, none⟩ → wr.cell? ⟨tb, toff + k, none⟩ = some (.int .i64 tk) → ¬ (i : Int) < tk → Q) → ((k : Int) < (m : Int) → ∀ (tb toff : Nat) (tk : Int), b = some ⟨tb, toff, none⟩ → wr.cell? ⟨tb, toff + k, none⟩ = some (.int .i64 tk) → (i : Int) < tk → ¬ (i : Int) < 9 → Q) → Q := by
            intro Q a1 a2 a3
            have hxl := hxr.1
            by_cases h1 : (k : Int) < (m : Int)
            · rcases hxr.2 with h0 | ⟨tb, toff, rfl, hc⟩
              · omega
              have hkx : k < xs.length := by omega
              have t3 := hc k hkx
              by_cases h2 : (i : Int) < xs[k]
              · exact a3 h1 tb toff _ rfl t3 h2 (fun h3 => hgo ⟨hkx, h2, h3⟩)
              · exact a2 h1 tb toff _ rfl t3 h2
            · exact a1 h1
          clear hgo hxr
          refine main _ ?_ ?_ ?_ <;> clear main
          · intro h1
            go_wp2_with (fail)
            go_region_held3 (fun x => x.cell? ⟨X, 0, none⟩ = some (.int .i64 p0) ∧ x.cell? ⟨X, 1, none⟩ = some (.bool p1) ∧ x.cell? ⟨X, 2, none⟩ = some (.int .i64 p2) ∧ x.cell? ⟨X + 1, 0, none⟩ = some (.int .i64 p0) ∧ x.cell? ⟨X + 1, 1, none⟩ = some (.bool p1) ∧ x.cell? ⟨X + 1, 2, none⟩ = some (.int .i64 p2))
              (first | assumption | exact F0 | exact F1)
              ((go_at_call 26; refine (says_any p0 p2 me p1 _).mono ?_; rintro e w5 ⟨rfl, k5⟩; have F1 := six (hI.below (below_chain KD k5))))
            all_goals
              have hI5 := hI.below (below_chain KD k5)
              go_wp2_with (fail)
              go_roundw
              case rel => exact ⟨k + 1, _, by omega, by go_num, hI5⟩
              case measure => simp [intOf]; omega
          · intro h1 tb toff tk e1 h2 h3
            subst e1
            go_wp2_with (fail)
            go_region_held3 (fun x => x.cell? ⟨X, 0, none⟩ = some (.int .i64 p0) ∧ x.cell? ⟨X, 1, none⟩ = some (.bool p1) ∧ x.cell? ⟨X, 2, none⟩ = some (.int .i64 p2) ∧ x.cell? ⟨X + 1, 0, none⟩ = some (.int .i64 p0) ∧ x.cell? ⟨X + 1, 1, none⟩ = some (.bool p1) ∧ x.cell? ⟨X + 1, 2, none⟩ = some (.int .i64 p2))
              (first | assumption | exact F0 | exact F1)
              ((go_at_call 26; refine (says_any p0 p2 me p1 _).mono ?_; rintro e w5 ⟨rfl, k5⟩; have F1 := six (hI.below (below_chain KD k5))))
            all_goals
              have hI5 := hI.below (below_chain KD k5)
              go_wp2_with (fail)
              go_roundw
              case rel => exact ⟨k + 1, _, by omega, by go_num, hI5⟩
              case measure => simp [intOf]; omega
          · intro h1 tb toff tk e1 h2 h3 h4
            subst e1
            go_wp2_with (fail)
            go_region_held3 (fun x => x.cell? ⟨X, 0, none⟩ = some (.int .i64 p0) ∧ x.cell? ⟨X, 1, none⟩ = some (.bool p1) ∧ x.cell? ⟨X, 2, none⟩ = some (.int .i64 p2) ∧ x.cell? ⟨X + 1, 0, none⟩ = some (.int .i64 p0) ∧ x.cell? ⟨X + 1, 1, none⟩ = some (.bool p1) ∧ x.cell? ⟨X + 1, 2, none⟩ = some (.int .i64 p2))
              (first | assumption | exact F0 | exact F1)
              ((go_at_call 26; refine (says_any p0 p2 me p1 _).mono ?_; rintro e w5 ⟨rfl, k5⟩; have F1 := six (hI.below (below_chain KD k5))))
            all_goals
              have hI5 := hI.below (below_chain KD k5)
              go_wp2_with (fail)
              go_roundw
              case rel => exact ⟨k + 1, _, by omega, by go_num, hI5⟩
              case measure => simp [intOf]; omega
    · go_wp2_with (fail)
      go_ret
      exact ⟨rfl, hI.b⟩
end helloSays
end Go.Proofs.Ytjchmcclmbmggab
