/-
  ActsIn Acts2 HelloWalk HelloWalk2
-/
import Derived.Test.YtieklnlbljejdaaGreatDoorG00
import Derived.Test.YtieklnlbljejdaaGreatDoorG03
import Derived.Test.YtieklnlbljejdaaGreatDoorG08
import Derived.Test.YtieklnlbljejdaaGreatDoorG09
import Derived.Deep.DeepCutAuto
namespace Go.Proofs.YtieklnlbljejdaaGreatDoor
open Go.RowKit St
open Go.ChangeShapes Go.WideShapes Go.ChangeAt
structure AV where
 kind : ByteArray
 a : Int
 b : Int
 c : Int
 d : Int
 s : ByteArray
 pcode : Int
 pid : Int
 po : Option Addr
 pn : Nat
 pcap : Nat
 x : SV
instance : Inhabited AV := ⟨⟨ByteArray.empty, 0, 0, 0, 0, ByteArray.empty, 0, 0, none, 0, 0, SV.zero⟩⟩
def AV.at_ (v : AV) (w : World) (b o : Nat) : Prop :=
 w.cell? ⟨b, o, none⟩ = some (.string v.kind) ∧ w.cell? ⟨b, o + 1, none⟩ = some (.int .i64 v.a) ∧ w.cell? ⟨b, o + 2, none⟩ = some (.int .i64 v.b) ∧ w.cell? ⟨b, o + 3, none⟩ = some (.int .i64 v.c) ∧ w.cell? ⟨b, o + 4, none⟩ = some (.int .i64 v.d) ∧ w.cell? ⟨b, o + 5, none⟩ = some (.string v.s) ∧
 w.cell? ⟨b, o + 6, none⟩ = some (.int .i64 v.pcode) ∧ w.cell? ⟨b, o + 7, none⟩ = some (.int .i64 v.pid) ∧ w.cell? ⟨b, o + 8, none⟩ = some (.slice v.po v.pn v.pcap) ∧
 w.cell? ⟨b, o + 9, none⟩ = some (.int .i64 v.x.own) ∧ w.cell? ⟨b, o + 10, none⟩ = some (.int .i64 v.x.seq) ∧ w.cell? ⟨b, o + 11, none⟩ = some (.slice v.x.a v.x.n v.x.cap)
structure ActsR (w : World) (a : Option Addr) (n : Nat) (V : Nat → AV) (E : Nat → List Opt) : Prop where
 row : n = 0 ∨ ∃ b off, a = some ⟨b, off, none⟩ ∧ ∀ j, j < n → (V j).at_ w b (off + j * 12)
 opt : ∀ j, j < n → OptR w (V j).x.a (V j).x.n (E j) ∧ NilOk (V j).x.a (V j).x.cap ∧ (V j).x.n ≤ maxLen ∧ (V j).pn ≤ maxLen
 pk : ∀ j, j < n → ∃ os : List Opt, OptR w (V j).po (V j).pn os ∧ NilOk (V j).po (V j).pcap ∧ (V j).pn ≤ (V j).pcap
theorem AV.at_.below {v : AV} {w w' : World} {b o : Nat} (h : v.at_ w b o) (hb : Below w.heap.size w w') : v.at_ w' b o := by
 obtain ⟨c0, c1, c2, c3, c4, c5, c6, c7, c8, c9, c10, c11⟩ := h
 have l := World.block_lt_of_cell? w _ c0
 have k : ∀ i u, w.cell? ⟨b, i, none⟩ = some u → w'.cell? ⟨b, i, none⟩ = some u := fun i u hu => (hb.cell (p := ⟨b, i, none⟩) l).trans hu
 exact ⟨k _ _ c0, k _ _ c1, k _ _ c2, k _ _ c3, k _ _ c4, k _ _ c5, k _ _ c6, k _ _ c7, k _ _ c8, k _ _ c9, k _ _ c10, k _ _ c11⟩
theorem ActsR.below {w w' : World} {a : Option Addr} {n : Nat} {V : Nat → AV} {E : Nat → List Opt} (h : ActsR w a n V E) (hb : Below w.heap.size w w') : ActsR w' a n V E := by
 refine ⟨?_, fun j hj => ⟨(h.opt j hj).1.below hb, (h.opt j hj).2⟩, fun j hj => by obtain ⟨os, o1, o2⟩ := h.pk j hj; exact ⟨os, o1.below hb, o2⟩⟩
 rcases h.row with h2 | ⟨b, off, rfl, h2⟩
 · exact .inl h2
 · exact .inr ⟨b, off, rfl, fun j hj => (h2 j hj).below hb⟩
theorem open_slice_any {H : Type} {enc : TypeId × Value → H} {W : World} {m : Nat} {t e : TypeId} {v : Value} {y : DataW H × List MemPlace} (ht : Tryz.prog.underlying t = some (.slice e))
 (h2 : DataW.trod enc Tryz.prog W 0 (fun _ => true) true m t [v] = some y) : ∃ (a : Option Addr) (n cap : Nat), v = .slice a n cap ∧ n ≤ maxLen ∧ n ≤ cap := by
 rcases Go.Deep.open_slice ht h2 with ⟨hcs, _⟩ | ⟨a, len, cap, m', n', D, Pl, hcs, _, hl, hm, _, _, _⟩
 · simp at hcs
   subst hcs
   exact ⟨none, 0, 0, rfl, by decide, Nat.le_refl _⟩
 · simp at hcs
   subst hcs
   exact ⟨some a, len, cap, rfl, by omega, hl⟩
set_option maxRecDepth 100000 in
set_option maxHeartbeats 4000000 in
theorem open_acts {H : Type} {enc : TypeId × Value → H} {W : World} {a : Option Addr} {n cap : Nat} {d : DataW H} {ps : List MemPlace}
 (h : DataW.Trod enc Tryz.prog W 0 (fun _ => true) true 23 (.slice a n cap) d ps) :
 ∃ (V : Nat → AV) (E : Nat → List Opt), ActsR W a n V E ∧ n ≤ maxLen := by
 obtain ⟨fuel, hf⟩ := h
 rcases Go.Deep.open_slice Tryz.underlying23 hf with ⟨hcs, _⟩ | ⟨x, len, cp, m', n', D, Pl, hcs, _, hl, hm, hmm, _, hx⟩
 · simp [Value.cells] at hcs
   obtain ⟨rfl, rfl, rfl⟩ := hcs
   exact ⟨fun _ => default, fun _ => [], ⟨.inl rfl, fun j hj => by omega, fun j hj => by omega⟩, by decide⟩
 · simp [Value.cells] at hcs
   obtain ⟨rfl, rfl, rfl⟩ := hcs
   simp at hmm
   have ce : (Tryz.prog).cellsOf 42 = 12 := by kernel_rfl
   rw [ce] at hx
   have each : ∀ i, i < n → ∃ q : AV × List Opt, (∀ b off, x = ⟨b, off, none⟩ → q.1.at_ W b (off + i * 12)) ∧ (W.cell? (x.add (i * 12))).isSome = true ∧ OptR W q.1.x.a q.1.x.n q.2 ∧ NilOk q.1.x.a q.1.x.cap ∧ q.1.x.n ≤ maxLen ∧ q.1.pn ≤ maxLen ∧ ∃ os : List Opt, OptR W q.1.po q.1.pn os ∧ NilOk q.1.po q.1.pcap ∧ q.1.pn ≤ q.1.pcap := by
    intro i hi
    obtain ⟨cs', h1, h2⟩ := hx i (by omega)
    obtain ⟨_, hlen, hcell⟩ := World.cells?_some h1
    obtain ⟨xs, k, hk, hxy, _, hxl, hff⟩ := DataW.trod_struct Tryz.underlying42 h2
    match xs, hxl, cs', hlen with
    | [y0, y1, y2, y3, y4, y5, y6, y7], _, [v0, v1, v2, v3, v4, v5, v6, v7, v8, v9, v10, v11], _ =>
      have g0 := hff 0 _ rfl
      have g1 := hff 1 _ rfl
      have g2 := hff 2 _ rfl
      have g3 := hff 3 _ rfl
      have g4 := hff 4 _ rfl
      have g5 := hff 5 _ rfl
      have g6 := hff 6 _ rfl
      have g7 := hff 7 _ rfl
      have ci : (Tryz.prog).cellsOf 3 = 1 := by kernel_rfl
      have cstr : (Tryz.prog).cellsOf 9 = 1 := by kernel_rfl
      have cp3 : (Tryz.prog).cellsOf 37 = 3 := by kernel_rfl
      have cx3 : (Tryz.prog).cellsOf 40 = 3 := by kernel_rfl
      have cse : (Tryz.prog).cellsOf 38 = 1 := by kernel_rfl
      have cso : (Tryz.prog).cellsOf 35 = 1 := by kernel_rfl
      simp [ci, cstr, cp3, cx3] at g0 g1 g2 g3 g4 g5 g6 g7
      obtain ⟨s0, f0, _, _⟩ := DataW.trod_string Tryz.underlying9 g0
      obtain ⟨i1, f1, _, _⟩ := DataW.trod_int Tryz.underlying3 g1
      obtain ⟨i2, f2, _, _⟩ := DataW.trod_int Tryz.underlying3 g2
      obtain ⟨i3, f3, _, _⟩ := DataW.trod_int Tryz.underlying3 g3
      obtain ⟨i4, f4, _, _⟩ := DataW.trod_int Tryz.underlying3 g4
      obtain ⟨s5, f5, _, _⟩ := DataW.trod_string Tryz.underlying9 g5
      obtain ⟨xp, kp, _, _, _, hxpl, hfp⟩ := DataW.trod_struct Tryz.underlying37 g6
      obtain ⟨xq, kq, _, _, _, hxql, hfq⟩ := DataW.trod_struct Tryz.underlying40 g7
      match xp, hxpl, xq, hxql with
      | [p0, p1, p2], _, [z0, z1, z2], _ =>
        have e0 := hfp 0 _ rfl
        have e1 := hfp 1 _ rfl
        have e2 := hfp 2 _ rfl
        have e3 := hfq 0 _ rfl
        have e4 := hfq 1 _ rfl
        have e5 := hfq 2 _ rfl
        simp [ci, cse, cso] at e0 e1 e2 e3 e4 e5
        obtain ⟨i6, f6, _, _⟩ := DataW.trod_int Tryz.underlying3 e0
        obtain ⟨i7, f7, _, _⟩ := DataW.trod_int Tryz.underlying3 e1
        obtain ⟨pa, pn, pcap, f8, hpn, hpc⟩ := open_slice_any Tryz.underlying35 e2
        obtain ⟨i9, f9, _, _⟩ := DataW.trod_int Tryz.underlying3 e3
        obtain ⟨i10, f10, _, _⟩ := DataW.trod_int Tryz.underlying3 e4
        obtain ⟨ea, en, ec, es, f11, eo, ez, em⟩ := open_edges e5
        simp at f0 f1 f2 f3 f4 f5 f6 f7 f9 f10
        subst f0 f1 f2 f3 f4 f5 f6 f7 f8 f9 f10 f11
        obtain ⟨pos, po1, po2, _⟩ := open_opts (a := pa) (n := pn) (cap := pcap) (W := W) ⟨_, e2⟩
        have hc0 := hcell 0 (by omega)
        rw [Go.Deep.add_add] at hc0
        refine ⟨(⟨s0, i1, i2, i3, i4, s5, i6, i7, pa, pn, pcap, ⟨i9, i10, ea, en, ec⟩⟩, es), fun b off he => ?_, by rw [show i * 12 + 0 = i * 12 by omega] at hc0; rw [hc0]; rfl, eo, ez, em, hpn, pos, po1, po2, hpc⟩
        subst he
        have c := fun j (hj : j < 12) => hcell j hj
        simp only [add_plain'] at c
        have r : ∀ j, off + i * 12 + j = off + (i * 12) + j := fun j => rfl
        exact ⟨c 0 (by omega), c 1 (by omega), c 2 (by omega), c 3 (by omega), c 4 (by omega), c 5 (by omega), c 6 (by omega), c 7 (by omega), c 8 (by omega), c 9 (by omega), c 10 (by omega), c 11 (by omega)⟩
   obtain ⟨q, hq⟩ := Go.Deep.choose_lt each
   refine ⟨fun i => (q i).1, fun i => (q i).2, ⟨?_, fun j hj => ⟨(hq j hj).2.2.1, (hq j hj).2.2.2.1, (hq j hj).2.2.2.2.1, (hq j hj).2.2.2.2.2.1⟩, fun j hj => (hq j hj).2.2.2.2.2.2⟩, by omega⟩
   by_cases h0 : n = 0
   · exact .inl h0
   · obtain ⟨b, off, spot⟩ := x
     obtain ⟨u, hu⟩ := Option.isSome_iff_exists.1 (hq 0 (by omega)).2.1
     have hspot : spot = none := by simpa [Addr.add] using World.cell?_spot hu
     subst hspot
     exact .inr ⟨b, off, rfl, fun j hj => (hq j hj).1 b off rfl⟩
end Go.Proofs.YtieklnlbljejdaaGreatDoor

namespace Go.Proofs.YtieklnlbljejdaaGreatDoor
open Go.RowKit St
set_option maxRecDepth 100000 in
theorem lightPacket_any (c i : Int) (a : Option Addr) (n cap : Nat) (w : World) :
 Calls Tryz.prog 65 #[.agg #[.int .i64 c, .int .i64 i, .slice a n cap]] w fun e w' => e = .returned (.bool (decide ((n : Int) ≤ 12))) ∧ Below w.heap.size w w' := by
 go_enter Tryz.func65, Tryz.ntmps65
 go_wp2_with (fail)
 go_ret
 exact ⟨rfl, (Below.refl _ _).alloc (Nat.le_refl _) _⟩
set_option maxRecDepth 100000 in
set_option maxHeartbeats 4000000 in
theorem lightActs_all (a : Option Addr) (n cap : Nat) (V : Nat → AV) (E : Nat → List Opt) (most : Int) (w : World) (h : ActsR w a n V E) (hm : most ≤ 1000) :
 Calls Tryz.prog 16 #[.slice a n cap, .int .i64 most] w fun e w' => (∃ b : Bool, e = .returned (.bool b) ∧ (b = true → (n : Int) ≤ most ∧ ∀ j, j < n → (V j).x.n ≤ 9 ∧ (V j).pn ≤ 12 ∧ (V j).s.size ≤ 200)) ∧ Below w.heap.size w w' := by
 by_cases h0 : most < (n : Int)
 · go_enter Tryz.func16, Tryz.ntmps16
   go_wp2_with (fail)
   go_ret
   exact ⟨⟨false, rfl, fun h => by cases h⟩, Below.refl _ _⟩
 go_enter Tryz.func16, Tryz.ntmps16
 go_wp2_with (fail)
 go_loopw [5] (fun i wr => ∃ k : Nat, k ≤ n ∧ i = .int .i64 k ∧ (∀ j, j < k → (V j).x.n ≤ 9 ∧ (V j).pn ≤ 12 ∧ (V j).s.size ≤ 200) ∧ Below w.heap.size w wr) (fun i _ => n - (intOf i).toNat)
 case atStart => exact ⟨0, Nat.zero_le _, rfl, fun j hj => by omega, Below.refl _ _⟩
 case round =>
  obtain ⟨k, hk, rfl, hA, hbel⟩ := hrel
  have HA : Hid _ := hA
  clear hA
  by_cases hlt : k < n
  · have hlt' : (k : Int) < (n : Int) := by omega
    obtain ⟨_, _, hxn, hpn⟩ := h.opt k hlt
    rcases h.row with h1 | ⟨b, off, rfl, hcs⟩
    · omega
    have HAT : Hid (∀ W, Below w.heap.size w W → (V k).at_ W b (off + k * 12)) := fun W hW => (hcs k hlt).below hW
    obtain ⟨v, hv⟩ : ∃ v, V k = v := ⟨_, rfl⟩
    rw [hv] at HAT hxn hpn
    have HVk : Hid _ := hv
    obtain ⟨vk, va, vb, vc, vd, vs, vpc, vpi, vpo, vpn, vpcap, vx⟩ := v
    obtain ⟨xo, xq, xa, xn, xc⟩ := vx
    simp only at hxn hpn
    obtain ⟨c0, c1, c2, c3, c4, c5, c6, c7, c8, c9, c10, c11⟩ := HAT.out wr hbel
    simp only at c5 c6 c7 c8 c11
    have hlp := lightPacket_any vpc vpi vpo vpn vpcap wr
    unfold maxLen at hxn hpn
    have HB : Hid _ := hbel
    clear hcs hv hbel c0 c1 c2 c3 c4 c9 c10
    by_cases hs : 200 < (vs.size : Int)
    · go_wp2_with (fail)
      go_ret
      exact ⟨⟨false, rfl, fun h => by cases h⟩, HB.out⟩
    · by_cases hp : (vpn : Int) ≤ 12
      · rw [decide_eq_true hp] at hlp
        go_wp2_with (fail)
        refine hlp.mono ?_
        rintro e w1 ⟨rfl, k1⟩
        have hb1 := below_chain HB.out k1
        obtain ⟨_, _, _, _, _, _, _, _, _, _, _, d11⟩ := HAT.out w1 hb1
        simp only at d11
        have HB1 : Hid _ := hb1
        clear hlp k1 hb1 c5 c6 c7 c8 c11
        by_cases h9 : 9 < (xn : Int)
        · go_wp2_with (fail)
          go_ret
          exact ⟨⟨false, rfl, fun h => by cases h⟩, HB1.out⟩
        · go_wp2_with (fail)
          go_roundw
          case rel =>
           refine ⟨k + 1, by omega, by go_num, fun j hj => ?_, HB1.out⟩
           by_cases hjk : j = k
           · rw [hjk, HVk.out]
             show xn ≤ 9 ∧ vpn ≤ 12 ∧ vs.size ≤ 200
             omega
           · exact HA.out j (by omega)
          case measure => simp [intOf]; omega
      · rw [decide_eq_false hp] at hlp
        go_wp2_with (fail)
        refine hlp.mono ?_
        rintro e w1 ⟨rfl, k1⟩
        have HB1 : Hid _ := below_chain HB.out k1
        clear hlp k1
        go_wp2_with (fail)
        go_ret
        exact ⟨⟨false, rfl, fun h => by cases h⟩, HB1.out⟩
  · have hge : ¬ (k : Int) < (n : Int) := by omega
    go_wp2_with (fail)
    go_ret
    first | exact ⟨.inr ⟨rfl, fun j hj => HA.out j (by omega)⟩, hbel⟩ | exact ⟨⟨true, rfl, fun _ => ⟨by omega, fun j hj => HA.out j (by omega)⟩⟩, hbel⟩ | exact ⟨.inr ⟨rfl, by omega, fun j hj => HA.out j (by omega)⟩, hbel⟩
end Go.Proofs.YtieklnlbljejdaaGreatDoor

namespace Go.Proofs.YtieklnlbljejdaaGreatDoor
open Go.RowKit
theorem Blk.drew {w : World} {B : Nat} {C : Array Value} {t : TypeId} (h : Blk w B C t) : Blk w.drew B C t := h
abbrev Peer := Int × Bool × Int
def hearP (me f s : Int) : Peer := if f = me then (0, false, 0) else (f, s == me, 4)
def tickP (p : Peer) : Peer := if p.2.2 ≤ 1 then (0, false, 0) else (p.1, p.2.1, p.2.2 - 1)
theorem zeroPeer (w : World) : (zeroValue 116).run Tryz.prog w = .ok (.agg #[.int .i64 0, .bool false, .int .i64 0]) w := by kernel_rfl
theorem zeroHello (w : World) : (zeroValue 230).run Tryz.prog w = .ok (.agg #[.int .i64 0, .int .i64 0]) w := by kernel_rfl
set_option maxRecDepth 100000 in
theorem hear_any (a c me f s : Int) (b : Bool) (w : World) : Calls Tryz.prog 187 #[.agg #[.int .i64 a, .bool b, .int .i64 c], .int .i64 me, .agg #[.int .i64 f, .int .i64 s]] w fun e w' =>
 e = .returned (.agg #[.int .i64 (hearP me f s).1, .bool (hearP me f s).2.1, .int .i64 (hearP me f s).2.2]) ∧ Below w.heap.size w w' := by
 have hz := zeroPeer
 have hb : ∀ (A B C : Array Value) (t u v : TypeId), Below w.heap.size w (((w.alloc (.cells A t)).alloc (.cells B u)).alloc (.cells C v)) := fun A B C t u v => ((below_alloc _ _).alloc (by simp) _).alloc (by simp; omega) _
 cases q : (f == me)
 · have hv : hearP me f s = (f, s == me, 4) := by simp at q; simp [hearP, q]
   rw [hv]
   clear hv
   go_enter Tryz.func187, Tryz.ntmps187
   go_wp2
   refine bodyPost_ret (v := .agg #[.int .i64 f, .bool (s == me), .int .i64 4]) (by simp [results, Tryz.results187, go_sem]) rfl ?_
   exact ⟨rfl, hb _ _ _ _ _ _⟩
 · have hv : hearP me f s = (0, false, 0) := by simp at q; simp [hearP, q]
   rw [hv]
   clear hv
   go_enter Tryz.func187, Tryz.ntmps187
   go_wp2
   refine bodyPost_ret (v := .agg #[.int .i64 0, .bool false, .int .i64 0]) (by simp [results, Tryz.results187, go_sem]) rfl ?_
   exact ⟨rfl, hb _ _ _ _ _ _⟩
set_option maxRecDepth 100000 in
theorem tick_any (a c : Int) (b : Bool) (w : World) (hc : 0 ≤ c) (hc2 : c ≤ 100) : Calls Tryz.prog 84 #[.agg #[.int .i64 a, .bool b, .int .i64 c]] w fun e w' =>
 e = .returned (.agg #[.int .i64 (tickP (a, b, c)).1, .bool (tickP (a, b, c)).2.1, .int .i64 (tickP (a, b, c)).2.2]) ∧ Below w.heap.size w w' := by
 have hz := zeroPeer
 have hb : ∀ (A B : Array Value) (t u : TypeId), Below w.heap.size w ((w.alloc (.cells A t)).alloc (.cells B u)) := fun A B t u => (below_alloc _ _).alloc (by simp) _
 by_cases q : c ≤ 1
 · have hv : tickP (a, b, c) = (0, false, 0) := by simp [tickP, q]
   rw [hv]
   clear hv
   go_enter Tryz.func84, Tryz.ntmps84
   go_wp2
   refine bodyPost_ret (v := .agg #[.int .i64 0, .bool false, .int .i64 0]) (by simp [results, Tryz.results84, go_sem]) rfl ?_
   exact ⟨rfl, hb _ _ _ _⟩
 · have hv : tickP (a, b, c) = (a, b, c - 1) := by simp [tickP, q]
   rw [hv]
   clear hv
   go_enter Tryz.func84, Tryz.ntmps84
   go_wp2
   refine bodyPost_ret (v := .agg #[.int .i64 a, .bool b, .int .i64 (c - 1)]) (by simp [results, Tryz.results84, go_sem]) rfl ?_
   exact ⟨rfl, hb _ _ _ _⟩
set_option maxRecDepth 100000 in
theorem says_any (a c me : Int) (b : Bool) (w : World) : Calls Tryz.prog 149 #[.agg #[.int .i64 a, .bool b, .int .i64 c], .int .i64 me] w fun e w' =>
 e = .returned (.agg #[.int .i64 me, .int .i64 a]) ∧ Below w.heap.size w w' := by
 have hz := zeroHello
 have hb : ∀ (A B : Array Value) (t u : TypeId), Below w.heap.size w ((w.alloc (.cells A t)).alloc (.cells B u)) := fun A B t u => (below_alloc _ _).alloc (by simp) _
 go_enter Tryz.func149, Tryz.ntmps149
 go_wp2
 refine bodyPost_ret (v := .agg #[.int .i64 me, .int .i64 a]) (by simp [results, Tryz.results149, go_sem]) rfl ?_
 exact ⟨rfl, hb _ _ _ _⟩
end Go.Proofs.YtieklnlbljejdaaGreatDoor

namespace Go.Proofs.YtieklnlbljejdaaGreatDoor
open Go.RowKit
open St (u8 u8_nat)
theorem conv2 (W : World) (a b : Int) (a0 : 0 ≤ a) (a1 : a ≤ 255) (b0 : 0 ≤ b) (b1 : b ≤ 255) : (convert 140 9 (.slice (some ⟨W.heap.size, 0, none⟩) 2 2)).run Tryz.prog (W.alloc (.cells #[.int .u8 a, .int .u8 b] 5)) = .ok (.string ⟨#[u8 a, u8 b]⟩) (W.alloc (.cells #[.int .u8 a, .int .u8 b] 5)) := by
 have h : Row (W.alloc (.cells #[.int .u8 a, .int .u8 b] 5)) 1 (.slice (some ⟨W.heap.size, 0, none⟩) 2 2) 2 (cells8 [u8 a, u8 b]) := by
  refine Row.made W 1 _ _ (0, 0) 2 2 _ rfl rfl (Nat.le_refl _) (by decide) (.inl rfl) ?_
  intro j u hu
  simp only [cells8, List.map_cons, List.map_nil, u8_nat a a0 a1, u8_nat b b0 b1] at hu
  simpa using hu
 exact Row.back h 140 9 5 Tryz.underlying140 Tryz.underlying5 Tryz.underlying9
def helB (f s : Int) : Bool := decide (1 ≤ f) && decide (f ≤ 6) && decide (0 ≤ s) && decide (s ≤ 6)
theorem helB_cases (f s : Int) : ∀ (Q : Prop), (¬ 1 ≤ f → helB f s = false → Q) → (1 ≤ f → ¬ f ≤ 6 → helB f s = false → Q) → (1 ≤ f → f ≤ 6 → ¬ 0 ≤ s → helB f s = false → Q) → (1 ≤ f → f ≤ 6 → 0 ≤ s → ¬ s ≤ 6 → helB f s = false → Q) → (1 ≤ f → f ≤ 6 → 0 ≤ s → s ≤ 6 → helB f s = true → Q) → Q := by
 intro Q q1 q2 q3 q4 q5
 by_cases h1 : 1 ≤ f
 · by_cases h2 : f ≤ 6
   · by_cases h3 : 0 ≤ s
     · by_cases h4 : s ≤ 6
       · exact q5 h1 h2 h3 h4 (by simp [helB, h1, h2, h3, h4])
       · exact q4 h1 h2 h3 h4 (by simp [helB, h4])
     · exact q3 h1 h2 h3 (by simp [helB, h3])
   · exact q2 h1 h2 (by simp [helB, h2])
 · exact q1 h1 (by simp [helB, h1])
set_option maxRecDepth 100000 in
theorem mayBe_any (f s : Int) (w : World) : Calls Tryz.prog 196 #[.agg #[.int .i64 f, .int .i64 s]] w fun e w' => e = .returned (.bool (helB f s)) ∧ Below w.heap.size w w' := by
 refine helB_cases f s _ ?_ ?_ ?_ ?_ ?_
 all_goals
  intros
  rename_i hv
  rw [hv]
  clear hv
  go_enter Tryz.func196, Tryz.ntmps196
  go_wp2
  go_ret
  exact ⟨by first | rfl | (simp; omega), below_alloc _ _⟩
set_option maxRecDepth 100000 in
theorem hbytes_good (f s : Int) (w : World) (h1 : 1 ≤ f) (h2 : f ≤ 6) (h3 : 0 ≤ s) (h4 : s ≤ 6) (h : helB f s = true) : Calls Tryz.prog 148 #[.agg #[.int .i64 f, .int .i64 s]] w fun e w' => e = .returned (.tuple #[.string ⟨#[u8 f, u8 s]⟩, .nilIface]) ∧ Below w.heap.size w w' := by
 have hm := mayBe_any f s (w.alloc (.cells #[.int .i64 f, .int .i64 s] 230))
 rw [h] at hm
 have hw0 := below_alloc w (.cells #[.int .i64 f, .int .i64 s] 230)
 have hA := Blk.new w #[.int .i64 f, .int .i64 s] 230
 have hcv := fun W => conv2 W f s (by omega) (by omega) (by omega) (by omega)
 clear h
 go_enter Tryz.func148, Tryz.ntmps148
 go_wp2_with (fail)
 refine hm.mono ?_
 rintro e w1 ⟨rfl, k1⟩
 have hB := hA.below k1
 have c0 : w1.cell? ⟨w.heap.size, 0, none⟩ = some (.int .i64 f) := hB.cell 0
 have c1 : w1.cell? ⟨w.heap.size, 1, none⟩ = some (.int .i64 s) := hB.cell 1
 have l1 : w.heap.size < w1.heap.size := hB.lt
 have hk := below_chain hw0 k1
 clear hA hB hm k1
 go_wp2_with (fail)
 go_ret2
 exact ⟨rfl, hk.alloc hk.size _⟩
def helR (l : List UInt8) : Int × Int × Nat :=
 if l.length = 2 ∧ helB ((l.getD 0 0).toNat : Int) ((l.getD 1 0).toNat : Int) = true then (((l.getD 0 0).toNat : Int), ((l.getD 1 0).toNat : Int), 0) else (0, 0, 4)
set_option maxRecDepth 100000 in
set_option maxHeartbeats 1000000 in
theorem hparse_any (s : ByteArray) (w : World) : Calls Tryz.prog 186 #[.string s] w fun e w' => e = .returned (.tuple #[.agg #[.int .i64 (helR s.data.toList).1, .int .i64 (helR s.data.toList).2.1], errV (helR s.data.toList).2.2]) ∧ Below w.heap.size w w' := by
 have hz := zeroHello
 have hl : s.data.toList.length = s.size := by simp
 by_cases h2 : s.size = 2
 · have b0 : 0 < s.size := by omega
   have b1 : 1 < s.size := by omega
   have z0 : (0 : Int) < (s.size : Int) := by omega
   have z1 : (1 : Int) < (s.size : Int) := by omega
   have hb0 := s[0].toNat_lt
   have hb1 := s[1].toNat_lt
   have g2 : ((s.size : Int) != 2) = false := by rw [h2]; rfl
   have hw0 : Below w.heap.size w ((w.alloc (.cells #[.int .i64 0, .int .i64 0] 230)).alloc (.cells #[.int .i64 (s[0].toNat : Int), .int .i64 (s[1].toNat : Int)] 230)).drew := below_drew ((below_alloc _ _).alloc (by simp) _)
   have hR := (Blk.new w #[.int .i64 0, .int .i64 0] 230).below (below_alloc (w.alloc (.cells #[.int .i64 0, .int .i64 0] 230)) (.cells #[.int .i64 (s[0].toNat : Int), .int .i64 (s[1].toNat : Int)] 230))
   have hX : Blk ((w.alloc (.cells #[.int .i64 0, .int .i64 0] 230)).alloc (.cells #[.int .i64 (s[0].toNat : Int), .int .i64 (s[1].toNat : Int)] 230)) (w.heap.size + 1) #[.int .i64 (s[0].toNat : Int), .int .i64 (s[1].toNat : Int)] 230 := Blk.newN _ _ _ _ (by simp)
   have HV : Hid (helR s.data.toList = if helB (s[0].toNat : Int) (s[1].toNat : Int) = true then ((s[0].toNat : Int), (s[1].toNat : Int), 0) else (0, 0, 4)) := by
    show _ = _
    unfold helR
    rw [byte_get s 0 b0, byte_get s 1 b1, hl]
    simp [h2]
   have HS : Hid (s.size = 2) := h2
   clear h2 hl
   go_enter Tryz.func186, Tryz.ntmps186
   go_wp2_with (fail)
   go_region
   go_wp2_with (fail)
   obtain ⟨W1, hW1⟩ : ∃ W1, ((w.alloc (.cells #[.int .i64 0, .int .i64 0] 230)).alloc (.cells #[.int .i64 (s[0].toNat : Int), .int .i64 (s[1].toNat : Int)] 230)).drew = W1 := ⟨_, rfl⟩
   have hR1 : Blk W1 w.heap.size #[.int .i64 0, .int .i64 0] 230 := by rw [← hW1]; exact hR
   have hX1 : Blk W1 (w.heap.size + 1) #[.int .i64 (s[0].toNat : Int), .int .i64 (s[1].toNat : Int)] 230 := by rw [← hW1]; exact hX
   rw [hW1] at hw0 ⊢
   clear hW1 hR hX
   generalize s[0].toNat = x at *
   generalize s[1].toNat = y at *
   refine (mayBe_any (x : Int) (y : Int) _).mono ?_
   rintro e w2 ⟨rfl, k2⟩
   have hR2 := hR1.below k2
   have hX2 := hX1.below k2
   have r0 : w2.cell? ⟨w.heap.size, 0, none⟩ = some (.int .i64 0) := hR2.cell 0
   have r1 : w2.cell? ⟨w.heap.size, 1, none⟩ = some (.int .i64 0) := hR2.cell 1
   have rf := hR2.frozen
   have rl := hR2.lt
   have x0 : w2.cell? ⟨w.heap.size + 1, 0, none⟩ = some (.int .i64 (x : Int)) := hX2.cell 0
   have x1 : w2.cell? ⟨w.heap.size + 1, 1, none⟩ = some (.int .i64 (y : Int)) := hX2.cell 1
   have hk := below_chain hw0 k2
   cases hq : helB (x : Int) (y : Int)
   · have HV2 : Hid (helR s.data.toList = (0, 0, 4)) := by show _ = _; rw [HV.out, if_neg (by simp [hq])]
     clear HV hq
     go_wp2_with (fail)
     rw [HV2.out]
     refine bodyPost_ret (v := .tuple #[.agg #[.int .i64 0, .int .i64 0], .iface 128 (.int .i64 4)]) (by simp [results, Tryz.results186, go_sem, r0, r1]) rfl ?_
     exact ⟨rfl, (hk.setCell (Nat.le_refl _) _).setCell (Nat.le_refl _) _⟩
   · have HV2 : Hid (helR s.data.toList = ((x : Int), (y : Int), 0)) := by show _ = _; rw [HV.out, if_pos hq]
     clear HV hq
     go_wp2_with (fail)
     rw [HV2.out]
     refine bodyPost_ret (v := .tuple #[.agg #[.int .i64 (x : Int), .int .i64 (y : Int)], .nilIface]) (by simp [results, Tryz.results186, go_sem, r0, r1]) rfl ?_
     exact ⟨rfl, (hk.setCell (Nat.le_refl _) _).setCell (Nat.le_refl _) _⟩
 · have g2 : ((s.size : Int) != 2) = true := by rw [bne_iff_ne]; omega
   have hw1 := below_alloc w (.cells #[.int .i64 0, .int .i64 0] 230)
   have HV : Hid (helR s.data.toList = (0, 0, 4)) := by show _ = _; unfold helR; rw [hl, if_neg (by omega)]
   clear h2 hl
   go_enter Tryz.func186, Tryz.ntmps186
   go_wp2_with (fail)
   rw [HV.out]
   refine bodyPost_ret (v := .tuple #[.agg #[.int .i64 0, .int .i64 0], .iface 128 (.int .i64 4)]) (by simp [results, Tryz.results186, go_sem]) rfl ?_
   exact ⟨rfl, hw1⟩
end Go.Proofs.YtieklnlbljejdaaGreatDoor
