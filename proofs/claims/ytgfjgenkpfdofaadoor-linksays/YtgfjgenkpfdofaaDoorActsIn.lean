/-
  Acts that came in, as the walks want them.
-/
import Derived.Test.YtgfjgenkpfdofaaDoorStsIn
import Derived.Test.YtgfjgenkpfdofaaDoorOpenOpt
namespace Go.Proofs.YtgfjgenkpfdofaaDoor
open Go.RowKit St
open Go.ChangeShapes Go.WideShapes Go.ChangeAt

/-- An act as it lies in a row: twelve cells. -/
structure AV where
  kind : ByteArray
  a : Int
  b : Int
  c : Int
  d : Int
  s : ByteArray
  pcode : Int
  pid : Int
  po : Option Addr
  pn : Nat
  pcap : Nat
  x : SV
instance : Inhabited AV := ⟨⟨ByteArray.empty, 0, 0, 0, 0, ByteArray.empty, 0, 0, none, 0, 0, SV.zero⟩⟩
def AV.at_ (v : AV) (w : World) (b o : Nat) : Prop :=
  w.cell? ⟨b, o, none⟩ = some (.string v.kind) ∧ w.cell? ⟨b, o + 1, none⟩ = some (.int .i64 v.a) ∧ w.cell? ⟨b, o + 2, none⟩ = some (.int .i64 v.b) ∧ w.cell? ⟨b, o + 3, none⟩ = some (.int .i64 v.c) ∧ w.cell? ⟨b, o + 4, none⟩ = some (.int .i64 v.d) ∧ w.cell? ⟨b, o + 5, none⟩ = some (.string v.s) ∧
  w.cell? ⟨b, o + 6, none⟩ = some (.int .i64 v.pcode) ∧ w.cell? ⟨b, o + 7, none⟩ = some (.int .i64 v.pid) ∧ w.cell? ⟨b, o + 8, none⟩ = some (.slice v.po v.pn v.pcap) ∧
  w.cell? ⟨b, o + 9, none⟩ = some (.int .i64 v.x.own) ∧ w.cell? ⟨b, o + 10, none⟩ = some (.int .i64 v.x.seq) ∧ w.cell? ⟨b, o + 11, none⟩ = some (.slice v.x.a v.x.n v.x.cap)
structure ActsR (w : World) (a : Option Addr) (n : Nat) (V : Nat → AV) (E : Nat → List Opt) : Prop where
  row : n = 0 ∨ ∃ b off, a = some ⟨b, off, none⟩ ∧ ∀ j, j < n → (V j).at_ w b (off + j * 12)
  opt : ∀ j, j < n → OptR w (V j).x.a (V j).x.n (E j) ∧ NilOk (V j).x.a (V j).x.cap ∧ (V j).x.n ≤ maxLen ∧ (V j).pn ≤ maxLen
  pk : ∀ j, j < n → ∃ os : List Opt, OptR w (V j).po (V j).pn os ∧ NilOk (V j).po (V j).pcap ∧ (V j).pn ≤ (V j).pcap
theorem AV.at_.below {v : AV} {w w' : World} {b o : Nat} (h : v.at_ w b o) (hb : Below w.heap.size w w') : v.at_ w' b o := by
  obtain ⟨c0, c1, c2, c3, c4, c5, c6, c7, c8, c9, c10, c11⟩ := h
  have l := World.block_lt_of_cell? w _ c0
  have k : ∀ i u, w.cell? ⟨b, i, none⟩ = some u → w'.cell? ⟨b, i, none⟩ = some u := fun i u hu => (hb.cell (p := ⟨b, i, none⟩) l).trans hu
  exact ⟨k _ _ c0, k _ _ c1, k _ _ c2, k _ _ c3, k _ _ c4, k _ _ c5, k _ _ c6, k _ _ c7, k _ _ c8, k _ _ c9, k _ _ c10, k _ _ c11⟩
theorem ActsR.below {w w' : World} {a : Option Addr} {n : Nat} {V : Nat → AV} {E : Nat → List Opt} (h : ActsR w a n V E) (hb : Below w.heap.size w w') : ActsR w' a n V E := by
  refine ⟨?_, fun j hj => ⟨(h.opt j hj).1.below hb, (h.opt j hj).2⟩, fun j hj => by obtain ⟨os, o1, o2⟩ := h.pk j hj; exact ⟨os, o1.below hb, o2⟩⟩
  rcases h.row with h2 | ⟨b, off, rfl, h2⟩
  · exact .inl h2
  · exact .inr ⟨b, off, rfl, fun j hj => (h2 j hj).below hb⟩

theorem open_slice_any {H : Type} {enc : TypeId × Value → H} {W : World} {m : Nat} {t e : TypeId} {v : Value} {y : DataW H × List MemPlace} (ht : Tryd.prog.underlying t = some (.slice e))
    (h2 : DataW.trod enc Tryd.prog W 0 (fun _ => true) true m t [v] = some y) : ∃ (a : Option Addr) (n cap : Nat), v = .slice a n cap ∧ n ≤ maxLen ∧ n ≤ cap := by
  rcases Go.Deep.open_slice ht h2 with ⟨hcs, _⟩ | ⟨a, len, cap, m', n', D, Pl, hcs, _, hl, hm, _, _, _⟩
  · simp at hcs
    subst hcs
    exact ⟨none, 0, 0, rfl, by decide, Nat.le_refl _⟩
  · simp at hcs
    subst hcs
    exact ⟨some a, len, cap, rfl, by omega, hl⟩

set_option maxRecDepth 100000 in
set_option maxHeartbeats 4000000 in
theorem open_acts {H : Type} {enc : TypeId × Value → H} {W : World} {a : Option Addr} {n cap : Nat} {d : DataW H} {ps : List MemPlace}
    (h : DataW.Trod enc Tryd.prog W 0 (fun _ => true) true 22 (.slice a n cap) d ps) :
    ∃ (V : Nat → AV) (E : Nat → List Opt), ActsR W a n V E ∧ n ≤ maxLen := by
  obtain ⟨fuel, hf⟩ := h
  rcases Go.Deep.open_slice Tryd.underlying22 hf with ⟨hcs, _⟩ | ⟨x, len, cp, m', n', D, Pl, hcs, _, hl, hm, hmm, _, hx⟩
  · simp [Value.cells] at hcs
    obtain ⟨rfl, rfl, rfl⟩ := hcs
    exact ⟨fun _ => default, fun _ => [], ⟨.inl rfl, fun j hj => by omega, fun j hj => by omega⟩, by decide⟩
  · simp [Value.cells] at hcs
    obtain ⟨rfl, rfl, rfl⟩ := hcs
    simp at hmm
    have ce : (Tryd.prog).cellsOf 41 = 12 := by kernel_rfl
    rw [ce] at hx
    have each : ∀ i, i < n → ∃ q : AV × List Opt, (∀ b off, x = ⟨b, off, none⟩ → q.1.at_ W b (off + i * 12)) ∧ (W.cell? (x.add (i * 12))).isSome = true ∧ OptR W q.1.x.a q.1.x.n q.2 ∧ NilOk q.1.x.a q.1.x.cap ∧ q.1.x.n ≤ maxLen ∧ q.1.pn ≤ maxLen ∧ ∃ os : List Opt, OptR W q.1.po q.1.pn os ∧ NilOk q.1.po q.1.pcap ∧ q.1.pn ≤ q.1.pcap := by
      intro i hi
      obtain ⟨cs', h1, h2⟩ := hx i (by omega)
      obtain ⟨_, hlen, hcell⟩ := World.cells?_some h1
      obtain ⟨xs, k, hk, hxy, _, hxl, hff⟩ := DataW.trod_struct Tryd.underlying41 h2
      match xs, hxl, cs', hlen with
      | [y0, y1, y2, y3, y4, y5, y6, y7], _, [v0, v1, v2, v3, v4, v5, v6, v7, v8, v9, v10, v11], _ =>
        have g0 := hff 0 _ rfl
        have g1 := hff 1 _ rfl
        have g2 := hff 2 _ rfl
        have g3 := hff 3 _ rfl
        have g4 := hff 4 _ rfl
        have g5 := hff 5 _ rfl
        have g6 := hff 6 _ rfl
        have g7 := hff 7 _ rfl
        have ci : (Tryd.prog).cellsOf 3 = 1 := by kernel_rfl
        have cstr : (Tryd.prog).cellsOf 9 = 1 := by kernel_rfl
        have cp3 : (Tryd.prog).cellsOf 36 = 3 := by kernel_rfl
        have cx3 : (Tryd.prog).cellsOf 39 = 3 := by kernel_rfl
        have cse : (Tryd.prog).cellsOf 37 = 1 := by kernel_rfl
        have cso : (Tryd.prog).cellsOf 34 = 1 := by kernel_rfl
        simp [ci, cstr, cp3, cx3] at g0 g1 g2 g3 g4 g5 g6 g7
        obtain ⟨s0, f0, _, _⟩ := DataW.trod_string Tryd.underlying9 g0
        obtain ⟨i1, f1, _, _⟩ := DataW.trod_int Tryd.underlying3 g1
        obtain ⟨i2, f2, _, _⟩ := DataW.trod_int Tryd.underlying3 g2
        obtain ⟨i3, f3, _, _⟩ := DataW.trod_int Tryd.underlying3 g3
        obtain ⟨i4, f4, _, _⟩ := DataW.trod_int Tryd.underlying3 g4
        obtain ⟨s5, f5, _, _⟩ := DataW.trod_string Tryd.underlying9 g5
        obtain ⟨xp, kp, _, _, _, hxpl, hfp⟩ := DataW.trod_struct Tryd.underlying36 g6
        obtain ⟨xq, kq, _, _, _, hxql, hfq⟩ := DataW.trod_struct Tryd.underlying39 g7
        match xp, hxpl, xq, hxql with
        | [p0, p1, p2], _, [z0, z1, z2], _ =>
          have e0 := hfp 0 _ rfl
          have e1 := hfp 1 _ rfl
          have e2 := hfp 2 _ rfl
          have e3 := hfq 0 _ rfl
          have e4 := hfq 1 _ rfl
          have e5 := hfq 2 _ rfl
          simp [ci, cse, cso] at e0 e1 e2 e3 e4 e5
          obtain ⟨i6, f6, _, _⟩ := DataW.trod_int Tryd.underlying3 e0
          obtain ⟨i7, f7, _, _⟩ := DataW.trod_int Tryd.underlying3 e1
          obtain ⟨pa, pn, pcap, f8, hpn, hpc⟩ := open_slice_any Tryd.underlying34 e2
          obtain ⟨i9, f9, _, _⟩ := DataW.trod_int Tryd.underlying3 e3
          obtain ⟨i10, f10, _, _⟩ := DataW.trod_int Tryd.underlying3 e4
          obtain ⟨ea, en, ec, es, f11, eo, ez, em⟩ := open_edges e5
          simp at f0 f1 f2 f3 f4 f5 f6 f7 f9 f10
          subst f0 f1 f2 f3 f4 f5 f6 f7 f8 f9 f10 f11
          obtain ⟨pos, po1, po2, _⟩ := open_opts (a := pa) (n := pn) (cap := pcap) (W := W) ⟨_, e2⟩
          have hc0 := hcell 0 (by omega)
          rw [Go.Deep.add_add] at hc0
          refine ⟨(⟨s0, i1, i2, i3, i4, s5, i6, i7, pa, pn, pcap, ⟨i9, i10, ea, en, ec⟩⟩, es), fun b off he => ?_, by rw [show i * 12 + 0 = i * 12 by omega] at hc0; rw [hc0]; rfl, eo, ez, em, hpn, pos, po1, po2, hpc⟩
          subst he
          have c := fun j (hj : j < 12) => hcell j hj
          simp only [add_plain'] at c
          have r : ∀ j, off + i * 12 + j = off + (i * 12) + j := fun j => rfl
          exact ⟨c 0 (by omega), c 1 (by omega), c 2 (by omega), c 3 (by omega), c 4 (by omega), c 5 (by omega), c 6 (by omega), c 7 (by omega), c 8 (by omega), c 9 (by omega), c 10 (by omega), c 11 (by omega)⟩
    obtain ⟨q, hq⟩ := Go.Deep.choose_lt each
    refine ⟨fun i => (q i).1, fun i => (q i).2, ⟨?_, fun j hj => ⟨(hq j hj).2.2.1, (hq j hj).2.2.2.1, (hq j hj).2.2.2.2.1, (hq j hj).2.2.2.2.2.1⟩, fun j hj => (hq j hj).2.2.2.2.2.2⟩, by omega⟩
    by_cases h0 : n = 0
    · exact .inl h0
    · obtain ⟨b, off, spot⟩ := x
      obtain ⟨u, hu⟩ := Option.isSome_iff_exists.1 (hq 0 (by omega)).2.1
      have hspot : spot = none := by simpa [Addr.add] using World.cell?_spot hu
      subst hspot
      exact .inr ⟨b, off, rfl, fun j hj => (hq j hj).1 b off rfl⟩
end Go.Proofs.YtgfjgenkpfdofaaDoor
