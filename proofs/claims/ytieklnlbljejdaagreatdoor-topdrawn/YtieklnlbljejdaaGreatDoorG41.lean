/-
  NtInbox NtGather2
-/
import Derived.Test.YtieklnlbljejdaaGreatDoorG40
namespace Go.Proofs.YtieklnlbljejdaaGreatDoor
open Go.RowKit St
namespace Rt
section
variable {P : Program}
theorem run_append_zero (w : World) (t ty e : TypeId) (i : TypeInfo) (ht : P.underlying t = some (.slice e)) (hi : P.info? e = some i) (base ao : Option Addr) (n cap c : Nat) (hle : n ≤ cap) :
 (Builtin.append_ #[t, t] ty #[.slice base n cap, .slice ao 0 c]).run P w = .ok (.slice base n cap) w := by
 cases base <;> cases ao <;> simp [Builtin.append_, run_underlying ht, sizeOf, typeInfo, hi, Builtin.lenOf, hle, Builtin.firstCells, loadCells, loadCellsFrom, storeCells]
theorem step_append_rows {ops : Array Oper} {o : Oper} {a : Act} {w : World} {K : Act → World → Prop} {Q : Exit → Act → World → Prop} {E : Prop}
 (hgd : o.guard = none) (s x : Operand) (t : TypeId) (ho : o.op = .call { callee := .builtin .append, args := #[s, x], argTypes := #[t, t] })
 (e : TypeId) (i : TypeInfo) (z : Value) (size bytes : Nat) (ht : P.underlying t = some (.slice e)) (hi : P.info? e = some i) (hz : i.zero = some z)
 (hsize : i.size = size) (hby : i.bytes = bytes) (hzs : z.cells.size = size) (hsz : 0 < size)
 (v : Value) (n : Nat) (xs : List Value) (hs : a.eval s = v) (hown : Row w size v n xs)
 (v2 : Value) (m : Nat) (news : List Value) (hx : a.eval x = v2) (hown2 : Row w size v2 m news) (h1 : ∀ u ∈ news, u.oneCell' = true)
 (h63 : n + m ≤ maxLen) (hbytes : (n + m) * bytes ≤ 140737488355328)
 (h : ∀ v' w', Row w' size v' (n + m) (xs ++ news) → w.grownBy w' v.ownBlock → (v'.ownBlock = v.ownBlock ∨ ∃ k, v'.ownBlock = some k ∧ w.heap.size ≤ k) → K (a.put o.dst v') w') :
 if Region.wanted o (yielded ops a.tmps) = true then Oper.wp P o a w K Q else E := by
 have hw : Region.wanted o (yielded ops a.tmps) = true := by simp [Region.wanted, hgd]
 rw [if_pos hw]
 have key : ∃ v' w', (Builtin.append_ #[t, t] o.type #[v, v2]).run P w = .ok v' w' ∧ Row w' size v' (n + m) (xs ++ news) ∧ w.grownBy w' v.ownBlock ∧ (v'.ownBlock = v.ownBlock ∨ ∃ k, v'.ownBlock = some k ∧ w.heap.size ≤ k) := by
  by_cases hm : 0 < m
  · rcases hown2.2 with ⟨_, e2⟩ | ⟨g, cap, rfl, hg, hle, hcm, hcell, _⟩
    · omega
    · exact run_append_row (P := P) w t o.type e i z size bytes ht hi hz hsize hby hzs hsz v n xs hown ⟨g, 0, none⟩ m cap news hown2.1 hm (fun j u hu => by rw [add_plain]; exact hcell j u hu) h1 h63 hbytes
  · have hm0 : m = 0 := by omega
    subst hm0
    have hnil : news = [] := List.eq_nil_of_length_eq_zero (by rw [hown2.1]; simp)
    subst hnil
    have g0 : w.grownBy w v.ownBlock := ⟨rfl, rfl, rfl, Nat.le_refl _, fun _ _ _ => rfl⟩
    rcases hown2.2 with ⟨rfl, _⟩ | ⟨g2, cap2, rfl, _⟩
    · rcases hown.2 with ⟨rfl, rfl⟩ | ⟨g, cap, rfl, hg, hle, hcm, hcell, hsp⟩
      · exact ⟨_, w, run_append_zero w t o.type e i ht hi none none 0 0 0 (Nat.le_refl _), by simpa using hown, g0, .inl rfl⟩
      · exact ⟨_, w, run_append_zero w t o.type e i ht hi _ none n cap 0 hle, by simpa using hown, g0, .inl rfl⟩
    · rcases hown.2 with ⟨rfl, rfl⟩ | ⟨g, cap, rfl, hg, hle, hcm, hcell, hsp⟩
      · exact ⟨_, w, run_append_zero w t o.type e i ht hi none _ 0 0 cap2 (Nat.le_refl _), by simpa using hown, g0, .inl rfl⟩
      · exact ⟨_, w, run_append_zero w t o.type e i ht hi _ _ n cap cap2 hle, by simpa using hown, g0, .inl rfl⟩
 obtain ⟨v', w', hr, h2, h3, h4⟩ := key
 unfold Oper.wp execOp
 simp only [ho, resolve, invoke, builtin, Sem.run_bind, Sem.run_pure, Result.andThen_ok, List.map_toArray, List.map_cons, List.map_nil, hs, hx, hr]
 exact h v' w' h2 h3 h4
end
theorem msgC_app (a b : List Msg) : msgC (a ++ b) = msgC a ++ msgC b := by simp [msgC]
theorem msgC_one (l : List Msg) : ∀ u ∈ msgC l, u.oneCell' = true := by
 intro u hu
 unfold msgC at hu
 obtain ⟨t, _, ht⟩ := List.mem_flatMap.1 hu
 exact one_msg _ _ _ u ht
theorem inEnd_any (w : World) (y : Yt) (M : NtM) (m j : Nat) (W : World) (hW : WentN w W y M m) (hn : M.n = m) (hj : j < m) : ∃ R iv, W.cell? ⟨y.gR, j, none⟩ = some (.pointer (some ⟨R, 0, none⟩)) ∧ (∀ W1, Below W.heap.size W W1 → W1.cell? ⟨y.gI, j, none⟩ = some iv ∧ W1.cell? ⟨y.N, 1, none⟩ = some (.slice (some ⟨y.gI, 0, none⟩) m y.capI) ∧ y.gI < W1.heap.size) ∧ iv.ownBlock ≠ some y.gI ∧ iv.ownBlock ≠ some y.N ∧ y.N ≠ y.gI ∧
 ∀ W1, Below W.heap.size W W1 → Calls Tryz.prog 32 #[.pointer (some ⟨R, 0, none⟩)] W1 fun e w' => ∃ v, e = .returned v ∧ Row w' 3 v (M.R j).inb.length (msgC (M.R j).inb) ∧ Row w' 3 iv (M.inb j).length (msgC (M.inb j)) ∧ w'.cell? ⟨y.gI, j, none⟩ = some iv ∧ w'.frozen? ⟨y.gI, j, none⟩ = false ∧ w'.cell? ⟨y.N, 1, none⟩ = some (.slice (some ⟨y.gI, 0, none⟩) m y.capI) ∧
   ∀ x1 v', Row x1 3 v' ((M.inb j).length + (M.R j).inb.length) (msgC (M.inb j) ++ msgC (M.R j).inb) → w'.grownBy x1 iv.ownBlock → (v'.ownBlock = iv.ownBlock ∨ ∃ k, v'.ownBlock = some k ∧ w'.heap.size ≤ k) → WentN w (x1.setCell ⟨y.gI, j, none⟩ v') y (M.gatI1 j) m := by
 subst hn
 obtain ⟨y1, R0, s1, hm1, he1⟩ := hW.ex
 refine ⟨(y1.z j).R, y1.iv j, ?_, fun W1 hb => ?_, fun e => ?_, fun e => ?_, fun e => ?_, fun W1 hb => ?_⟩
 · rw [← s1.gR]; exact R0.ptr hj
 · have R1 := R0.below hb
   rw [← s1.gI, ← s1.N, ← s1.capI]
   exact ⟨R1.box1 hj, R1.k1, R1.gIlt⟩
 · rw [← s1.gI] at e; exact R0.at_ne (l := .ib j) (l' := .I) e rfl (by intro e; cases e) rfl
 · rw [← s1.N] at e; exact R0.at_ne (l := .ib j) (l' := .N) e rfl (by intro e; cases e) rfl
 · rw [← s1.gI, ← s1.N] at e; exact R0.at_ne (l := .N) (l' := .I) rfl rfl (by intro e; cases e) e
 have R1 := R0.below hb
 have h3 := (R1.rn j hj).1
 refine (inbox_any (y1.z j) (M.R j) W1 (R1.rt j hj)).mono ?_
 rintro e w1 ⟨rfl, hr, hw0⟩
 have hw : WentR W1 w1 (y1.z j) { M.R j with inb := [] } 3 := (congrArg (fun t => WentR W1 w1 (y1.z j) ({ M.R j with inb := [] } : RtM) t) h3).mp hw0
 have hown : ∀ k, y1.own k → w1.heap[k]? = W1.heap[k]? := fun k hk => by
  have hf := R1.ownFoot hj hk
  exact hw.kept.block k (R1.lt (.inl hk)) (fun e => hf (.inl e)) (fun e => hf (.inr (.inl e))) (fun e => hf (.inr (.inr e)))
 have hN := R1.router hj hw (R1.rn j hj)
 have hgI := hown y1.gI ⟨.I, rfl⟩
 refine ⟨_, rfl, hr, (R1.ib j hj).keep hw.kept.size (fun k hk => hown k ⟨.ib j, hk⟩), ?_, ?_, ?_, fun x1 v' hrow hg hov => ?_⟩
 · rw [← s1.gI]
   exact (World.cell?_of_block (a := ⟨y1.gI, j, none⟩) hgI).trans (R1.box1 hj)
 · rw [← s1.gI]
   have := R1.ri.fz j hj
   rw [Nat.zero_add] at this
   exact (World.frozen?_of_block (a := ⟨y1.gI, j, none⟩) hgI).trans this
 · rw [← s1.N, ← s1.gI, ← s1.capI]
   exact (World.cell?_of_block (a := ⟨y1.N, 1, none⟩) (hown y1.N ⟨.N, rfl⟩)).trans R1.k1
 have hfin : WentN W1 (x1.setCell ⟨y1.gI, j, none⟩ v') y1 (M.gatI1 j) M.n := by
  refine hN.step fun y2 R2 s2 => ?_
  have hiv : y2.iv j = y1.iv j := by
   have h1 := R2.box1 (i := j) hj
   rw [s2.gI, (World.cell?_of_block (a := ⟨y1.gI, j, none⟩) hgI).trans (R1.box1 hj)] at h1
   exact (Option.some.inj h1).symm
  have hne : (y1.iv j).ownBlock ≠ some y1.gI := fun e => R1.at_ne (l := .ib j) (l' := .I) e rfl (by intro e; cases e) rfl
  have hvg : v'.ownBlock ≠ some y1.gI := fun e => by
   rcases hov with h1 | ⟨k, h1, h2⟩
   · exact hne (by rw [← h1]; exact e)
   · rw [e] at h1
     have h1' := Option.some.inj h1
     have h4 : y1.gI < w1.heap.size := by rw [← s2.gI]; exact R2.gIlt
     omega
  have hx : x1.heap[y1.gI]? = w1.heap[y1.gI]? := hg.block y1.gI (by rw [← s2.gI]; exact R2.gIlt) (fun e => hne e.symm)
  have hbx := R2.box (i := j) (w' := x1.setCell ⟨y1.gI, j, none⟩ v') hj v' (M.inb j ++ (M.R j).inb) (by simpa using hg.size) hg.os hg.tape hg.output (fun k hk h1 h2 => ?_) ?_ ?_ (fun k hk => ?_)
  · exact hbx
  · rw [s2.gI] at h1
    rw [hiv] at h2
    rw [Below.heap_setCell _ _ _ k h1]
    exact hg.block k hk (fun e => h2 e.symm)
  · rw [s2.gI]
    have h1 := R2.ri
    rw [s2.gI] at h1
    have h2 := h1.keep hx
    have h3 := h2.set j hj v'
    rw [Nat.zero_add] at h3
    refine h3.congr fun x hx => ?_
    by_cases e : x = j
    · subst e; rw [upN_same]; unfold updV; simp
    · rw [upN_other _ _ e]; unfold updV; simp [e]
  · rw [msgC_app, List.length_append]
    exact hrow.keep (by simp) (fun k hk => Below.heap_setCell _ _ _ k (fun e => hvg (by rw [hk, e])))
  · rcases hov with h1 | ⟨k', h1, h2⟩
    · left; rw [hiv, ← h1]; exact hk
    · right; rw [hk] at h1; have := Option.some.inj h1; omega
 rw [s1.gI] at hfin
 exact WentN.thenBy hW.kept s1 hm1 he1 (WentN.first hb hfin)
end Rt
end Go.Proofs.YtieklnlbljejdaaGreatDoor

namespace Go.Proofs.YtieklnlbljejdaaGreatDoor
open Go.RowKit St
namespace Rt
theorem cell_other {x : World} {b g k j : Nat} {u v : Value} (h : x.cell? ⟨b, k, none⟩ = some u) (hne : b ≠ g) : (x.setCell ⟨g, j, none⟩ v).cell? ⟨b, k, none⟩ = some u := by
 rw [World.cell?_setCell_other _ _ _ _ (fun e => hne (congrArg Addr.block e).symm)]; exact h
set_option maxRecDepth 100000 in
set_option maxHeartbeats 8000000 in
theorem gather_any (y : Yt) (n : NtM) (D k : Nat) (w : World) (h : NetR w y n) (hok : NOk n D k) (hD : D ≤ 1000000000) (hk : k ≤ 100000) :
 Calls Tryz.prog 111 #[.pointer (some ⟨y.N, 0, none⟩)] w fun e w' => e = .returned (.tuple #[]) ∧ WentN w w' y n.gather n.n := by
 have c3 := h.k3
 obtain ⟨a, cp, hcv, hgc⟩ := h.cvs
 rw [hcv] at c3
 have cl := h.Nlt
 have c9 := h.c9
 have n6 := h.n6
 obtain ⟨nc, hnc⟩ : ∃ nc, n.nc = nc := ⟨_, rfl⟩
 obtain ⟨m, hm⟩ : ∃ m, n.n = m := ⟨_, rfl⟩
 have H0 : Hid (WentN w w y (n.gatC 0) m) := by
  show WentN _ _ _ _ _
  rw [← hm]
  exact WentN.refl h
 have HK3 : Hid (∀ q W, WentN w W y (n.gatC q) m → W.cell? ⟨y.N, 3, none⟩ = some (.slice a nc cp) ∧ y.N < W.heap.size) := by
  intro q W hw
  have h1 := hw.k3
  rw [(gatC_same n q).2.1, hcv, hnc] at h1
  exact ⟨h1, hw.lt⟩
 have HGC : Hid (∀ c, c < nc → ∃ g, y.gC = some g ∧ a = some ⟨g, 0, none⟩) := by
  show ∀ c, _ → _
  rw [← hnc]
  exact hgc
 have HCAB : Hid (∀ q W g, q < nc → y.gC = some g → WentN w W y (n.gatC q) m → W.cell? ⟨g, q * 7, none⟩ = some (.int .i64 ((((n.C q).e 0).1 : Int) + 1)) ∧ W.cell? ⟨g, q * 7 + 1, none⟩ = some (.int .i64 (((n.C q).e 0).2 : Int)) ∧ W.cell? ⟨g, q * 7 + 2, none⟩ = some (.int .i64 ((((n.C q).e 1).1 : Int) + 1)) ∧ W.cell? ⟨g, q * 7 + 2 + 1, none⟩ = some (.int .i64 (((n.C q).e 1).2 : Int)) ∧ g < W.heap.size) := by
  intro q W g hq hg hw
  obtain ⟨ov, hC⟩ := hw.cab (c := q) (by rw [(gatC_same n q).2.1, hnc]; exact hq) hg
  have e1 := ((gatC_same n q).2.2.2.2 q).1
  have h0 := hC.cell 0 (by decide)
  have h1 := hC.cell 1 (by decide)
  have h2 := hC.cell 2 (by decide)
  have h3 := hC.cell 3 (by decide)
  rw [(cbF_e _ _).1, e1] at h0
  rw [(cbF_e _ _).2.1, e1] at h1
  rw [(cbF_e _ _).2.2.1, e1] at h2
  rw [(cbF_e _ _).2.2.2.1, e1] at h3
  exact ⟨h0, h1, h2, h3, hC.lt (by decide)⟩
 have HEnd : Hid (∀ (q d g i p : Nat) (W0 : World), q < nc → d < 2 → y.gC = some g → (n.C q).e d = (i, p) → WentN w W0 y (n.gatD q d) m →
  Calls Tryz.prog 157 #[.pointer (some ⟨y.N, 0, none⟩), .agg #[.int .i64 ((i : Int) + 1), .int .i64 (p : Int)]] (W0.alloc (.cells #[.int .i64 ((i : Int) + 1), .int .i64 (p : Int)] 192)).drew fun e w1 => ∃ R, e = .returned (.pointer (some ⟨R, 0, none⟩)) ∧ (w1.cell? ⟨W0.heap.size, 0, none⟩ = some (.int .i64 ((i : Int) + 1)) ∧ w1.cell? ⟨W0.heap.size, 1, none⟩ = some (.int .i64 (p : Int))) ∧
  Calls Tryz.prog 29 #[.pointer (some ⟨R, 0, none⟩), .int .i64 (p : Int)] w1 fun e w2 => ∃ s : ByteArray, e = .returned (.tuple #[.string s, .nilIface]) ∧ (w2.cell? ⟨W0.heap.size, 0, none⟩ = some (.int .i64 ((i : Int) + 1)) ∧ w2.cell? ⟨W0.heap.size, 1, none⟩ = some (.int .i64 (p : Int))) ∧
   ∀ w3, Below w2.heap.size w2 w3 → Calls Tryz.prog 161 #[.pointer (some ⟨g, q * 7, none⟩), .int .i64 (d : Int), .string s] w3 fun e w4 => e = .returned (.tuple #[]) ∧ WentN w w4 y (n.gatD q (d + 1)) m) := by
  intro q d g i p W0 hq hd hg hip hw
  have hb := below_drew (below_alloc W0 (.cells #[.int .i64 ((i : Int) + 1), .int .i64 (p : Int)] 192))
  have hB : Blk (W0.alloc (.cells #[.int .i64 ((i : Int) + 1), .int .i64 (p : Int)] 192)).drew W0.heap.size #[.int .i64 ((i : Int) + 1), .int .i64 (p : Int)] 192 := (Blk.new W0 _ _).drew
  exact gatEnd_any w y n D k q d g m hok (by omega) hk (by rw [hnc]; exact hq) hd hg hm i p hip W0 _ hw hb W0.heap.size _ _ (Nat.le_refl _) ⟨hB.cell 0, hB.cell 1⟩
 rw [hnc] at c3 c9
 rw [hm] at n6 ⊢
 have HOK : Hid _ := hok
 have HNC : Hid _ := hnc
 have HM : Hid _ := hm
 clear h hok hgc hcv hnc hm
 go_enter Tryz.func111, Tryz.ntmps111
 go_wp2_with (fail)
 go_loopw [15] (fun x wr => ∃ q : Nat, q ≤ nc ∧ x = .int .i64 q ∧ WentN w wr y (n.gatC q) m) (fun x _ => nc - (intOf x).toNat)
 case atStart => exact ⟨0, Nat.zero_le _, rfl, H0.out⟩
 case round =>
  obtain ⟨q, hq, rfl, hwq⟩ := hrel
  obtain ⟨V, rfl⟩ : ∃ V, V = wr := ⟨_, rfl⟩
  by_cases hlt : q < nc
  · have hlt' : (q : Int) < (nc : Int) := by omega
    have hq0 : (0 : Int) ≤ (q : Int) := by omega
    obtain ⟨g, hg, rfl⟩ := HGC.out q hlt
    obtain ⟨d3, dl⟩ := HK3.out q V hwq
    obtain ⟨e0, e1, e2, e3, gl⟩ := HCAB.out q V g hlt hg hwq
    obtain ⟨i0, p0, hip0⟩ : ∃ i0 p0, (n.C q).e 0 = (i0, p0) := ⟨_, _, rfl⟩
    obtain ⟨i1, p1, hip1⟩ : ∃ i1 p1, (n.C q).e 1 = (i1, p1) := ⟨_, _, rfl⟩
    rw [hip0] at e0 e1
    rw [hip1] at e2 e3
    have HD0 : Hid (WentN w V y (n.gatD q 0) m) := hwq
    have HIP0 : Hid _ := hip0
    have HIP1 : Hid _ := hip1
    have HG : Hid _ := hg
    clear hwq hip0 hip1 hg
    go_wp2_with (fail)
    go_loopw [28] (fun x wr => (x = .int .i64 0 ∧ WentN w wr y (n.gatD q 0) m) ∨ (x = .int .i64 1 ∧ WentN w wr y (n.gatD q 1) m) ∨ (x = .int .i64 2 ∧ WentN w wr y (n.gatD q 2) m)) (fun x _ => 2 - (intOf x).toNat)
    case atStart => exact .inl ⟨rfl, HD0.out⟩
    case round =>
     rcases hrel with ⟨rfl, hwd⟩ | ⟨rfl, hwd⟩ | ⟨rfl, hwd⟩
     · have hix := idx0 ((i0 : Int) + 1) (p0 : Int) ((i1 : Int) + 1) (p1 : Int)
       have hE := HEnd.out q 0 g i0 p0 wr hlt (by decide) HG.out HIP0.out hwd
       obtain ⟨W1, hW1⟩ : ∃ W1, wr.alloc (.cells #[.int .i64 ((i0 : Int) + 1), .int .i64 (p0 : Int)] 192) = W1 := ⟨_, rfl⟩
       obtain ⟨E, hE0⟩ : ∃ E, wr.heap.size = E := ⟨_, rfl⟩
       have F0 : W1.drew.cell? ⟨E, 0, none⟩ = some (.int .i64 ((i0 : Int) + 1)) ∧ W1.drew.cell? ⟨E, 1, none⟩ = some (.int .i64 (p0 : Int)) := by
        have hB : Blk (wr.alloc (.cells #[.int .i64 ((i0 : Int) + 1), .int .i64 (p0 : Int)] 192)).drew wr.heap.size #[.int .i64 ((i0 : Int) + 1), .int .i64 (p0 : Int)] 192 := (Blk.new wr _ _).drew
        rw [hW1, hE0] at hB
        exact ⟨hB.cell 0, hB.cell 1⟩
       have El : E < W1.drew.heap.size := World.block_lt_of_cell? _ _ F0.1
       rw [hW1, hE0] at hE
       have HW1 : Hid _ := hW1
       have HE0 : Hid _ := hE0
       clear hwd hW1 hE0
       go_wp2_with (fail)
       try rw [HW1.out]
       try rw [HE0.out]
       go_region_held3 (fun x => x.cell? ⟨E, 0, none⟩ = some (.int .i64 ((i0 : Int) + 1)) ∧ x.cell? ⟨E, 1, none⟩ = some (.int .i64 (p0 : Int)))
        (first | assumption | exact F0 | exact F1 | exact F2)
        (first
          | (go_at_call 157; refine hE.mono ?_; rintro e w1 ⟨R, rfl, F1, hO⟩)
          | (go_at_call 29; refine hO.mono ?_; rintro e w2 ⟨sx, rfl, F2, hP⟩))
       all_goals
        have hp := hP _ (Below.refl _ _)
        clear hE hO hP F0 F1 F2 El
        go_wp2_with (fail)
        refine hp.mono ?_
        rintro e w4 ⟨rfl, hw4⟩
        have HW4 : Hid _ := hw4
        clear hp hw4
        go_wp2_with (fail)
        go_roundw
        case rel => exact .inr (.inl ⟨by go_num, HW4.out⟩)
        case measure => simp [intOf]
     · have hix := idx1 ((i0 : Int) + 1) (p0 : Int) ((i1 : Int) + 1) (p1 : Int)
       have hE := HEnd.out q 1 g i1 p1 wr hlt (by decide) HG.out HIP1.out hwd
       obtain ⟨W1, hW1⟩ : ∃ W1, wr.alloc (.cells #[.int .i64 ((i1 : Int) + 1), .int .i64 (p1 : Int)] 192) = W1 := ⟨_, rfl⟩
       obtain ⟨E, hE0⟩ : ∃ E, wr.heap.size = E := ⟨_, rfl⟩
       have F0 : W1.drew.cell? ⟨E, 0, none⟩ = some (.int .i64 ((i1 : Int) + 1)) ∧ W1.drew.cell? ⟨E, 1, none⟩ = some (.int .i64 (p1 : Int)) := by
        have hB : Blk (wr.alloc (.cells #[.int .i64 ((i1 : Int) + 1), .int .i64 (p1 : Int)] 192)).drew wr.heap.size #[.int .i64 ((i1 : Int) + 1), .int .i64 (p1 : Int)] 192 := (Blk.new wr _ _).drew
        rw [hW1, hE0] at hB
        exact ⟨hB.cell 0, hB.cell 1⟩
       have El : E < W1.drew.heap.size := World.block_lt_of_cell? _ _ F0.1
       rw [hW1, hE0] at hE
       have HW1 : Hid _ := hW1
       have HE0 : Hid _ := hE0
       clear hwd hW1 hE0
       go_wp2_with (fail)
       try rw [HW1.out]
       try rw [HE0.out]
       go_region_held3 (fun x => x.cell? ⟨E, 0, none⟩ = some (.int .i64 ((i1 : Int) + 1)) ∧ x.cell? ⟨E, 1, none⟩ = some (.int .i64 (p1 : Int)))
        (first | assumption | exact F0 | exact F1 | exact F2)
        (first
          | (go_at_call 157; refine hE.mono ?_; rintro e w1 ⟨R, rfl, F1, hO⟩)
          | (go_at_call 29; refine hO.mono ?_; rintro e w2 ⟨sx, rfl, F2, hP⟩))
       all_goals
        have hp := hP _ (Below.refl _ _)
        clear hE hO hP F0 F1 F2 El
        go_wp2_with (fail)
        refine hp.mono ?_
        rintro e w4 ⟨rfl, hw4⟩
        have HW4 : Hid _ := hw4
        clear hp hw4
        go_wp2_with (fail)
        go_roundw
        case rel => exact .inr (.inr ⟨by go_num, HW4.out⟩)
        case measure => simp [intOf]
     · have HQ : Hid (WentN w wr y (n.gatC (q + 1)) m) := hwd
       clear hwd
       go_wp2_with (fail)
       go_roundw
       case rel => exact ⟨q + 1, by omega, by go_num, HQ.out⟩
       case measure => simp [intOf]; omega
  · have hge : ¬ (q : Int) < (nc : Int) := by omega
    obtain rfl : q = nc := by omega
    have HI0 : Hid (WentN w V y ((n.gatC q).gatI 0) m) := hwq
    have k0 := hwq.k0
    have kl := hwq.lt
    rw [(gatC_same n q).1] at k0
    have k0' : V.cell? ⟨y.N, 0, none⟩ = some (.slice (some ⟨y.gR, 0, none⟩) m y.capR) := by rw [← HM.out]; exact k0
    obtain ⟨i0, hi, hz0, hz1, hz2⟩ := info_parts infoMsg
    have HE : Hid (n.gather = (n.gatC q).gatI m) := by
     show _ = _
     unfold NtM.gather
     rw [HNC.out, HM.out]
    have HN2 : Hid ((n.gatC q).n = m) := by show _ = _; rw [(gatC_same n q).1, HM.out]
    have HK : Hid (∀ j, j < m → (((n.gatC q).gatI j).inb j).length ≤ 2000000000 ∧ ((((n.gatC q).gatI j).R j).inb).length ≤ 2000000000) := by
     intro j hj
     have h1 := (HOK.out.gatC (by omega) q (by rw [HNC.out]; exact Nat.le_refl _)).gatI j
     have h2 := h1.ib j (by rw [(gatI_same (n.gatC q) j).1, HN2.out]; exact hj)
     have h3 := (h1.fit j (by rw [(gatI_same (n.gatC q) j).1, HN2.out]; exact hj)).1
     omega
    clear hwq k0 HOK HNC HCAB HEnd HK3 HGC
    go_wp2_with (fail)
    go_loopw [54] (fun x wr => ∃ j : Nat, j ≤ m ∧ x = .int .i64 j ∧ WentN w wr y ((n.gatC q).gatI j) m) (fun x _ => m - (intOf x).toNat)
    case atStart => exact ⟨0, Nat.zero_le _, rfl, HI0.out⟩
    case round =>
     obtain ⟨j, hj, rfl, hwj⟩ := hrel
     by_cases hjl : j < m
     · have hjl' : (j : Int) < (m : Int) := by omega
       have hj0 : (0 : Int) ≤ (j : Int) := by omega
       have hnM : ((n.gatC q).gatI j).n = m := by rw [(gatI_same (n.gatC q) j).1, HN2.out]
       obtain ⟨l1, l2⟩ := HK.out j hjl
       have HS : Hid ((n.gatC q).gatI (j + 1) = ((n.gatC q).gatI j).gatI1 j) := rfl
       obtain ⟨R, iv, r0, hbx, hivI, hivN, hNI, hInb⟩ := inEnd_any w y _ m j wr hwj hnM hjl
       have HS2 : Hid ((n.gatC q).gatI (j + 1) = ((n.gatC q).gatI j).gatI1 j) := rfl
       have HSS : ∀ x, WentN w x y (((n.gatC q).gatI j).gatI1 j) m = WentN w x y ((n.gatC q).gatI (j + 1)) m := fun x => rfl
       obtain ⟨M, hM⟩ : ∃ M, (n.gatC q).gatI j = M := ⟨_, rfl⟩
       rw [hM] at l1 l2 hInb HSS
       simp only [HSS] at hInb
       have hIn := hInb wr.drew (below_d wr)
       obtain ⟨c1, F0, gIl⟩ := hbx wr.drew (below_d wr)
       have rl := World.block_lt_of_cell? _ _ r0
       have HivI : Hid _ := hivI
       have HivN : Hid _ := hivN
       have HNI : Hid _ := hNI
       have Nl := World.block_lt_of_cell? _ _ F0
       generalize y.N = YN at *
       generalize y.gI = GI at *
       generalize y.capI = cI at *
       clear hwj hM hbx hInb HSS HS HS2 hivI hivN hNI
       go_wp2_with (fail)
       refine wp_region_held_drew (S := fun x => x.cell? ⟨YN, 1, none⟩ = some (.slice (some ⟨GI, 0, none⟩) m cI)) (by kernel_rfl) F0 (fun hHeld => ?_)
       refine rt_yes 0 (some 59) rfl rfl (by kernel_rfl) (by kernel_rfl) (by kernel_rfl) (fun _ _ _ h => h) (by rfl) (v := ?_) ?_ (by assumption) ?_
       rotate_left
       · intro wS hSw
         (try dsimp only at hSw)
         go_simp
         try with_reducible rfl
       simp only [Act.put, List.setIfInBounds_toArray, List.set_cons_zero, List.set_cons_succ]
       refine rt_yes 1 (some 60) rfl rfl (by kernel_rfl) (by kernel_rfl) (by kernel_rfl) (fun _ _ _ h => h) (by rfl) (v := ?_) ?_ (by assumption) ?_
       rotate_left
       · intro wS hSw
         (try dsimp only at hSw)
         go_simp
         try with_reducible rfl
       simp only [Act.put, List.setIfInBounds_toArray, List.set_cons_zero, List.set_cons_succ]
       refine rt_yes 2 (some 61) rfl rfl (by kernel_rfl) (by kernel_rfl) (by kernel_rfl) (fun _ _ _ h => h) (by rfl) (v := ?_) ?_ (by assumption) ?_
       rotate_left
       · intro wS hSw
         (try dsimp only at hSw)
         go_simp
         try with_reducible rfl
       simp only [Act.put, List.setIfInBounds_toArray, List.set_cons_zero, List.set_cons_succ]
       refine rt_yes 3 (some 62) rfl rfl (by kernel_rfl) (by kernel_rfl) (by kernel_rfl) (fun _ _ _ h => h) (by rfl) (v := ?_) ?_ (by assumption) ?_
       rotate_left
       · intro wS hSw
         (try dsimp only at hSw)
         go_simp
         try with_reducible rfl
       simp only [Act.put, List.setIfInBounds_toArray, List.set_cons_zero, List.set_cons_succ]
       refine rt_yes 4 (some 63) rfl rfl (by kernel_rfl) (by kernel_rfl) (by kernel_rfl) (fun _ _ _ h => h) (by rfl) (v := ?_) ?_ (by assumption) ?_
       rotate_left
       · intro wS hSw
         (try dsimp only at hSw)
         go_simp
         try with_reducible rfl
       simp only [Act.put, List.setIfInBounds_toArray, List.set_cons_zero, List.set_cons_succ]
       refine rt_yes 5 (some 64) rfl rfl (by kernel_rfl) (by kernel_rfl) (by kernel_rfl) (fun _ _ _ h => h) (by rfl) (v := ?_) ?_ (by assumption) ?_
       rotate_left
       · intro wS hSw
         (try dsimp only at hSw)
         go_simp
         try with_reducible rfl
       simp only [Act.put, List.setIfInBounds_toArray, List.set_cons_zero, List.set_cons_succ]
       refine rt_yes 6 (some 65) rfl rfl (by kernel_rfl) (by kernel_rfl) (by kernel_rfl) (fun _ _ _ h => h) (by rfl) (v := ?_) ?_ (by assumption) ?_
       rotate_left
       · intro wS hSw
         (try dsimp only at hSw)
         go_simp
         try with_reducible rfl
       simp only [Act.put, List.setIfInBounds_toArray, List.set_cons_zero, List.set_cons_succ]
       refine rt_yes 7 (some 66) rfl rfl (by kernel_rfl) (by kernel_rfl) (by kernel_rfl) (fun _ _ _ h => h) (by rfl) (v := ?_) ?_ (by assumption) ?_
       rotate_left
       · intro wS hSw
         (try dsimp only at hSw)
         go_simp
         try with_reducible rfl
       simp only [Act.put, List.setIfInBounds_toArray, List.set_cons_zero, List.set_cons_succ]
       refine rt_yes 8 (some 67) rfl rfl (by kernel_rfl) (by kernel_rfl) (by kernel_rfl) (fun _ _ _ h => h) (by rfl) (v := ?_) ?_ (by assumption) ?_
       rotate_left
       · intro wS hSw
         (try dsimp only at hSw)
         go_simp
         try with_reducible rfl
       simp only [Act.put, List.setIfInBounds_toArray, List.set_cons_zero, List.set_cons_succ]
       refine rt_yes 9 (some 68) rfl rfl (by kernel_rfl) (by kernel_rfl) (by kernel_rfl) (fun _ _ _ h => h) (by rfl) (v := ?_) ?_ (by assumption) ?_
       rotate_left
       · intro wS hSw
         (try dsimp only at hSw)
         go_simp
         try with_reducible rfl
       simp only [Act.put, List.setIfInBounds_toArray, List.set_cons_zero, List.set_cons_succ]
       refine rt_yes 10 (some 69) rfl rfl (by kernel_rfl) (by kernel_rfl) (by kernel_rfl) (fun _ _ _ h => h) (by rfl) (v := ?_) ?_ (by assumption) ?_
       rotate_left
       · intro wS hSw
         (try dsimp only at hSw)
         go_simp
         try with_reducible rfl
       simp only [Act.put, List.setIfInBounds_toArray, List.set_cons_zero, List.set_cons_succ]
       refine rt_yes 12 (some 71) rfl rfl (by kernel_rfl) (by kernel_rfl) (by kernel_rfl) (fun _ _ _ h => h) (by rfl) (v := ?_) ?_ (by assumption) ?_
       rotate_left
       · intro wS hSw
         (try dsimp only at hSw)
         go_simp
         try with_reducible rfl
       simp only [Act.put, List.setIfInBounds_toArray, List.set_cons_zero, List.set_cons_succ]
       refine wpAnyH_ready (rs := [11, 13]) (by kernel_rfl) (by simp) ?_
       refine AllReadyH.cons (o := _) rfl (fun K hK => ?_) (AllReadyH.cons (o := _) rfl (fun K hK => ?_) AllReadyH.nil)
       · go_simp
         (try go_wp2_with (fail))
         refine hK.out _ _ (by exact F0) (fun hHeld => ?_)
         clear hK K
         refine wpAnyH_ready (rs := [13]) (by kernel_rfl) (by simp) ?_
         refine AllReadyH.cons (o := _) rfl (fun K hK => ?_) AllReadyH.nil
         go_simp
         refine hIn.mono ?_
         rintro e w1 ⟨v1, rfl, hrow, hiv, b1, z1, F1, hfin⟩
         (try go_wp2_with (fail))
         refine hK.out _ _ (by exact F1) (fun hHeld => ?_)
         clear hK K
         have gl1 := World.block_lt_of_cell? _ _ b1
         refine wpAnyH_ready (rs := [14]) (by kernel_rfl) (by simp) ?_
         refine AllReadyH.cons (o := _) rfl (fun K hK => ?_) AllReadyH.nil
         refine step_append_rows (by rfl) (.tmp 70) (.tmp 72) 53 (by rfl) 106 i0 (.agg #[.int .i64 0, .int .i64 0, .string ⟨#[]⟩]) 3 32 Tryz.underlying53 hi hz0 hz1 hz2 (by rfl) (by decide) iv (M.inb j).length (msgC (M.inb j)) (by rfl) hiv v1 (M.R j).inb.length (msgC (M.R j).inb) (by rfl) hrow (msgC_one _) (by unfold maxLen; omega) (by omega) ?_
         intro v2 x1 hr1 hg1 hown1
         have F2 : x1.cell? ⟨YN, 1, none⟩ = some (.slice (some ⟨GI, 0, none⟩) m cI) := (World.cell?_of_block (a := ⟨YN, 1, none⟩) (hg1.block YN (World.block_lt_of_cell? _ _ F1) (fun e => HivN.out e.symm))).trans F1
         have b2 : x1.cell? ⟨GI, j, none⟩ = some iv := (World.cell?_of_block (a := ⟨GI, j, none⟩) (hg1.block GI gl1 (fun e => HivI.out e.symm))).trans b1
         have z2 : x1.frozen? ⟨GI, j, none⟩ = false := (World.frozen?_of_block (a := ⟨GI, j, none⟩) (hg1.block GI gl1 (fun e => HivI.out e.symm))).trans z1
         have gl2 := World.block_lt_of_cell? _ _ b2
         obtain ⟨a2, cp2, rfl⟩ := Row.shape hr1
         refine hK.out _ _ (by exact F2) (fun hHeld => ?_)
         clear hK K
         refine rt_yes 15 (some 74) rfl rfl (by kernel_rfl) (by kernel_rfl) (by kernel_rfl) (fun _ _ _ h => h) (by rfl) (v := ?_) ?_ (by assumption) ?_
         rotate_left
         · intro wS hSw
           (try dsimp only at hSw)
           go_simp
           try with_reducible rfl
         simp only [Act.put, List.setIfInBounds_toArray]
         refine wpAnyH_ready (rs := [16]) (by kernel_rfl) (by simp) ?_
         refine AllReadyH.cons (o := _) rfl (fun K hK => ?_) AllReadyH.nil
         go_simp
         (try go_wp2_with (fail))
         refine hK.out _ _ (by exact cell_other F2 HNI.out) (fun hHeld => ?_)
         clear hK K
         refine wpAnyH_done (by kernel_rfl) ?_ _
         have HF : Hid _ := hfin x1 _ hr1 hg1 hown1
         clear hIn hrow hiv b1 z1 F0 F1 F2 b2 z2 hfin hr1 hg1 hown1 gl1 gl2
         go_wp2_with (fail)
         go_roundw
         case rel => exact ⟨j + 1, by omega, by go_num, HF.out⟩
         case measure => simp [intOf]; omega
       · go_simp
         refine hIn.mono ?_
         rintro e w1 ⟨v1, rfl, hrow, hiv, b1, z1, F1, hfin⟩
         (try go_wp2_with (fail))
         refine hK.out _ _ (by exact F1) (fun hHeld => ?_)
         clear hK K
         have gl1 := World.block_lt_of_cell? _ _ b1
         refine wpAnyH_ready (rs := [11]) (by kernel_rfl) (by simp) ?_
         refine AllReadyH.cons (o := _) rfl (fun K hK => ?_) AllReadyH.nil
         go_simp
         (try go_wp2_with (fail))
         refine hK.out _ _ (by exact F1) (fun hHeld => ?_)
         clear hK K
         refine wpAnyH_ready (rs := [14]) (by kernel_rfl) (by simp) ?_
         refine AllReadyH.cons (o := _) rfl (fun K hK => ?_) AllReadyH.nil
         refine step_append_rows (by rfl) (.tmp 70) (.tmp 72) 53 (by rfl) 106 i0 (.agg #[.int .i64 0, .int .i64 0, .string ⟨#[]⟩]) 3 32 Tryz.underlying53 hi hz0 hz1 hz2 (by rfl) (by decide) iv (M.inb j).length (msgC (M.inb j)) (by rfl) hiv v1 (M.R j).inb.length (msgC (M.R j).inb) (by rfl) hrow (msgC_one _) (by unfold maxLen; omega) (by omega) ?_
         intro v2 x1 hr1 hg1 hown1
         have F2 : x1.cell? ⟨YN, 1, none⟩ = some (.slice (some ⟨GI, 0, none⟩) m cI) := (World.cell?_of_block (a := ⟨YN, 1, none⟩) (hg1.block YN (World.block_lt_of_cell? _ _ F1) (fun e => HivN.out e.symm))).trans F1
         have b2 : x1.cell? ⟨GI, j, none⟩ = some iv := (World.cell?_of_block (a := ⟨GI, j, none⟩) (hg1.block GI gl1 (fun e => HivI.out e.symm))).trans b1
         have z2 : x1.frozen? ⟨GI, j, none⟩ = false := (World.frozen?_of_block (a := ⟨GI, j, none⟩) (hg1.block GI gl1 (fun e => HivI.out e.symm))).trans z1
         have gl2 := World.block_lt_of_cell? _ _ b2
         obtain ⟨a2, cp2, rfl⟩ := Row.shape hr1
         refine hK.out _ _ (by exact F2) (fun hHeld => ?_)
         clear hK K
         refine rt_yes 15 (some 74) rfl rfl (by kernel_rfl) (by kernel_rfl) (by kernel_rfl) (fun _ _ _ h => h) (by rfl) (v := ?_) ?_ (by assumption) ?_
         rotate_left
         · intro wS hSw
           (try dsimp only at hSw)
           go_simp
           try with_reducible rfl
         simp only [Act.put, List.setIfInBounds_toArray]
         refine wpAnyH_ready (rs := [16]) (by kernel_rfl) (by simp) ?_
         refine AllReadyH.cons (o := _) rfl (fun K hK => ?_) AllReadyH.nil
         go_simp
         (try go_wp2_with (fail))
         refine hK.out _ _ (by exact cell_other F2 HNI.out) (fun hHeld => ?_)
         clear hK K
         refine wpAnyH_done (by kernel_rfl) ?_ _
         have HF : Hid _ := hfin x1 _ hr1 hg1 hown1
         clear hIn hrow hiv b1 z1 F0 F1 F2 b2 z2 hfin hr1 hg1 hown1 gl1 gl2
         go_wp2_with (fail)
         go_roundw
         case rel => exact ⟨j + 1, by omega, by go_num, HF.out⟩
         case measure => simp [intOf]; omega
     · have hjm : ¬ (j : Int) < (m : Int) := by omega
       obtain rfl : j = m := by omega
       have HW : Hid (WentN w wr y n.gather j) := by
        show WentN _ _ _ _ _
        rw [HE.out]
        exact hwj
       clear hwj
       go_wp2_with (fail)
       first | go_end0 | refine bodyPost_ret (results_none rfl _ _ _) rfl ?_
       exact ⟨rfl, HW.out⟩
end Rt
end Go.Proofs.YtieklnlbljejdaaGreatDoor
