/-
  RtNew3 RtNew4 RtNewR
-/
import Derived.Test.YtieklnlbljejdaaGreatDoorG34
namespace Go.Proofs.YtieklnlbljejdaaGreatDoor
open Go.RowKit St
namespace Rt
structure Making (wb W : World) (id : Int) (ms : Nat → Int) (q R Bb : Nat) (B : Nat → Nat) (v : Value) : Prop where
 blk : Blk W R #[.int .i64 id, v, .pointer (some ⟨Bb, 0, none⟩), .slice none 0 0, .int .i64 0] 135
 row : Row W 71 v q (newC id ms B q)
 lk : ∀ i, i < q → Lk W (B i) ((newP (ms i) (8 * id + i + 1)).L.c (.slice none 0 0))
 bel : Below wb.heap.size wb W
 gR : wb.heap.size ≤ R
 gB : ∀ i, i < q → wb.heap.size ≤ B i ∧ B i ≠ R ∧ v.ownBlock ≠ some (B i)
 gV : ∀ k, v.ownBlock = some k → wb.heap.size ≤ k ∧ k ≠ R
 dis : ∀ i j, i < q → j < q → i ≠ j → B i ≠ B j
theorem Making.below {wb W W' : World} {id : Int} {ms : Nat → Int} {q R Bb : Nat} {B : Nat → Nat} {v : Value} (h : Making wb W id ms q R Bb B v) (hb : Below W.heap.size W W') : Making wb W' id ms q R Bb B v :=
 ⟨h.blk.below hb, h.row.below hb, fun i hi => (h.lk i hi).below hb, below_chain h.bel hb, h.gR, h.gB, h.gV, h.dis⟩
theorem newC_congr (id : Int) (ms : Nat → Int) (B B' : Nat → Nat) : ∀ q, (∀ i, i < q → B i = B' i) → newC id ms B q = newC id ms B' q
 | 0, _ => rfl
 | q + 1, h => by
   unfold newC
   rw [newC_congr id ms B B' q (fun i hi => h i (by omega)), h q (by omega)]
theorem cells_rowD (w : World) (D : Array Value) (t : TypeId) (g : Nat) (hg : w.heap.size = g) : ∀ (j : Nat) (u : Value), D.toList[j]? = some u → (w.alloc (.cells D t)).drew.cell? ((⟨g, 0, none⟩ : Addr).add j) = some u := by
 subst hg
 intro j u hu
 rw [add_plain]
 show (w.alloc (.cells D t)).cell? _ = _
 rw [World.cell?_alloc_mark]
 simpa using hu
theorem Making.add {wb W2 x1 : World} {id : Int} {ms : Nat → Int} {q RR Bb : Nat} {B : Nat → Nat} {v : Value} {B' g' cap' : Nat} {D : Array Value} {o : Obj} (h : Making wb W2 id ms q RR Bb B v) (hD : rowOf 71 (ptF (newP (ms q) (8 * id + q + 1)) B' (.slice none 0 0) zRd) = D)
 (hL : Lk W2 B' ((newP (ms q) (8 * id + q + 1)).L.c (.slice none 0 0))) (hB1 : wb.heap.size ≤ B') (hB2 : B' ≠ RR) (hB3 : v.ownBlock ≠ some B') (hB4 : ∀ i, i < q → B i ≠ B')
 (hr : Row x1 71 (.slice (some ⟨g', 0, none⟩) (q + 1) cap') (q + 1) (newC id ms B q ++ D.toList)) (hg : (W2.alloc o).drew.grownBy x1 v.ownBlock) (hown : v.ownBlock = some g' ∨ (W2.alloc o).drew.heap.size ≤ g') :
 Making wb (x1.setCell ⟨RR, 1, none⟩ (.slice (some ⟨g', 0, none⟩) (q + 1) cap')) id ms (q + 1) RR Bb (fun i => if i = q then B' else B i) (.slice (some ⟨g', 0, none⟩) (q + 1) cap') := by
 have hown2 : v.ownBlock = some g' ∨ W2.heap.size ≤ g' := hown.imp_right (fun e => Nat.le_trans (by show W2.heap.size ≤ (W2.alloc o).heap.size; simp) e)
 have hO : v.ownBlock ≠ some RR := fun e => (h.gV _ e).2 rfl
 have hkeep : ∀ k, k < W2.heap.size → v.ownBlock ≠ some k → k ≠ RR → (x1.setCell ⟨RR, 1, none⟩ (.slice (some ⟨g', 0, none⟩) (q + 1) cap')).heap[k]? = W2.heap[k]? := by
  intro k hk h1 h2
  rw [Below.heap_setCell _ _ _ k h2, hg.block k (by show k < (W2.alloc o).heap.size; simp; omega) (fun e => h1 e.symm)]
  exact Below.heap_alloc W2 o k hk
 have hsz : W2.heap.size ≤ x1.heap.size := Nat.le_trans (by show W2.heap.size ≤ (W2.alloc o).heap.size; simp) hg.size
 have hRl := h.blk.lt
 have hgR : g' ≠ RR := by
  intro e
  rcases hown2 with e1 | e1
  · exact hO (by rw [e1, e])
  · omega
 have hwb := h.bel.size
 refine ⟨(blk_far2 h.blk hg hO).set 1 _, ?_, fun i hi => ?_, ⟨hg.os.trans h.bel.os, hg.tape.trans h.bel.tape, hg.output.trans h.bel.output, Nat.le_trans hwb (by simpa using hsz), fun k hk => ?_⟩, h.gR, fun i hi => ?_, fun k hk => ?_, fun i j hi hj hij => ?_⟩
 · have e1 : newC id ms (fun i => if i = q then B' else B i) (q + 1) = newC id ms B q ++ D.toList := by
    show newC id ms (fun i => if i = q then B' else B i) q ++ _ = _
    rw [newC_congr id ms _ B q (fun i hi => by simp [show i ≠ q by omega])]
    simp only [if_true]
    rw [hD]
   rw [e1]
   exact hr.keep (by simp) (fun k hk => Below.heap_setCell _ _ _ k (by
    have hkk : g' = k := by simpa [Value.ownBlock] using hk
    show k ≠ RR
    omega))
 · by_cases e : i = q
   · subst e
     simp only [if_true]
     exact hL.keep (hkeep B' hL.lt hB3 hB2)
   · simp only [e, if_false]
     have hl := h.lk i (by omega)
     exact hl.keep (hkeep (B i) hl.lt (h.gB i (by omega)).2.2 (h.gB i (by omega)).2.1)
 · exact (hkeep k (by omega) (fun e => by have := (h.gV k e).1; omega) (by have := h.gR; omega)).trans (h.bel.block k hk)
 · have hv' : ∀ k, k < W2.heap.size → v.ownBlock ≠ some k → Value.ownBlock (.slice (some ⟨g', 0, none⟩) (q + 1) cap') ≠ some k := by
    intro k hk h1 e
    have hkk : g' = k := by simpa [Value.ownBlock] using e
    rcases hown2 with e1 | e1
    · exact h1 (by rw [e1, hkk])
    · omega
   by_cases e : i = q
   · subst e
     simp only [if_true]
     exact ⟨hB1, hB2, hv' B' hL.lt hB3⟩
   · simp only [e, if_false]
     have hb := h.gB i (by omega)
     exact ⟨hb.1, hb.2.1, hv' (B i) (h.lk i (by omega)).lt hb.2.2⟩
 · have hkk : g' = k := by simpa [Value.ownBlock] using hk
   subst hkk
   refine ⟨?_, hgR⟩
   rcases hown2 with e1 | e1
   · exact (h.gV _ e1).1
   · omega
 · by_cases e1 : i = q
   · have e2 : j ≠ q := by omega
     simp only [e1, e2, if_true, if_false]
     exact fun e => hB4 j (by omega) e.symm
   · by_cases e2 : j = q
     · simp only [e1, e2, if_true, if_false]
       exact hB4 i (by omega)
     · simp only [e1, e2, if_false]
       exact h.dis i j (by omega) (by omega) hij
end Rt
end Go.Proofs.YtieklnlbljejdaaGreatDoor

namespace Go.Proofs.YtieklnlbljejdaaGreatDoor
open Go.RowKit St
namespace Rt
theorem newP_ok {m mg : Int} (hg : 1 ≤ mg ∧ mg ≤ 255) : LOk (newP m mg).L := ⟨by show okSt 1 0 0 = true; decide, by show (0 : Int) ≤ 0; omega, by show (0 : Int) ≤ 255; omega, by show 0 ≤ mg; omega, by show mg ≤ 255; omega, by show 0 ≤ mg; omega, by show mg ≤ 255; omega⟩
def newZ (R g cap Bb : Nat) (B : Nat → Nat) (m : FM) (n : Nat) : Zt := ⟨R, g, cap, B, fun _ => .slice none 0 0, Bb, { m with no := fun k => m.no k ∨ k = R ∨ k = g ∨ ∃ i, i < n ∧ k = B i }, .slice none 0 0⟩
theorem newZ_mine {R g cap Bb : Nat} {B : Nat → Nat} {m : FM} {n k : Nat} (h : (newZ R g cap Bb B m n).mine n k) : k = R ∨ k = g ∨ ∃ i, i < n ∧ k = B i := by
 rcases h with e | e | ⟨i, hi, e | e⟩ | e
 · exact .inl e
 · exact .inr (.inl e)
 · exact .inr (.inr ⟨i, hi, e⟩)
 · simp [newZ, Value.ownBlock] at e
 · simp [newZ, Value.ownBlock] at e
theorem Making.done {wb W : World} {id : Int} {ms : Nat → Int} {n RR Bb : Nat} {B : Nat → Nat} {v : Value} {m : FM} {k : Nat} (h : Making wb W id ms n RR Bb B v) (hn : 1 ≤ n ∧ n ≤ 3) (hid : 1 ≤ id ∧ id ≤ 6) (hT : TabOk wb)
 (hB : BR wb Bb m k (fun x => if x = id then some (1, []) else none) (fun _ x => if x = id then some (1, []) else none)) (hno : ¬ m.no Bb ∧ ¬ m.no m.g ∧ ∀ b, (b = m.bm ∨ b ∈ m.bs) → ¬ m.no b) (hbl : m.bs.length = n) :
 ∃ g cap, v = .slice (some ⟨g, 0, none⟩) n cap ∧ RtR W (newZ RR g cap Bb B m n) (newRt id n ms) ∧ wb.heap.size ≤ g := by
 rcases h.row.2 with ⟨_, h0⟩ | ⟨g, cap, rfl, hgl, hcap, hmax, hc, hf⟩
 · omega
 have hgv := h.gV g rfl
 have h0 := hT.lt
 have hBbl : Bb < wb.heap.size := by obtain ⟨_, _, hF, _⟩ := hB.ex; exact hF.lt
 have hfgl : m.g < wb.heap.size := by obtain ⟨_, _, hF, _⟩ := hB.ex; exact hF.row.lt _ rfl
 have hno' : ∀ j, (j = RR ∨ j = g ∨ ∃ i, i < n ∧ j = B i) → wb.heap.size ≤ j ∧ j < W.heap.size := by
  intro j hj
  rcases hj with rfl | rfl | ⟨i, hi, rfl⟩
  · exact ⟨h.gR, h.blk.lt⟩
  · exact ⟨hgv.1, hgl⟩
  · exact ⟨(h.gB i hi).1, (h.lk i hi).lt⟩
 have hbs := hB.still h.bel.size (fun j hj _ => h.bel.block j hj) hno.1 hno.2.1 hno.2.2 (fun j => m.no j ∨ j = RR ∨ j = g ∨ ∃ i, i < n ∧ j = B i) (fun j hj => hj.imp_right (fun e => (hno' j e).1)) (fun j hj => hj.elim (fun e => Nat.lt_of_lt_of_le (hB.nob j e) h.bel.size) (fun e => (hno' j e).2))
 have hlen := newC_length id ms B n
 refine ⟨g, cap, rfl, ⟨hn.1, hn.2, hcap, hid, h.blk, fun i hi => ?_, Row.nil _ 3, hbs.six, hbl, fun j hj => .inr (newZ_mine hj), ⟨fun e => ?_, fun e => ?_, fun b hb e => ?_⟩, ⟨fun e => hgv.2 e.symm, by have := h.gR; show RR ≠ 0; omega, fun i hi => ⟨(h.gB i hi).2.1, by simp [newZ, Value.ownBlock]⟩⟩, fun i j hi hj hij => ⟨h.dis i j hi hj hij, fun k hk => by simp [newZ, Value.ownBlock] at hk⟩, fun i j _ _ => by simp [newZ, Value.ownBlock], fun k hk => by simp [newZ, Value.ownBlock] at hk, ⟨by simp [newZ, Value.ownBlock], fun b hb e => ?_⟩⟩, hgv.1⟩
 · have hi' : i < n := hi
   have hBi := h.gB i hi'
   refine ⟨⟨zRd, fun j hj => ⟨?_, ?_⟩, RdF.zero⟩, h.lk i hi', Row.nil _ 1, by show (0 : Nat) ≤ _; omega, newP_ok (m := ms i) (mg := 8 * id + i + 1) (by omega), fun e => hBi.2.2 (by show some g = some (B i); rw [show g = B i from e]), by simp [newZ, Value.ownBlock], by simp [newZ, Value.ownBlock], ⟨by show g ≠ 0; omega, by show B i ≠ 0; omega, by simp [newZ, Value.ownBlock]⟩⟩
   · exact hc (i * 71 + j) _ (newC_at id ms B n i j hi' hj)
   · exact (hf (i * 71 + j) (by have : (i + 1) * 71 ≤ cap * 71 := Nat.mul_le_mul_right 71 (by omega); omega)).2
 · rcases e with e | e
   · exact hno.1 e
   · have := (hno' _ e).1; have h9 : wb.heap.size ≤ Bb := this; omega
 · rcases e with e | e
   · exact hno.2.1 e
   · have := (hno' _ e).1; have h9 : wb.heap.size ≤ m.g := this; omega
 · rcases e with e | e
   · exact hno.2.2 b hb e
   · have h8 := (hno' b e).1; have h9 := hB.mlt b hb; omega
 · exact cell_not_map (hT 0 0 (by decide) (by decide)) (hB.maps b hb) e.symm
end Rt
end Go.Proofs.YtieklnlbljejdaaGreatDoor

namespace Go.Proofs.YtieklnlbljejdaaGreatDoor
open Go.RowKit St
namespace Rt
set_option maxRecDepth 100000 in
set_option maxHeartbeats 2000000 in
theorem newR_any (id : Int) (b off n cap : Nat) (ms : Nat → Int) (w : World) (hT : TabOk w) (hid : 1 ≤ id ∧ id ≤ 6) (hn : 1 ≤ n ∧ n ≤ 3) (hms : ∀ i, i < n → w.cell? ⟨b, off + i, none⟩ = some (.int .i64 (ms i))) (hm : ∀ i, i < n → 1 ≤ ms i ∧ ms i ≤ 20) (X : Nat → Prop) (hX : ∀ k, X k → k < w.heap.size) :
 Calls Tryz.prog 17 #[.int .i64 id, .slice (some ⟨b, off, none⟩) n cap] w fun e w' => ∃ z, e = .returned (.tuple #[.pointer (some ⟨z.R, 0, none⟩), .nilIface]) ∧ RtR w' z (newRt id n ms) ∧ Below w.heap.size w w' ∧ (∀ k, z.mine n k → w.heap.size ≤ k) ∧ w.heap.size ≤ z.fm.bm ∧ (∀ x ∈ z.fm.bs, w.heap.size ≤ x) ∧ ∀ k, X k → z.fm.no k := by
 have hz := zeroPt
 have hsz := sizePt
 obtain ⟨i0, hi, hz0, hz1, hz2⟩ := info_parts infoPort
 obtain ⟨Zp, hZp⟩ : ∃ Zp, rowOf 71 zPt = Zp := ⟨_, rfl⟩
 have hZs : Zp.size = 71 := by rw [← hZp]; exact rowOf_size _ _
 rw [hZp] at hz hz0
 have hZne : ¬ Zp = #[] := fun e => by rw [e] at hZs; simp at hZs
 have hnb := new_base n w hn
 have g1 : ¬ id < 1 := by omega
 have g2 : ¬ 6 < id := by omega
 clear hZp
 go_enter Tryz.func17, Tryz.ntmps17
 go_wp2_with (fail)
 refine hnb.mono ?_
 rintro e w1 ⟨rfl, m, hml, hB1, b1, m1, m2, m3⟩
 have hB1 := hB1.avoid X (fun k e => Nat.lt_of_lt_of_le (hX k e) b1.size)
 obtain ⟨m', hm'⟩ : ∃ m' : FM, ({ m with no := X } : FM) = m' := ⟨_, rfl⟩
 have hno : m'.no = X := by rw [← hm']
 have hml : m'.bs.length = n := by rw [← hm']; exact hml
 have m1 : w.heap.size ≤ m'.bm := by rw [← hm']; exact m1
 have m3 : ∀ x ∈ m'.bs, w.heap.size ≤ x := by rw [← hm']; exact m3
 have m2 : w.heap.size ≤ m'.g := by rw [← hm']; exact m2
 rw [hm'] at hB1
 have hse := set_base (w.heap.size + 1) m' 0 (fun _ => none) (fun _ _ => none) id 1 none 0 0 [] w1 hB1 (inR_small (by omega)) ⟨rfl, .inl rfl⟩ (fun _ => rfl) (by omega) (by unfold stF; rw [if_neg (by omega)]; rfl)
 clear hnb
 go_wp2_with (fail)
 refine hse.mono ?_
 rintro e wb ⟨rfl, hBR, hKM⟩
 clear hse
 have bb : Below w.heap.size w wb := KeptM.below b1 hKM m1 m3
 have H0 : Making wb (wb.alloc (.cells #[.int .i64 id, .slice none 0 0, .pointer (some ⟨w.heap.size + 1, 0, none⟩), .slice none 0 0, .int .i64 0] 135)) id ms 0 wb.heap.size (w.heap.size + 1) (fun _ => 0) (.slice none 0 0) := ⟨Blk.new wb _ _, Row.nil _ _, fun i hi => by omega, below_alloc _ _, Nat.le_refl _, fun i hi => by omega, fun k hk => by simp [Value.ownBlock] at hk, fun i j hi => by omega⟩
 have hcm : ∀ W, Below wb.heap.size wb W → ∀ i, i < n → W.cell? ⟨b, off + i, none⟩ = some (.int .i64 (ms i)) := fun W hW i hi => by
  have hc := (World.cell?_of_block (a := ⟨b, off + i, none⟩) (bb.block b (World.block_lt_of_cell? _ _ (hms i hi)))).trans (hms i hi)
  exact (World.cell?_of_block (a := ⟨b, off + i, none⟩) (hW.block b (World.block_lt_of_cell? _ _ hc))).trans hc
 have hTb : TabOk wb := hT.below bb
 have HBR : Hid _ := hBR
 have HBB : Hid _ := bb
 have HCM : Hid _ := hcm
 have HH0 : Hid _ := H0
 have HMM : Hid (w.heap.size ≤ m'.bm ∧ (∀ x ∈ m'.bs, w.heap.size ≤ x) ∧ m'.bs.length = n ∧ (¬ m'.no (w.heap.size + 1) ∧ ¬ m'.no m'.g ∧ ∀ b, (b = m'.bm ∨ b ∈ m'.bs) → ¬ m'.no b) ∧ ∀ k, X k → m'.no k) := by
  refine ⟨m1, m3, hml, ⟨fun e => ?_, fun e => ?_, fun b hb e => ?_⟩, fun k hk => by rw [hno]; exact hk⟩
  · rw [hno] at e
    have h1 := hX _ e
    omega
  · rw [hno] at e
    have h1 := hX _ e
    omega
  · rw [hno] at e
    have h1 := hX _ e
    rcases hb with rfl | hb
    · omega
    · have h2 := m3 b hb
      omega
 obtain ⟨Bb, hBb⟩ : ∃ Bb, w.heap.size + 1 = Bb := ⟨_, rfl⟩
 rw [hBb] at HH0 HBR HMM
 clear hBR bb hcm H0 b1 hKM hB1 m1 m2 m3 hml hms hno hm'
 go_wp2_with (fail)
 try rw [hBb]
 obtain ⟨RR, hRR⟩ : ∃ RR, wb.heap.size = RR := ⟨_, rfl⟩
 rw [hRR] at HH0
 rw [hRR]
 have HRR : Hid _ := hRR
 have hn1 := hn.1
 have hn2 := hn.2
 have hid1 := hid.1
 have hid2 := hid.2
 clear hn hid hRR
 go_loopw [39] (fun x wr => ∃ (q : Nat) (B : Nat → Nat) (v : Value), q ≤ n ∧ x = .int .i64 q ∧ Making wb wr id ms q RR Bb B v) (fun x _ => n - (intOf x).toNat)
 case atStart => exact ⟨0, _, _, Nat.zero_le _, rfl, HH0.out⟩
 case round =>
  obtain ⟨q, B, v, hq, rfl, hM⟩ := hrel
  by_cases hlt : q < n
  · have hlt' : (q : Int) < (n : Int) := by omega
    have hq0 : (0 : Int) ≤ (q : Int) := by omega
    have hmc := HCM.out _ hM.bel q hlt
    have hml := World.block_lt_of_cell? _ _ hmc
    have hmq := hm q hlt
    have hnp := newPort_any (ms q) (8 * id + q + 1) wr (hTb.below hM.bel) hmq (by omega)
    have HM : Hid _ := hM
    clear hM
    go_wp2_with (fail)
    refine hnp.mono ?_
    rintro e w1 ⟨B', rfl, hLk, hBg, bN⟩
    clear hnp
    obtain ⟨D, hD⟩ : ∃ D, rowOf 71 (ptF (newP (ms q) (8 * id + q + 1)) B' (.slice none 0 0) zRd) = D := ⟨_, rfl⟩
    have hDs : D.size = 71 := by rw [← hD]; exact rowOf_size _ _
    have hone : D.all (·.oneCell') = true := by rw [← hD]; exact ptF_one RdF.zero rfl
    have hDl : D.toList.length = 1 * 71 := by rw [Array.length_toList, hDs]
    have hone2 : ∀ u ∈ D.toList, u.oneCell' = true := fun u hu => (Array.all_eq_true_iff_forall_mem.1 hone) u (by simpa using hu)
    rw [hD]
    have hnew := World.setRow_alloc_new w1 Zp D 142
    have M1 := HM.out.below bN
    have bA := below_alloc w1 (.cells D 142)
    have M2 := M1.below bA
    have hV : Blk (w1.alloc (.cells D 142)) w1.heap.size D 142 := Blk.new _ _ _
    have hLk2 := hLk.below bA
    go_wp2_with (refine wpList_store_blk0 _ rfl (.tmp 11) (.tmp 52) 142 rfl rfl w1.heap.size Zp D rfl rfl (Blk.new _ _ _) (by rw [hZs, hDs]) (by rw [hDs]; exact hsz) hone ?_; rw [hnew])
    obtain ⟨W2, hW2⟩ : ∃ W2, w1.alloc (.cells D 142) = W2 := ⟨_, rfl⟩
    obtain ⟨Y, hY⟩ : ∃ Y, w1.heap.size = Y := ⟨_, rfl⟩
    rw [hW2] at M2 hV hLk2
    rw [hY] at hV
    rw [hW2, hY]
    have hBf : B' < Y := by rw [← hY]; exact hLk.lt
    have hMY : wb.heap.size ≤ B' := by have h1 := HM.out.bel.size; omega
    have c1 : W2.cell? ⟨RR, 1, none⟩ = some v := M2.blk.cell 1
    have cl := M2.blk.lt
    have hblk := M2.blk
    have hrow := M2.row
    have HO : Hid (v.ownBlock ≠ some RR) := fun e => (M2.gV _ e).2 rfl
    have HM2 : Hid _ := M2
    have hBwr : wr.heap.size < B' := hBg
    have HOY : Hid (v.ownBlock ≠ some Y) := fun e => by have h1 := M1.row.lt Y e; omega
    have hM0l : RR < Y := by have h1 := M1.blk.lt; omega
    clear hnew M1 bA M2 hW2 hLk bN
    have hYR : Y ≠ RR := by intro e; have h1 := hM0l; omega
    have hV2 : Blk (W2.alloc (.cells D 142)).drew Y D 142 := Blk.below hV (below_drew (below_alloc _ _))
    have c1b : (W2.alloc (.cells D 142)).drew.cell? ⟨RR, 1, none⟩ = some v := cell_alloc c1
    have hst : ∀ wS : World, Blk wS Y D 142 → (Instr.loadAt 142 (.pointer (some ⟨Y, 0, none⟩))).run Tryz.prog wS = .ok (.agg D) wS := fun wS hS => by
     simp only [Instr.loadAt, Instr.sureAddr, Sem.run_bind, Sem.run_pure, Result.andThen]
     exact run_loadVar_row wS Y 142 142 D (0, 0) _ hS Tryz.underlying142 rfl (by rw [hDs]; exact hsz)
    have hb2 : B' ≠ RR := by have h1 := HM.out.blk.lt; omega
    have hb3 : v.ownBlock ≠ some B' := fun e => by have h1 := HM.out.row.lt B' e; omega
    have hb4 : ∀ i, i < q → B i ≠ B' := fun i hi e => by have h1 := (HM.out.lk i hi).lt; omega
    have HD : Hid _ := hD
    clear hD
    refine wp_region_held_drew (S := fun x => Blk x Y D 142) (by kernel_rfl) hV (fun hHeld => ?_)
    refine rt_yes 0 (some 57) rfl rfl (by kernel_rfl) (by kernel_rfl) (by kernel_rfl) (fun _ _ _ h => h) (by rfl) (v := ?_) ?_ (by assumption) ?_
    rotate_left
    · intro wS hSw
      (try dsimp only at hSw)
      go_simp
      try with_reducible rfl
    simp only [Act.put, List.setIfInBounds_toArray, List.set_cons_zero, List.set_cons_succ]
    refine rt_yes 1 (some 58) rfl rfl (by kernel_rfl) (by kernel_rfl) (by kernel_rfl) (fun _ _ _ h => h) (by rfl) (v := ?_) ?_ (by assumption) ?_
    rotate_left
    · intro wS hSw
      (try dsimp only at hSw)
      go_simp
      try with_reducible rfl
    simp only [Act.put, List.setIfInBounds_toArray, List.set_cons_zero, List.set_cons_succ]
    refine rt_yes 2 (some 59) rfl rfl (by kernel_rfl) (by kernel_rfl) (by kernel_rfl) (fun _ _ _ h => h) (by rfl) (v := ?_) ?_ (by assumption) ?_
    rotate_left
    · intro wS hSw
      (try dsimp only at hSw)
      go_simp
      try with_reducible rfl
    simp only [Act.put, List.setIfInBounds_toArray, List.set_cons_zero, List.set_cons_succ]
    refine rt_yes 3 (some 60) rfl rfl (by kernel_rfl) (by kernel_rfl) (by kernel_rfl) (fun _ _ _ h => h) (by rfl) (v := ?_) ?_ (by assumption) ?_
    rotate_left
    · intro wS hSw
      (try dsimp only at hSw)
      go_simp
      try with_reducible rfl
    simp only [Act.put, List.setIfInBounds_toArray, List.set_cons_zero, List.set_cons_succ]
    refine rt_yes 5 (some 62) rfl rfl (by kernel_rfl) (by kernel_rfl) (by kernel_rfl) (fun _ _ _ h => h) (by rfl) (v := .agg D) ?_ (by assumption) ?_
    · intro wS hSw
      have h7 := hst wS hSw
      simp [execOp, Act.eval, h7]
    simp only [Act.put, List.setIfInBounds_toArray, List.set_cons_zero, List.set_cons_succ]
    refine wpAnyH_ready (rs := [4, 6]) (by kernel_rfl) (by simp) ?_
    refine AllReadyH.cons (o := _) rfl (fun K hK => ?_) (AllReadyH.cons (o := _) rfl (fun K hK => ?_) AllReadyH.nil)
    · go_simp
      (try go_wp2_with (fail))
      refine hK.out _ _ (by exact hV) (fun hHeld => ?_)
      clear hK K
      refine wpAnyH_ready (rs := [6]) (by kernel_rfl) (by simp) ?_
      refine AllReadyH.cons (o := _) rfl (fun K hK => ?_) AllReadyH.nil
      go_simp
      rw [foldl_fill D _ (by rw [hDs]; rfl) 71 hDs]
      refine hK.out _ _ (by exact hV2) (fun hHeld => ?_)
      clear hK K
      refine wpAnyH_ready (rs := [7]) (by kernel_rfl) (by simp) ?_
      refine AllReadyH.cons (o := _) rfl (fun K hK => ?_) AllReadyH.nil
      refine step_append_row (by rfl) (.tmp 61) (.tmp 63) 133 (by rfl) 142 i0 (.agg Zp) 71 144 Tryz.underlying133 hi hz0 hz1 hz2 hZs (by decide) v q (newC id ms B q) (by rfl) ((hrow.alloc _).drew) _ 1 1 D.toList (by rfl) hDl (by decide) (cells_rowD _ _ _ _ rfl) hone2 (by unfold maxLen; omega) (by omega) ?_
      intro g' cap' x1 hr1 hg1 hown1
      have e11 := blk_far2 hblk hg1 HO.out
      have e12 := blk_far2 hV hg1 HOY.out
      have f1 := e11.frozen 1
      have k1 : x1.cell? ⟨RR, 1, none⟩ = some v := e11.cell 1
      refine hK.out _ _ (by exact e12) (fun hHeld => ?_)
      clear hK K
      refine rt_yes 8 (some 65) rfl rfl (by kernel_rfl) (by kernel_rfl) (by kernel_rfl) (fun _ _ _ h => h) (by rfl) (v := ?_) ?_ (by assumption) ?_
      rotate_left
      · intro wS hSw
        (try dsimp only at hSw)
        go_simp
        try with_reducible rfl
      simp only [Act.put, List.setIfInBounds_toArray]
      refine rt_yes 9 (some 66) rfl rfl (by kernel_rfl) (by kernel_rfl) (by kernel_rfl) (fun _ _ _ h => h) (by rfl) (v := ?_) ?_ (by assumption) ?_
      rotate_left
      · intro wS hSw
        (try dsimp only at hSw)
        go_simp
        try with_reducible rfl
      simp only [Act.put]
      refine wpAnyH_ready (rs := [10]) (by kernel_rfl) (by simp) ?_
      refine AllReadyH.cons (o := _) rfl (fun K hK => ?_) AllReadyH.nil
      go_simp
      (try go_wp2_with (fail))
      refine hK.out _ _ (by exact e12.other hYR _) (fun hHeld => ?_)
      clear hK K
      refine wpAnyH_done (by kernel_rfl) ?_ _
      have HAdd : Hid _ := Making.add HM2.out HD.out hLk2 hMY hb2 hb3 hb4 hr1 hg1 hown1
      clear hr1 hg1 hown1 e11 e12 f1 k1
      go_wp2_with (fail)
      go_roundw
      case rel => exact ⟨q + 1, _, _, by omega, by go_num, HAdd.out⟩
      case measure => simp [intOf]; omega
    · go_simp
      rw [foldl_fill D _ (by rw [hDs]; rfl) 71 hDs]
      refine hK.out _ _ (by exact hV2) (fun hHeld => ?_)
      clear hK K
      refine wpAnyH_ready (rs := [4]) (by kernel_rfl) (by simp) ?_
      refine AllReadyH.cons (o := _) rfl (fun K hK => ?_) AllReadyH.nil
      go_simp
      (try go_wp2_with (fail))
      refine hK.out _ _ (by exact hV2) (fun hHeld => ?_)
      clear hK K
      refine wpAnyH_ready (rs := [7]) (by kernel_rfl) (by simp) ?_
      refine AllReadyH.cons (o := _) rfl (fun K hK => ?_) AllReadyH.nil
      refine step_append_row (by rfl) (.tmp 61) (.tmp 63) 133 (by rfl) 142 i0 (.agg Zp) 71 144 Tryz.underlying133 hi hz0 hz1 hz2 hZs (by decide) v q (newC id ms B q) (by rfl) ((hrow.alloc _).drew) _ 1 1 D.toList (by rfl) hDl (by decide) (cells_rowD _ _ _ _ rfl) hone2 (by unfold maxLen; omega) (by omega) ?_
      intro g' cap' x1 hr1 hg1 hown1
      have e11 := blk_far2 hblk hg1 HO.out
      have e12 := blk_far2 hV hg1 HOY.out
      have f1 := e11.frozen 1
      have k1 : x1.cell? ⟨RR, 1, none⟩ = some v := e11.cell 1
      refine hK.out _ _ (by exact e12) (fun hHeld => ?_)
      clear hK K
      refine rt_yes 8 (some 65) rfl rfl (by kernel_rfl) (by kernel_rfl) (by kernel_rfl) (fun _ _ _ h => h) (by rfl) (v := ?_) ?_ (by assumption) ?_
      rotate_left
      · intro wS hSw
        (try dsimp only at hSw)
        go_simp
        try with_reducible rfl
      simp only [Act.put, List.setIfInBounds_toArray]
      refine rt_yes 9 (some 66) rfl rfl (by kernel_rfl) (by kernel_rfl) (by kernel_rfl) (fun _ _ _ h => h) (by rfl) (v := ?_) ?_ (by assumption) ?_
      rotate_left
      · intro wS hSw
        (try dsimp only at hSw)
        go_simp
        try with_reducible rfl
      simp only [Act.put]
      refine wpAnyH_ready (rs := [10]) (by kernel_rfl) (by simp) ?_
      refine AllReadyH.cons (o := _) rfl (fun K hK => ?_) AllReadyH.nil
      go_simp
      (try go_wp2_with (fail))
      refine hK.out _ _ (by exact e12.other hYR _) (fun hHeld => ?_)
      clear hK K
      refine wpAnyH_done (by kernel_rfl) ?_ _
      have HAdd : Hid _ := Making.add HM2.out HD.out hLk2 hMY hb2 hb3 hb4 hr1 hg1 hown1
      clear hr1 hg1 hown1 e11 e12 f1 k1
      go_wp2_with (fail)
      go_roundw
      case rel => exact ⟨q + 1, _, _, by omega, by go_num, HAdd.out⟩
      case measure => simp [intOf]; omega
  · have hqn : q = n := by omega
    subst hqn
    obtain ⟨g, cp, hv, hR, hgg⟩ := hM.done ⟨hn1, hn2⟩ ⟨hid1, hid2⟩ hTb HBR.out HMM.out.2.2.2.1 HMM.out.2.2.1
    have HF : Hid (∃ z : Zt, z.R = RR ∧ RtR wr z (newRt id q ms) ∧ Below w.heap.size w wr ∧ (∀ k, z.mine q k → w.heap.size ≤ k) ∧ w.heap.size ≤ z.fm.bm ∧ (∀ x ∈ z.fm.bs, w.heap.size ≤ x) ∧ ∀ k, X k → z.fm.no k) := by
     refine ⟨_, rfl, hR, below_chain HBB.out hM.bel, fun k hk => ?_, HMM.out.1, HMM.out.2.1, fun k hk => .inl (HMM.out.2.2.2.2 k hk)⟩
     have hs := HBB.out.size
     rcases newZ_mine hk with rfl | rfl | ⟨i, hi, rfl⟩
     · have := hM.gR; omega
     · omega
     · have := (hM.gB i hi).1; omega
    have hge : ¬ (q : Int) < (q : Int) := by omega
    clear hM hR hgg hv
    go_wp2_with (fail)
    go_ret2
    obtain ⟨z, hz1, hz2⟩ := HF.out
    exact ⟨z, by rw [hz1]; rfl, hz2⟩
end Rt
end Go.Proofs.YtieklnlbljejdaaGreatDoor
