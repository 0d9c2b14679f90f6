/-
  FloodRise3 FloodSee FloodNew
-/
import Derived.Test.YtieklnlbljejdaaGreatDoorG13
namespace Go.Proofs.YtieklnlbljejdaaGreatDoor
open Go.RowKit St
theorem grow_chain {w1 w2 w3 : World} {o o2 : Obj} {row : Option Nat} (k2 : Below (w1.alloc o).heap.size (w1.alloc o) w2) (hg3 : (w2.alloc o2).grownBy w3 row) : w1.grownBy w3 row := by
 have s1 : (w1.alloc o).heap.size = w1.heap.size + 1 := by simp
 have s2 : (w2.alloc o2).heap.size = w2.heap.size + 1 := by simp
 have hk := k2.size
 have b1 := below_alloc w1 o
 have b2 := below_alloc w2 o2
 refine ⟨hg3.os.trans (b2.os.trans (k2.os.trans b1.os)), hg3.tape.trans (b2.tape.trans (k2.tape.trans b1.tape)), hg3.output.trans (b2.output.trans (k2.output.trans b1.output)), by have := hg3.size; omega, fun i hi hne => ?_⟩
 exact (hg3.block i (by omega) hne).trans ((b2.block i (by omega)).trans ((k2.block i (by omega)).trans (b1.block i hi)))
set_option maxRecDepth 100000 in
set_option maxHeartbeats 4000000 in
theorem rising_any (b n : Nat) (f : Int → Option SV) (es : Int → List Opt) (w : World) (h : SMap w b n f)
 (hf : ∀ k s, inR k → f k = some s → (1 ≤ k ∧ k ≤ 6) ∧ s.own = k ∧ OptR w s.a s.n (es k) ∧ NilOk s.a s.cap ∧ s.n ≤ 1000000) :
 Calls Tryz.prog 160 #[.map (some b)] w fun e w' => ∃ v ts, e = .returned v ∧ Risen w w' f es v ts := by
 obtain ⟨i0, hi, hz0, hz1, hz2⟩ := info_parts infoState
 obtain ⟨D, hown, hat0⟩ := h.own
 have hbw := h.lt
 have hz := zeroState
 have H0 : Hid (∀ k, inR k → f k = none → ∀ z, D.atKey (.int .i64 k) z = z) := fun k hk e => by have := hat0 k hk; rw [e] at this; exact this
 have H1 : Hid (∀ k s, inR k → f k = some s → ∀ z, D.atKey (.int .i64 k) z = .held s) := fun k s hk e => by have := hat0 k hk; rw [e] at this; exact this
 have HF : Hid _ := hf
 clear hat0 h hf
 go_enter Tryz.func160, Tryz.ntmps160
 go_wp2_with (first
  | (at_range; refine wpList_range_own _ rfl _ 211 rfl 3 40 keyLaw Tryz.underlying211 elemR b n _ rfl hown ?_; intro w0 hrg0 hg0 hs0)
  | fail)
 go_frame
 go_loopw [3] (fun v wr => ∃ (left : Lit → Bool) (cnt : Nat) (out : List SV), wr.ranges Tryz.prog 3 elemR b w.heap.size n D left cnt ∧ w.heap.size < wr.heap.size ∧ Col w wr f es left v out)
  (fun _ wr => wr.rangeLeft b w.heap.size)
 case atStart =>
  refine ⟨_, _, [], hrg0, by omega, ⟨Row.nil _ 3, fun g hg => by simp [Value.ownBlock] at hg, fun s hs => by simp at hs, List.Pairwise.nil, fun k hk h1 h2 => ?_, ⟨hg0.os, hg0.tape, hg0.output, hg0.size, fun i hi => hg0.block i hi (by simp)⟩⟩⟩
  cases e : f k with
  | none => rw [e] at h1; cases h1
  | some s =>
    rw [Maps.has_true_of_atKey (H1.out k s hk e)] at h2
    cases h2
 case round =>
  clear hrg0 hg0 hs0 hown
  obtain ⟨left, cnt, out, hrg, hww, hC⟩ := hrel
  go_wp2_with (first
   | (at_next; refine wpList_next_ranges _ rfl _ rfl 3 keyLaw elemR (Value.int .i64) SV.v (fun key kl hkey => by obtain ⟨x, rfl, _⟩ := Maps.keyOf_int_inv Tryz.underlying3 hkey; exact ⟨x, rfl⟩) (fun v y hv => by obtain ⟨s, rfl, _⟩ := elemR_inv hv; exact ⟨s, rfl⟩) b w.heap.size n _ _ _ rfl hrg ?_ ?_)
   | fail)
  · intro hc0 hl0
    have h6 := hC.few (fun k s hk e => (HF.out k s hk e).1)
    rcases hC.row.2 with ⟨hv, hn0⟩ | ⟨g, cap, hv, _⟩
    · subst hv
      have HR : Hid _ := (hC.risen0 hl0 rfl).1
      have hso := sort_nil wr
      clear hC hrg hl0 hn0 h6
      go_wp2_with (fail)
      refine hso.mono ?_
      rintro e w2 ⟨rfl, rfl⟩
      clear hso
      go_wp2_with (fail)
      go_ret
      exact ⟨_, _, rfl, HR.out⟩
    · subst hv
      have hso := sort_any g out.length cap out wr hC.row.sr rfl h6 hC.df
      have HC : Hid _ := hC
      have HL : Hid _ := hl0
      clear hC hrg hl0 h6
      go_wp2_with (fail)
      refine hso.mono ?_
      rintro e w2 ⟨rfl, ts, hS, hp, hr, hg⟩
      have HR : Hid _ := HC.out.risen HL.out hS hp hr hg
      clear hso hS hp hr hg
      go_wp2_with (fail)
      go_ret
      exact ⟨_, _, rfl, HR.out⟩
  · intro x c kl yd yp w1 cnt1 hkey hlx hv hat hrg1 hlt1 hg1 hs1 hen
    obtain ⟨x', ex, rfl, hwx⟩ := Maps.keyOf_int_inv Tryz.underlying3 hkey
    cases ex
    have hrx := inR_of_wf hwx
    obtain ⟨cw, cs, ca, cn, cc⟩ := c
    rw [elemR_v] at hv
    have hy : yd = .held ⟨cw, cs, ca, cn, cc⟩ := by have := Option.some.inj hv; simp only [Prod.mk.injEq] at this; exact this.1.symm
    have hfx : f x = some ⟨cw, cs, ca, cn, cc⟩ := by
     cases e : f x with
     | none =>
       have h1 := H0.out x hrx e .nil
       rw [hat, hy] at h1
       cases h1
     | some s =>
       have h1 := H1.out x s hrx e .nil
       rw [hat, hy] at h1
       cases h1
       rfl
    obtain ⟨hx6, hxo, hopt, hnil, hcn⟩ := HF.out x _ hrx hfx
    simp only at hxo hopt hnil hcn
    subst hxo
    have h6 := hC.few (fun k s hk e => (HF.out k s hk e).1)
    have hen' : (Instr.entry (.pointer (some ⟨w.heap.size, 0, none⟩))).run Tryz.prog w1 = .ok (.tuple #[.int .i64 cw, .agg #[.int .i64 cw, .int .i64 cs, .slice ca cn cc]]) w1 := hen
    have hb1 : Below w.heap.size w w1 := ⟨hg1.os.trans hC.bel.os, hg1.tape.trans hC.bel.tape, hg1.output.trans hC.bel.output, Nat.le_trans hC.bel.size hg1.size, fun i hi => (hg1.block i (by omega) (fun e => by simp at e; omega)).trans (hC.bel.block i hi)⟩
    have hcp := copy_any cw cs ca cn cc (es cw) (w1.alloc (.cells #[.int .i64 cw, .int .i64 cs, .slice ca cn cc] 40)) hcn hnil (hopt.below (hb1.alloc hb1.size _))
    have HC : Hid (Col w wr f es left u3 out) := hC
    have HX : Hid (left (.int .i64 cw) = true ∧ inR cw ∧ f cw = some ⟨cw, cs, ca, cn, cc⟩ ∧ wr.grownBy w1 (some w.heap.size) ∧ w1.heap.size = wr.heap.size ∧ w.heap.size < wr.heap.size ∧ out.length ≤ 6) := ⟨hlx, hrx, hfx, hg1, hs1, hww, h6⟩
    have HG : Hid (w1.ranges Tryz.prog 3 elemR b w.heap.size n D (fun z => left z && !z.sameKey (.int .i64 cw)) cnt1) := hrg1
    have HM : Hid (cnt1 < cnt) := hlt1
    have HO : Hid (wr.rangeLeft b w.heap.size = cnt) := hrg.left_eq
    clear hC hlx hrx hfx hg1 hs1 hww h6 hrg1 hlt1 hrg hen hat hy hv hkey hwx hx6 hopt hnil hcn hb1
    go_wp2_with (fail)
    refine hcp.mono ?_
    rintro e w2 ⟨⟨va, vc, rfl, vo, vn, vl, vnew⟩, k2⟩
    clear hcp hen'
    have hrow2 : Row w2 3 u3 out.length (svC out) := by
     obtain ⟨q1, q2, q3, q4, q5, q6, q7⟩ := HX.out
     have s1 : (w1.alloc (.cells #[.int .i64 cw, .int .i64 cs, .slice ca cn cc] 40)).heap.size = w1.heap.size + 1 := by simp
     refine HC.out.row.keep (by have := k2.size; omega) (fun k hk => ?_)
     have hk1 := HC.out.row.lt k hk
     have hk2 := HC.out.own k hk
     exact (k2.block k (by omega)).trans (((below_alloc w1 _).block k (by omega)).trans (q4.block k hk1 (fun e => by simp at e; omega)))
    have h7 : out.length ≤ 6 := HX.out.2.2.2.2.2.2
    obtain ⟨m, hm⟩ : ∃ m, out.length = m := ⟨_, rfl⟩
    rw [hm] at hrow2 h7
    have HN : Hid _ := hm
    clear hm
    go_wp2_with (at_builtin; go_must (refine wpList_append_row _ rfl (.tmp 12) (.tmp 15) 91 rfl 40 i0 (.agg #[.int .i64 0, .int .i64 0, .slice none 0 0]) 3 40 Tryz.underlying91 hi hz0 hz1 hz2 rfl (by decide) u3 m (svC out) rfl (hrow2.alloc _) _ 1 1 [.int .i64 cw, .int .i64 cs, .slice va (es cw).length vc] rfl rfl (by decide) (cells_three _ _ _ _ _ _ (by simp)) (one_sv _ _ _ _ _) (by unfold maxLen; omega) (by omega) ?_))
    intro g' cap' w3 hr3 hg3 hown3
    have HR : Hid (w3.ranges Tryz.prog 3 elemR b w.heap.size n D (fun z => left z && !z.sameKey (.int .i64 cw)) cnt1 ∧ w.heap.size < w3.heap.size ∧ Col w w3 f es (fun z => left z && !z.sameKey (.int .i64 cw)) (.slice (some ⟨g', 0, none⟩) (m + 1) cap') (out ++ [⟨cw, cs, va, (es cw).length, vc⟩])) := by
     obtain ⟨q1, q2, q3, q4, q5, q6, q7⟩ := HX.out
     have G := grow_chain k2 hg3
     have s1 : (w1.alloc (.cells #[.int .i64 cw, .int .i64 cs, .slice ca cn cc] 40)).heap.size = w1.heap.size + 1 := by simp
     have s2 : (w2.alloc (.cells #[.int .i64 cw, .int .i64 cs, .slice va (es cw).length vc] 40)).heap.size = w2.heap.size + 1 := by simp
     have k2s := k2.size
     have g3s := hg3.size
     have hvo : ∀ k, u3.ownBlock = some k → w.heap.size < k ∧ k < wr.heap.size := fun k hk => ⟨HC.out.own k hk, HC.out.row.lt k hk⟩
     refine ⟨World.ranges.kept HG.out G (fun e => by have := hvo b e.symm; omega) (fun e => by have := hvo _ e.symm; omega), by omega, ?_⟩
     refine HC.out.step (s := ⟨cw, cs, va, (es cw).length, vc⟩) (t := ⟨cw, cs, ca, cn, cc⟩) q4 G (by rw [HN.out]; exact hr3) (fun g hg => ?_) q6 (fun j hj => ?_) q2 q1 q3 rfl rfl (vo.kept (cap := vc) (fun j hj => ?_)) vn
     · have hgg : g' = g := by simpa [Value.ownBlock] using hg
       subst hgg
       rcases hown3 with e | e
       · exact .inl e
       · right; omega
     · obtain ⟨c1, c2⟩ := vnew j hj
       refine ⟨by omega, by omega, fun e => ?_⟩
       have hgg : g' = j := by simpa [Value.ownBlock] using e
       subst hgg
       rcases hown3 with e | e
       · have := hvo _ e; omega
       · omega
     · obtain ⟨c1, c2⟩ := vnew j hj
       exact (hg3.block j (by omega) (fun e => by have := hvo j e.symm; omega)).trans ((below_alloc w2 _).block j c2)
    have HM2 : Hid (w3.rangeLeft b w.heap.size < wr.rangeLeft b w.heap.size) := by
     show _ < _
     rw [World.ranges.left_eq HR.out.1, HO.out]
     exact HM.out
    clear hr3 hg3 hown3 k2 vo vnew hrow2 HO
    go_wp2_with (fail)
    go_roundw
    case rel => exact ⟨_, cnt1, _, HR.out⟩
    case measure => exact HM2.out
end Go.Proofs.YtieklnlbljejdaaGreatDoor

namespace Go.Proofs.YtieklnlbljejdaaGreatDoor
open Go.RowKit St
def Fine (w : World) (f : Int → Option SV) (es : Int → List Opt) : Prop := ∀ k s, inR k → f k = some s → (1 ≤ k ∧ k ≤ 6) ∧ s.own = k ∧ OptR w s.a s.n (es k) ∧ NilOk s.a s.cap ∧ s.n ≤ 1000000
set_option maxRecDepth 100000 in
set_option maxHeartbeats 4000000 in
theorem states_any (B : Nat) (m : FM) (k : Nat) (kn : Int → Option SV) (ow : Nat → Int → Option SV) (es : Int → List Opt) (w : World) (h : FB w B m k kn ow) (hf : Fine w kn es) :
 Calls Tryz.prog 110 #[.pointer (some ⟨B, 0, none⟩)] w fun e w' => ∃ v ts, e = .returned v ∧ Risen w w' kn es v ts := by
 have hri := rising_any m.bm k kn es w h.km hf
 have c0 := h.c0
 have lB := h.lt
 clear h hf
 go_enter Tryz.func110, Tryz.ntmps110
 go_wp2_with (fail)
 refine hri.mono ?_
 rintro e w2 ⟨v, ts, rfl, hR⟩
 have HR : Hid _ := hR
 clear hri hR
 go_wp2_with (fail)
 go_ret
 exact ⟨_, _, rfl, HR.out⟩
set_option maxRecDepth 100000 in
set_option maxHeartbeats 4000000 in
theorem owed_yes (B : Nat) (m : FM) (k : Nat) (kn : Int → Option SV) (ow : Nat → Int → Option SV) (es : Int → List Opt) (p : Nat) (w : World) (h : FB w B m k kn ow) (hp : p < m.bs.length) (hf : Fine w (ow p) es) :
 Calls Tryz.prog 151 #[.pointer (some ⟨B, 0, none⟩), .int .i64 (p : Int)] w fun e w' => ∃ v ts, e = .returned v ∧ Risen w w' (ow p) es v ts := by
 have hh := has_any B m k kn ow (p : Int) w h
 have hv : (decide (0 ≤ (p : Int)) && decide ((p : Int) < (m.bs.length : Int))) = true := by simp; omega
 rw [hv] at hh
 clear hv
 have hpi : (p : Int) < (m.bs.length : Int) := by omega
 have hfew := h.few
 have hbp : m.bs[p]? = some m.bs[p] := List.getElem?_eq_getElem hp
 have hri := rising_any m.bs[p] k (ow p) es w (h.om p _ hbp) hf
 have c1 : w.cell? ⟨B, 1, none⟩ = some (.slice (some ⟨m.g, 0, none⟩) m.bs.length m.cap) := h.c1
 have lB := h.lt
 have cp := h.port p _ hbp
 have gl : m.g < w.heap.size := World.block_lt_of_cell? w _ cp
 generalize m.bs[p] = bp at cp hri
 clear hbp h hf
 go_enter Tryz.func151, Tryz.ntmps151
 go_wp2_with (fail)
 refine hh.mono ?_
 rintro e w1 ⟨rfl, rfl⟩
 clear hh
 go_wp2_with (fail)
 refine hri.mono ?_
 rintro e w2 ⟨v, ts, rfl, hR⟩
 have HR : Hid _ := hR
 clear hri hR
 go_wp2_with (fail)
 go_ret
 exact ⟨_, _, rfl, HR.out⟩
end Go.Proofs.YtieklnlbljejdaaGreatDoor

namespace Go.Proofs.YtieklnlbljejdaaGreatDoor
open Go.RowKit St
theorem infoMapS : (Tryz.prog.info? 211).map (fun i => (i.zero, i.size, i.bytes)) = some (some (.map none), 1, 8) := by kernel_rfl
theorem cells_oneN (w : World) (x : Value) (t : TypeId) (g : Nat) (hg : w.heap.size = g) : ∀ (j : Nat) (u : Value), [x][j]? = some u → (w.alloc (.cells #[x] t)).cell? ((⟨g, 0, none⟩ : Addr).add j) = some u := by
 subst hg
 exact cells_one w x t
theorem one_map (b : Option Nat) : ∀ u ∈ [Value.map b], u.oneCell' = true := by simp [Value.oneCell']
theorem mk_map (W : World) : (Instr.makeMap 211 none).run Tryz.prog W = .ok (.map (some W.heap.size)) (W.alloc (.map #[] 0)) := rfl
theorem zeroBase (w : World) : (zeroValue 214).run Tryz.prog w = .ok (.agg #[.map none, .slice none 0 0]) w := by kernel_rfl
structure NewR (w wr : World) (v : Value) (bs : List Nat) : Prop where
 blk : wr.heap[w.heap.size + 1]? = some (.cells #[.map (some w.heap.size), v] 214 (0, 0))
 row : Row wr 1 v bs.length (bs.map fun b => Value.map (some b))
 km : SMap wr w.heap.size 0 (fun _ => none)
 om : ∀ b ∈ bs, SMap wr b 0 (fun _ => none)
 ge : ∀ b ∈ bs, w.heap.size + 2 ≤ b
 own : ∀ g, v.ownBlock = some g → w.heap.size + 2 ≤ g ∧ g ∉ bs
 nd : bs.Nodup
 bel : Below w.heap.size w wr
theorem NewR.step {w wr w3 : World} {v v' : Value} {bs : List Nat} {o : Obj} {g' cap' : Nat} (h : NewR w wr v bs) (hg3 : ((wr.alloc (.map #[] 0)).alloc o).grownBy w3 v.ownBlock) (hv : v' = .slice (some ⟨g', 0, none⟩) (bs.length + 1) cap')
 (hr : Row w3 1 v' (bs.length + 1) ((bs.map fun b => Value.map (some b)) ++ [.map (some wr.heap.size)])) (ho : v.ownBlock = some g' ∨ wr.heap.size + 2 ≤ g') : NewR w (w3.setCell ⟨w.heap.size + 1, 1, none⟩ v') v' (bs ++ [wr.heap.size]) := by
 have lB : w.heap.size + 1 < wr.heap.size := (Array.getElem?_eq_some_iff.1 h.blk).1
 have s2 : ((wr.alloc (.map #[] 0)).alloc o).heap.size = wr.heap.size + 2 := by simp
 have b2 : Below wr.heap.size wr ((wr.alloc (.map #[] 0)).alloc o) := (below_alloc _ _).alloc (by simp) _
 have hs3 := hg3.size
 have hK : ∀ i, i < wr.heap.size → v.ownBlock ≠ some i → w3.heap[i]? = wr.heap[i]? := fun i hi hne => (hg3.block i (by omega) (fun e => hne e.symm)).trans (b2.block i hi)
 have hS : ∀ i, i ≠ w.heap.size + 1 → (w3.setCell ⟨w.heap.size + 1, 1, none⟩ v').heap[i]? = w3.heap[i]? := fun i hi => Below.heap_setCell _ _ _ i hi
 have hB3 : w3.heap[w.heap.size + 1]? = some (.cells #[.map (some w.heap.size), v] 214 (0, 0)) := (hK _ lB (fun e => by have := (h.own _ e).1; omega)).trans h.blk
 have hblt : ∀ b ∈ bs, b < wr.heap.size := fun b hb => (h.om b hb).lt
 have hg' : w.heap.size + 2 ≤ g' ∧ g' ∉ bs ∧ g' ≠ wr.heap.size := by
  rcases ho with e | e
  · have := h.own g' e
    have h2 := h.row.lt g' e
    exact ⟨this.1, this.2, by omega⟩
  · exact ⟨by omega, fun hm => by have := hblt g' hm; omega, by omega⟩
 refine ⟨?_, ?_, ?_, ?_, ?_, ?_, ?_, ?_⟩
 · have s := setRow_heap w3 (w.heap.size + 1) #[.map (some w.heap.size), v] (#[.map (some w.heap.size), v].setIfInBounds 1 v') 214 (0, 0) hB3
   rw [← setCell_eq_setRow w3 (w.heap.size + 1) 1 _ _ (0, 0) _ hB3] at s
   exact s
 · rw [List.length_append, List.map_append]
   refine hr.keep (by simp) (fun k hk => hS k ?_)
   rw [hv] at hk
   have : g' = k := by simpa [Value.ownBlock] using hk
   omega
 · refine h.km.keep ((hS _ (by omega)).trans (hK _ h.km.lt (fun e => by have := (h.own _ e).1; omega)))
 · intro b hb
   rcases List.mem_append.1 hb with hb | hb
   · have h1 := h.ge b hb
     exact (h.om b hb).keep ((hS b (by omega)).trans (hK b (hblt b hb) (fun e => (h.own b e).2 hb)))
   · have : b = wr.heap.size := by simpa using hb
     subst this
     refine (SMap.made wr).keep ((hS _ (by omega)).trans ((hg3.block _ (by omega) (fun e => ?_)).trans ?_))
     · have := h.row.lt _ e.symm
       omega
     · exact Below.heap_alloc _ _ _ (by simp)
 · intro b hb
   rcases List.mem_append.1 hb with hb | hb
   · exact h.ge b hb
   · have : b = wr.heap.size := by simpa using hb
     omega
 · intro g hg
   rw [hv] at hg
   have : g' = g := by simpa [Value.ownBlock] using hg
   subst this
   refine ⟨hg'.1, fun hm => ?_⟩
   rcases List.mem_append.1 hm with hm | hm
   · exact hg'.2.1 hm
   · exact hg'.2.2 (by simpa using hm)
 · rw [List.nodup_append]
   refine ⟨h.nd, by simp, fun a ha b hb => ?_⟩
   have : b = wr.heap.size := by simpa using hb
   have := hblt a ha
   omega
 · have b3 : Below w.heap.size w w3 := ⟨hg3.os.trans (b2.os.trans h.bel.os), hg3.tape.trans (b2.tape.trans h.bel.tape), hg3.output.trans (b2.output.trans h.bel.output), by have := h.bel.size; omega, fun i hi => (hK i (by omega) (fun e => by have := (h.own i e).1; omega)).trans (h.bel.block i hi)⟩
   exact b3.setCell (by show _ ≤ w.heap.size + 1; omega) _
theorem NewR.fb {w wr : World} {v : Value} {bs : List Nat} (h : NewR w wr v bs) (h1 : 0 < bs.length) (h3 : bs.length ≤ 3) : ∃ g cap, FB wr (w.heap.size + 1) { bm := w.heap.size, g := g, cap := cap, bs := bs } 0 (fun _ => none) (fun _ _ => none) := by
 rcases h.row.2 with ⟨_, e⟩ | ⟨g, cap, e, _⟩
 · omega
 · have hg := h.own g (by rw [e]; rfl)
   have hb := h.blk
   have hr := h.row
   rw [e] at hb hr
   refine ⟨g, cap, hb, hr, h.km, fun i b e2 => h.om b (List.mem_of_getElem? e2), h3, ⟨by show w.heap.size ≠ w.heap.size + 1; omega, by show g ≠ w.heap.size + 1; omega, by show w.heap.size ≠ g; omega, fun b hb2 => ?_⟩, h.nd⟩
   have h4 := h.ge b hb2
   exact ⟨by omega, fun e3 => hg.2 (by rw [← show b = g from e3]; exact hb2), by show b ≠ w.heap.size; omega⟩
set_option maxRecDepth 100000 in
set_option maxHeartbeats 4000000 in
theorem new_bad (p : Int) (w : World) (hp : p < 1 ∨ 3 < p) :
 Calls Tryz.prog 66 #[.int .i64 p] w fun e w' => e = .returned (.tuple #[.pointer none, errV 1]) ∧ w = w' := by
 have E1 : Hid (errV 1 = .iface 128 (.int .i64 1)) := rfl
 by_cases h1 : p < 1
 · clear hp
   go_enter Tryz.func66, Tryz.ntmps66
   go_wp2_with (fail)
   rw [E1.out]
   go_ret2
   exact ⟨rfl, rfl⟩
 · have h3 : 3 < p := by omega
   clear hp
   go_enter Tryz.func66, Tryz.ntmps66
   go_wp2_with (fail)
   rw [E1.out]
   go_ret2
   exact ⟨rfl, rfl⟩
set_option maxRecDepth 100000 in
set_option maxHeartbeats 4000000 in
theorem new_ok (p : Nat) (w : World) (hp : 1 ≤ p ∧ p ≤ 3) :
 Calls Tryz.prog 66 #[.int .i64 (p : Int)] w fun e w' => e = .returned (.tuple #[.pointer (some ⟨w.heap.size + 1, 0, none⟩), .nilIface]) ∧ ∃ v bs, NewR w w' v bs ∧ bs.length = p := by
 obtain ⟨i0, hi, hz0, hz1, hz2⟩ := info_parts infoMapS
 have h1 : ¬ ((p : Int) < 1) := by omega
 have h3 : ¬ (3 < (p : Int)) := by omega
 obtain ⟨W1, hW1⟩ : ∃ W1, (w.alloc (.map #[] 0)).alloc (.cells #[.map (some w.heap.size), .slice none 0 0] 214) = W1 := ⟨_, rfl⟩
 have hN : NewR w W1 (.slice none 0 0) [] := by
  rw [← hW1]
  refine ⟨?_, Row.nil _ 1, (SMap.made w).alloc _, fun b hb => by simp at hb, fun b hb => by simp at hb, fun g hg => by simp [Value.ownBlock] at hg, List.nodup_nil, (below_alloc _ _).alloc (by simp) _⟩
  have := heap_alloc_new (w.alloc (.map #[] 0)) (.cells #[.map (some w.heap.size), .slice none 0 0] 214)
  simpa using this
 have HW : Hid _ := hW1
 have hmk : ∀ W : World, (Instr.makeMap 211 none).run Tryz.prog W = .ok (.map (some W.heap.size)) (W.alloc (.map #[] 0)) := fun W => mk_map W
 have hzb := zeroBase
 clear hW1
 go_enter Tryz.func66, Tryz.ntmps66
 go_wp2_with (fail)
 rw [HW.out]
 go_loopw [16] (fun i wr => ∃ (j : Nat) (v : Value) (bs : List Nat), j ≤ p ∧ i = .int .i64 j ∧ bs.length = j ∧ NewR w wr v bs) (fun i _ => p - (intOf i).toNat)
 case atStart => exact ⟨0, _, [], Nat.zero_le _, rfl, rfl, hN⟩
 case round =>
  clear hN
  obtain ⟨j, v, bs, hj, rfl, hl, hR⟩ := hrel
  by_cases hlt : j < p
  · have hlt' : (j : Int) < (p : Int) := by omega
    have c1 : wr.cell? ⟨w.heap.size + 1, 1, none⟩ = some v := cell_of_row wr _ 1 _ _ (0, 0) hR.blk
    have lB : w.heap.size + 1 < wr.heap.size := World.block_lt_of_cell? wr _ c1
    have hrow := hR.row
    rw [hl] at hrow
    have HL : Hid _ := hl
    have HR : Hid (NewR w wr v bs) := hR
    clear hR hl
    go_wp2_with (at_builtin; go_must (refine wpList_append_row _ rfl (.tmp 22) (.tmp 24) 212 rfl 211 i0 (.map none) 1 8 Tryz.underlying212 hi hz0 hz1 hz2 rfl (by decide) v j _ rfl ((hrow.alloc _).alloc _) _ 1 1 [.map (some wr.heap.size)] rfl rfl (by decide) (cells_oneN _ _ _ _ (by simp)) (one_map _) (by unfold maxLen; omega) (by omega) ?_))
    intro g' cap' w3 hr3 hg3 ho3
    have hB3 : w3.heap[w.heap.size + 1]? = some (.cells #[.map (some w.heap.size), v] 214 (0, 0)) := by
     refine (hg3.block _ (by simp; omega) (fun e => ?_)).trans ((((below_alloc wr (.map #[] 0)).alloc (by simp) _).block _ lB).trans HR.out.blk)
     have := (HR.out.own _ e.symm).1
     omega
    have c3 : w3.cell? ⟨w.heap.size + 1, 1, none⟩ = some v := cell_of_row w3 _ 1 _ _ (0, 0) hB3
    have f3 := frozen_of_row w3 (w.heap.size + 1) 1 _ _ hB3
    have l3 : w.heap.size + 1 < w3.heap.size := World.block_lt_of_cell? w3 _ c3
    have HS : Hid (NewR w (w3.setCell ⟨w.heap.size + 1, 1, none⟩ (.slice (some ⟨g', 0, none⟩) (j + 1) cap')) (.slice (some ⟨g', 0, none⟩) (j + 1) cap') (bs ++ [wr.heap.size])) := by
     refine HR.out.step hg3 (by rw [HL.out]) (by rw [HL.out]; exact hr3) ?_
     rcases ho3 with e | e
     · exact .inl e
     · right; simpa using e
    clear hr3 hg3 ho3 hB3 hrow
    go_wp2_with (fail)
    go_roundw
    case rel => exact ⟨j + 1, _, _, by omega, by go_num, by simp [HL.out], HS.out⟩
    case measure => simp [intOf]; omega
  · have hjn : j = p := by omega
    subst hjn
    have HR : Hid (∃ v bs, NewR w wr v bs ∧ bs.length = j) := ⟨v, bs, hR, hl⟩
    clear hR hl
    go_wp2_with (fail)
    go_ret2
    exact ⟨rfl, HR.out⟩
end Go.Proofs.YtieklnlbljejdaaGreatDoor
