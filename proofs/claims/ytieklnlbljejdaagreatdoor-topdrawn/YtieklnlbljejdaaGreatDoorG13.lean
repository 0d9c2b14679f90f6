/-
  FloodGet FloodCopy FloodMeet FloodRise FloodRise2
-/
import Derived.Test.YtieklnlbljejdaaGreatDoorG11
import Derived.Test.YtieklnlbljejdaaGreatDoorG12
namespace Go.Proofs.YtieklnlbljejdaaGreatDoor
open Go.RowKit St
set_option maxRecDepth 100000 in
set_option maxHeartbeats 4000000 in
theorem get_any (B : Nat) (m : FM) (k : Nat) (kn : Int → Option SV) (ow : Nat → Int → Option SV) (i : Int) (t : SV) (ok : Bool) (fs : List Opt) (w : World) (h : FB w B m k kn ow) (hr : inR i) (hd : (kn i).getD SV.zero = t) (hs : (kn i).isSome = ok) (ht : OptR w t.a t.n fs) (hn : t.n ≤ 1000000) (hnil : NilOk t.a t.cap) :
 Calls Tryz.prog 177 #[.pointer (some ⟨B, 0, none⟩), .int .i64 i] w fun e w' => ∃ (a : Option Addr) (cap : Nat), e = .returned (.tuple #[.agg #[.int .i64 t.own, .int .i64 t.seq, .slice a fs.length cap], .bool ok]) ∧ OptR w' a fs.length fs ∧ NilOk a cap ∧ Below w.heap.size w w' := by
 obtain ⟨tw, ts, ta, tn, tc⟩ := t
 simp only at ht hn hnil
 have hz := zeroState
 have hb := below_alloc w (.cells #[.int .i64 0, .int .i64 0, .slice none 0 0] 40)
 obtain ⟨W1, hW1⟩ : ∃ W1, w.alloc (.cells #[.int .i64 0, .int .i64 0, .slice none 0 0] 40) = W1 := ⟨_, rfl⟩
 have hbl : W1.heap[w.heap.size]? = some (.cells #[.int .i64 0, .int .i64 0, .slice none 0 0] 40 (0, 0)) := by rw [← hW1]; exact heap_alloc_new w _
 have hs1 : W1.heap.size = w.heap.size + 1 := by rw [← hW1]; simp
 rw [hW1] at hb
 have HW : Hid _ := hW1
 clear hW1
 have h1 := h.below hb
 have hlk : (Instr.lookup 211 (.map (some m.bm)) (.int .i64 i) true).run Tryz.prog W1 = .ok (.tuple #[.agg #[.int .i64 tw, .int .i64 ts, .slice ta tn tc], .bool ok]) W1 := by
  have := h1.km.look_ok i hr
  rw [hd, hs] at this
  exact this
 have c0 := h1.c0
 have hl := h1.lt
 have hb2 : Below w.heap.size w (W1.alloc (.cells #[.int .i64 tw, .int .i64 ts, .slice ta tn tc] 40)) := hb.alloc hb.size _
 have hcp := copy_any tw ts ta tn tc fs _ hn hnil (ht.below hb2)
 have hY : (W1.alloc (.cells #[.int .i64 tw, .int .i64 ts, .slice ta tn tc] 40)).heap[w.heap.size]? = some (.cells #[.int .i64 0, .int .i64 0, .slice none 0 0] 40 (0, 0)) := by
  rw [Below.heap_alloc _ _ _ (by omega)]
  exact hbl
 have HB : Hid _ := hb2
 have HY : Hid _ := hY
 have HS : Hid _ := hs1
 clear h h1 hd hs ht hb hb2 hY hbl hs1
 go_enter Tryz.func177, Tryz.ntmps177
 go_upto_region 1 with fail
 rw [HW.out]
 go_wp2_with (fail)
 refine hcp.mono ?_
 rintro e w2 ⟨⟨va, vc, rfl, vo, vn, vl, vnew⟩, k2⟩
 clear hcp hlk c0
 have hY2 := (k2.block _ (Array.getElem?_eq_some_iff.1 HY.out).1).trans HY.out
 have y0 : w2.cell? ⟨w.heap.size, 0, none⟩ = some (.int .i64 0) := cell_of_row w2 _ 0 _ _ (0, 0) hY2
 have y1 : w2.cell? ⟨w.heap.size, 1, none⟩ = some (.int .i64 0) := cell_of_row w2 _ 1 _ _ (0, 0) hY2
 have y2 : w2.cell? ⟨w.heap.size, 2, none⟩ = some (.slice none 0 0) := cell_of_row w2 _ 2 _ _ (0, 0) hY2
 have fy := fun j => frozen_of_row w2 w.heap.size j _ _ hY2
 have ly : w.heap.size < w2.heap.size := World.block_lt_of_cell? w2 _ y0
 have hk := below_chain HB.out k2
 have HC : Hid (∀ u v x : Value, OptR (((w2.setCell ⟨w.heap.size, 0, none⟩ u).setCell ⟨w.heap.size, 1, none⟩ v).setCell ⟨w.heap.size, 2, none⟩ x) va fs.length fs ∧ NilOk va vc ∧ Below w.heap.size w (((w2.setCell ⟨w.heap.size, 0, none⟩ u).setCell ⟨w.heap.size, 1, none⟩ v).setCell ⟨w.heap.size, 2, none⟩ x)) := by
  intro u v x
  refine ⟨vo.kept (cap := vc) (fun j hj => ?_), vn, ((hk.setCell (Nat.le_refl _) _).setCell (Nat.le_refl _) _).setCell (Nat.le_refl _) _⟩
  have h1 := (vnew j hj).1
  have h2 := HS.out
  have h3 : w.heap.size + 1 ≤ j := by simp at h1; omega
  rw [Below.heap_setCell _ _ _ _ (by show j ≠ w.heap.size; omega), Below.heap_setCell _ _ _ _ (by show j ≠ w.heap.size; omega), Below.heap_setCell _ _ _ _ (by show j ≠ w.heap.size; omega)]
 clear vo vnew k2 hY2 hk
 go_wp2_with (fail)
 refine bodyPost_ret (v := .tuple #[.agg #[.int .i64 tw, .int .i64 ts, .slice va fs.length vc], .bool ok]) (by simp [results, Tryz.results177, go_sem, y0, y1, y2]) rfl ?_
 exact ⟨va, vc, rfl, HC.out _ _ _⟩
end Go.Proofs.YtieklnlbljejdaaGreatDoor

namespace Go.Proofs.YtieklnlbljejdaaGreatDoor
open Go.RowKit St
open Go.Maps (Keyed)
theorem inR_of_wf {x : Int} (h : (Lit.int .i64 x).wf = true) : inR x := by
 simp [Lit.wf, IntKind.min, IntKind.max, IntKind.signed, IntKind.bits] at h
 exact ⟨by omega, by omega⟩
theorem sameKey_int (x y : Int) : (Lit.int .i64 x).sameKey (.int .i64 y) = decide (x = y) := by simp [Lit.sameKey]
def mix (fd fs : Int → Option SV) (left : Lit → Bool) : Int → Option SV := fun k => if left (.int .i64 k) = false ∧ (fs k).isSome = true then fs k else fd k
theorem mix_step {fd fs : Int → Option SV} {left : Lit → Bool} {x : Int} {s : SV} (h : fs x = some s) : (fun k => if k = x then some s else mix fd fs left k) = mix fd fs (fun z => left z && !z.sameKey (.int .i64 x)) := by
 funext k
 by_cases e : k = x
 · subst e
   simp [mix, sameKey_int, h]
 · simp [mix, sameKey_int, e]
def over (fd fs : Int → Option SV) : Int → Option SV := fun k => if (fs k).isSome = true then fs k else fd k
theorem mix_end {fd fs : Int → Option SV} {left : Lit → Bool} (h : ∀ kl, left kl = false) : mix fd fs left = over fd fs := by
 funext k
 simp [mix, over, h]
theorem SMap.congr {w : World} {b n : Nat} {f g : Int → Option SV} (h : SMap w b n f) (e : ∀ k, inR k → f k = g k) : SMap w b n g := by
 obtain ⟨D, h1, h2⟩ := h.own
 exact ⟨⟨D, h1, fun k hk => by rw [← e k hk]; exact h2 k hk⟩⟩
set_option maxRecDepth 100000 in
set_option maxHeartbeats 4000000 in
theorem mcopy_any (bd bs nd ns : Nat) (fd fs : Int → Option SV) (w : World) (hd : SMap w bd nd fd) (hs : SMap w bs ns fs) (hne : bd ≠ bs) (hroom : nd + ns ≤ 2000000) :
 Calls Tryz.prog 181 #[.map (some bd), .map (some bs)] w fun e w' => e = .returned (.tuple #[]) ∧ SMap w' bd (nd + ns) (over fd fs) ∧ w.grownBy w' (some bd) := by
 obtain ⟨D, hown, hat0⟩ := hs.own
 have hsz := hown.size_le
 have hlt := hd.lt
 have hbs := hs.lt
 have hz := zeroState
 have H0 : Hid (∀ k, inR k → fs k = none → ∀ z, D.atKey (.int .i64 k) z = z) := fun k hk e => by have := hat0 k hk; rw [e] at this; exact this
 have H1 : Hid (∀ k s, inR k → fs k = some s → ∀ z, D.atKey (.int .i64 k) z = .held s) := fun k s hk e => by have := hat0 k hk; rw [e] at this; exact this
 clear hat0 hs
 go_enter Tryz.func181, Tryz.ntmps181
 go_wp2_with (first
  | (at_range; refine wpList_range_own _ rfl _ 211 rfl 3 40 keyLaw Tryz.underlying211 elemR bs ns _ rfl hown ?_; intro w0 hrg0 hg0 hs0)
  | fail)
 go_frame
 go_loopw [8] (fun _ wr => ∃ (left : Lit → Bool) (cnt : Nat), wr.ranges Tryz.prog 3 elemR bs w.heap.size ns D left cnt ∧ cnt ≤ ns ∧ SMap wr bd (nd + (ns - cnt)) (mix fd fs left) ∧ w.grownBy wr (some bd))
  (fun _ wr => wr.rangeLeft bs w.heap.size)
 case atStart =>
  refine ⟨_, _, hrg0, hsz, ((hd.kept hg0 (by simp)).mono (by omega)).congr (fun k hk => ?_), hg0.but _⟩
  cases e : fs k with
  | none => simp [mix, e]
  | some s => simp [mix, Maps.has_true_of_atKey (H1.out k s hk e)]
 case round =>
  clear hrg0 hg0 hs0 hown hd
  obtain ⟨left, cnt, hrg, hcs, hout, hgw⟩ := hrel
  go_wp2_with (first
   | (at_next; refine wpList_next_ranges _ rfl _ rfl 3 keyLaw elemR (Value.int .i64) SV.v (fun key kl hkey => by obtain ⟨x, rfl, _⟩ := Maps.keyOf_int_inv Tryz.underlying3 hkey; exact ⟨x, rfl⟩) (fun v y hv => by obtain ⟨s, rfl, _⟩ := elemR_inv hv; exact ⟨s, rfl⟩) bs w.heap.size ns _ _ _ rfl hrg ?_ ?_)
   | fail)
  · intro hc0 hl0
    have HE : Hid (SMap wr bd (nd + ns) (over fd fs)) := by
     show SMap wr bd (nd + ns) (over fd fs)
     rw [← mix_end hl0]
     exact hout.mono (by omega)
    clear hrg hout
    go_wp2_with (fail)
    first | go_end0 | refine bodyPost_ret (results_none rfl _ _ _) rfl ?_
    exact ⟨rfl, HE.out, hgw⟩
  · intro x c kl yd yp w1 cnt1 hkey hlx hv hat hrg1 hlt1 hg1 hs1 hen
    obtain ⟨x', ex, rfl, hwx⟩ := Maps.keyOf_int_inv Tryz.underlying3 hkey
    cases ex
    have hrx := inR_of_wf hwx
    obtain ⟨cw, cs, ca, cn, cc⟩ := c
    rw [elemR_v] at hv
    have hy : yd = .held ⟨cw, cs, ca, cn, cc⟩ := by have := Option.some.inj hv; simp only [Prod.mk.injEq] at this; exact this.1.symm
    have hfx : fs x = some ⟨cw, cs, ca, cn, cc⟩ := by
     cases e : fs x with
     | none =>
       have h1 := H0.out x hrx e .nil
       rw [hat, hy] at h1
       cases h1
     | some s =>
       have h1 := H1.out x s hrx e .nil
       rw [hat, hy] at h1
       cases h1
       rfl
    have hout1 := (hout.kept hg1 (fun e => by have := Option.some.inj e; omega)).alloc (.cells #[.int .i64 cw, .int .i64 cs, .slice ca cn cc] 40)
    obtain ⟨w2, hr2, S2, T2⟩ := hout1.store (by unfold maxLen; omega) x hrx ⟨cw, cs, ca, cn, cc⟩
    have hr2' : (Instr.mapUpdate 211 (.map (some bd)) (.int .i64 x) (.agg #[.int .i64 cw, .int .i64 cs, .slice ca cn cc])).run Tryz.prog (w1.alloc (.cells #[.int .i64 cw, .int .i64 cs, .slice ca cn cc] 40)) = .ok () w2 := hr2
    rw [mix_step hfx] at S2
    have hen' : (Instr.entry (.pointer (some ⟨w.heap.size, 0, none⟩))).run Tryz.prog w1 = .ok (.tuple #[.int .i64 x, .agg #[.int .i64 cw, .int .i64 cs, .slice ca cn cc]]) w1 := hen
    have hrg2 := (hrg1.alloc (.cells #[.int .i64 cw, .int .i64 cs, .slice ca cn cc] 40)).kept T2.grown (fun e => hne (Option.some.inj e).symm) (fun e => by have := Option.some.inj e; omega)
    have hg2 : w.grownBy w2 (some bd) := ((hgw.andThen hg1 (fun j hj => .inl (by cases hj; exact Nat.le_refl _))).andThen ((World.grownBy_alloc w1 (.cells #[.int .i64 cw, .int .i64 cs, .slice ca cn cc] 40) none).but (some bd)) (fun j hj => .inr hj)).andThen T2.grown (fun j hj => .inr hj)
    have HR : Hid (w2.ranges Tryz.prog 3 elemR bs w.heap.size ns D (fun z => left z && !z.sameKey (.int .i64 x)) cnt1 ∧ cnt1 ≤ ns ∧ SMap w2 bd (nd + (ns - cnt1)) (mix fd fs (fun z => left z && !z.sameKey (.int .i64 x))) ∧ w.grownBy w2 (some bd)) := ⟨hrg2, by omega, S2.mono (by omega), hg2⟩
    have HM : Hid (w2.rangeLeft bs w.heap.size < wr.rangeLeft bs w.heap.size) := by
     show _ < _
     rw [hrg2.left_eq, hrg.left_eq]
     exact hlt1
    clear hr2 hen S2 T2 hout1 hout hrg hrg1 hrg2 hg1 hg2 hgw hat hy hv hfx hlx hkey hwx
    go_wp2_with (fail)
    first | go_frame | skip
    go_roundw
    case rel => exact ⟨_, cnt1, HR.out⟩
    case measure => exact HM.out
end Go.Proofs.YtieklnlbljejdaaGreatDoor

namespace Go.Proofs.YtieklnlbljejdaaGreatDoor
open Go.RowKit St
theorem KeptM.of_grown {w w' : World} {m : FM} {b : Nat} (g : w.grownBy w' (some b)) (hb : b = m.bm ∨ b ∈ m.bs) : KeptM w w' m := by
 refine ⟨g.os, g.tape, g.output, g.size, fun i hi h1 h2 => g.block i hi (fun e => ?_)⟩
 have : i = b := by simpa using e
 subst this
 rcases hb with hb | hb
 · exact h1 hb
 · exact h2 hb
theorem grown_other {w w' : World} {b x : Nat} (h : w.grownBy w' (some b)) (hx : x < w.heap.size) (hne : x ≠ b) : w'.heap[x]? = w.heap[x]? := h.block x hx (fun e => hne (by simpa using e))
theorem FB.setG {w w' : World} {B : Nat} {m : FM} {n n' : Nat} {kn : Int → Option SV} {ow : Nat → Int → Option SV} {f : Int → Option SV} {i b : Nat} (h : FB w B m n kn ow) (hi : m.bs[i]? = some b) (ht : w.grownBy w' (some b)) (hk : SMap w' b n' f) (hn : n ≤ n') : FB w' B m n' kn (fun j => if j = i then f else ow j) := by
 have hb := h.nB.2.2.2 b (List.mem_of_getElem? hi)
 refine ⟨(grown_other ht h.lt (fun e => hb.1 e.symm)).trans h.blk, h.row.keep ht.size (fun k hk2 => ?_), (h.km.keep (grown_other ht h.km.lt (fun e => hb.2.2 e.symm))).mono hn, fun j c e => ?_, h.few, h.nB, h.nd⟩
 · have hg : m.g = k := by simpa [FM.sl, Value.ownBlock] using hk2
   subst hg
   exact grown_other ht (h.row.lt _ hk2) (fun e => hb.2.1 e.symm)
 · by_cases hj : j = i
   · subst hj
     rw [hi] at e
     obtain rfl := Option.some.inj e
     simp only [if_true]
     exact hk
   · rw [if_neg hj]
     have hne : c ≠ b := fun e1 => by
      subst e1
      exact hj ((List.getElem?_inj (List.getElem?_eq_some_iff.1 e).1 h.nd).1 (e.trans hi.symm))
     exact ((h.om j c e).keep (grown_other ht (h.om j c e).lt hne)).mono hn
set_option maxRecDepth 100000 in
set_option maxHeartbeats 4000000 in
theorem meet_yes (B : Nat) (m : FM) (k : Nat) (kn : Int → Option SV) (ow : Nat → Int → Option SV) (p : Nat) (w : World) (h : FB w B m k kn ow) (hp : p < m.bs.length) (hk : k ≤ 1000000) :
 Calls Tryz.prog 126 #[.pointer (some ⟨B, 0, none⟩), .int .i64 (p : Int)] w fun e w' => e = .returned .nilIface ∧ FB w' B m (k + k) kn (fun i => if i = p then over (ow p) kn else ow i) ∧ KeptM w w' m := by
 have hh := has_any B m k kn ow (p : Int) w h
 have hv : (decide (0 ≤ (p : Int)) && decide ((p : Int) < (m.bs.length : Int))) = true := by simp; omega
 rw [hv] at hh
 clear hv
 have hpi : (p : Int) < (m.bs.length : Int) := by omega
 have hfew := h.few
 have hbp : m.bs[p]? = some m.bs[p] := List.getElem?_eq_getElem hp
 have bd : Below w.heap.size w w.drew := below_drewN (Below.refl _ _) 1
 have Fd := h.below bd
 have hcp := mcopy_any m.bs[p] m.bm k k (ow p) kn w.drew (Fd.om p _ hbp) Fd.km (Fd.nB.2.2.2 _ (List.getElem_mem _)).2.2 (by omega)
 have HE : Hid (∀ w', SMap w' m.bs[p] (k + k) (over (ow p) kn) → w.drew.grownBy w' (some m.bs[p]) → FB w' B m (k + k) kn (fun i => if i = p then over (ow p) kn else ow i) ∧ KeptM w w' m) := fun w' hS hg => ⟨Fd.setG hbp hg hS (by omega), (KeptM.of_below m bd).trans (KeptM.of_grown hg (.inr (List.getElem_mem _)))⟩
 have c0 := h.c0
 have c1 : w.cell? ⟨B, 1, none⟩ = some (.slice (some ⟨m.g, 0, none⟩) m.bs.length m.cap) := h.c1
 have lB := h.lt
 have cp := h.port p _ hbp
 have gl : m.g < w.heap.size := World.block_lt_of_cell? w _ cp
 generalize m.bs[p] = bp at cp hcp HE
 clear hbp Fd bd
 go_enter Tryz.func126, Tryz.ntmps126
 go_wp2_with (fail)
 refine hh.mono ?_
 rintro e w1 ⟨rfl, rfl⟩
 clear hh
 go_upto_region 3 with fail
 go_region_with (first | (go_at_call 181; refine hcp.mono ?_; rintro e w2 ⟨rfl, hS, hg⟩) | fail)
 all_goals
  have HF : Hid _ := HE.out _ hS hg
  clear hS hg
  go_wp2_with (fail)
  go_ret
  exact ⟨rfl, HF.out⟩
end Go.Proofs.YtieklnlbljejdaaGreatDoor

namespace Go.Proofs.YtieklnlbljejdaaGreatDoor
open Go.RowKit St
def SV.cells (s : SV) : List Value := [.int .i64 s.own, .int .i64 s.seq, .slice s.a s.n s.cap]
def svC (ss : List SV) : List Value := ss.flatMap SV.cells
theorem svC_snoc (ss : List SV) (s : SV) : svC (ss ++ [s]) = svC ss ++ [.int .i64 s.own, .int .i64 s.seq, .slice s.a s.n s.cap] := by simp [svC, SV.cells]
theorem svC_get : ∀ (ss : List SV) (j : Nat) (s : SV), ss[j]? = some s → (svC ss)[j * 3]? = some (.int .i64 s.own) ∧ (svC ss)[j * 3 + 1]? = some (.int .i64 s.seq) ∧ (svC ss)[j * 3 + 2]? = some (.slice s.a s.n s.cap)
 | [], j, s, h => by simp at h
 | x :: l, 0, s, h => by
   have : x = s := by simpa using h
   subst this
   exact ⟨rfl, rfl, rfl⟩
 | x :: l, j + 1, s, h => by
   have h' : l[j]? = some s := by simpa using h
   obtain ⟨a, b, c⟩ := svC_get l j s h'
   have e : svC (x :: l) = .int .i64 x.own :: .int .i64 x.seq :: .slice x.a x.n x.cap :: svC l := rfl
   have e1 : (j + 1) * 3 = j * 3 + 3 := by omega
   have e2 : (j + 1) * 3 + 1 = j * 3 + 1 + 3 := by omega
   have e3 : (j + 1) * 3 + 2 = j * 3 + 2 + 3 := by omega
   rw [e, e2, e3, e1]
   simp only [List.getElem?_cons_succ]
   exact ⟨a, b, c⟩
theorem Row.sr {w : World} {g cap : Nat} {ss : List SV} (h : Row w 3 (.slice (some ⟨g, 0, none⟩) ss.length cap) ss.length (svC ss)) : SR w g cap ss := by
 rcases h.2 with ⟨e, _⟩ | ⟨g', cap', e, _, hle, hcm, _, hs⟩
 · cases e
 · cases e
   refine ⟨h.lt g rfl, fun j s e => ?_, hs, hle, hcm⟩
   obtain ⟨a, b, c⟩ := svC_get ss j s e
   exact ⟨Row.cell h _ _ a, Row.cell h _ _ b, Row.cell h _ _ c⟩
theorem len_of_sub : ∀ (l m : List Int), l.Pairwise (· ≠ ·) → (∀ x ∈ l, x ∈ m) → l.length ≤ m.length
 | [], _, _, _ => Nat.zero_le _
 | x :: l, m, hp, hs => by
   obtain ⟨h1, h2⟩ := List.pairwise_cons.1 hp
   have hx := hs x (by simp)
   have := len_of_sub l (m.erase x) h2 (fun y hy => (List.mem_erase_of_ne (fun e => h1 y hy e.symm)).2 (hs y (List.mem_cons_of_mem _ hy)))
   rw [List.length_erase_of_mem hx] at this
   have hm : 0 < m.length := List.length_pos_of_mem hx
   simp only [List.length_cons]
   omega
structure ElOk (w wr : World) (f : Int → Option SV) (es : Int → List Opt) (v : Value) (s : SV) : Prop where
 at_ : ∃ t, f s.own = some t ∧ s.seq = t.seq
 inr : inR s.own
 n : s.n = (es s.own).length
 opt : OptR wr s.a s.n (es s.own)
 nil : NilOk s.a s.cap
 new : ∀ j, Value.ownBlock (.slice s.a s.n s.cap) = some j → w.heap.size < j ∧ j < wr.heap.size ∧ v.ownBlock ≠ some j
structure Col (w wr : World) (f : Int → Option SV) (es : Int → List Opt) (left : Lit → Bool) (v : Value) (out : List SV) : Prop where
 row : Row wr 3 v out.length (svC out)
 own : ∀ g, v.ownBlock = some g → w.heap.size < g
 el : ∀ s ∈ out, ElOk w wr f es v s ∧ left (.int .i64 s.own) = false
 df : out.Pairwise (fun x y => x.own ≠ y.own)
 all : ∀ k, inR k → (f k).isSome = true → left (.int .i64 k) = false → ∃ s ∈ out, s.own = k
 bel : Below w.heap.size w wr
theorem Col.step {w wr w1 w3 : World} {f : Int → Option SV} {es : Int → List Opt} {left : Lit → Bool} {v v' : Value} {out : List SV} {s t : SV} (h : Col w wr f es left v out)
 (hg1 : wr.grownBy w1 (some w.heap.size)) (G : w1.grownBy w3 v.ownBlock) (hr : Row w3 3 v' (out.length + 1) (svC out ++ [.int .i64 s.own, .int .i64 s.seq, .slice s.a s.n s.cap]))
 (hv : ∀ g, v'.ownBlock = some g → v.ownBlock = some g ∨ wr.heap.size ≤ g) (hw : w.heap.size < wr.heap.size) (hnew : ∀ j, Value.ownBlock (.slice s.a s.n s.cap) = some j → wr.heap.size ≤ j ∧ j < w3.heap.size ∧ v'.ownBlock ≠ some j)
 (hx : inR s.own) (hlx : left (.int .i64 s.own) = true) (hfx : f s.own = some t) (hq : s.seq = t.seq) (hn : s.n = (es s.own).length) (ho : OptR w3 s.a s.n (es s.own)) (hnil : NilOk s.a s.cap) :
 Col w w3 f es (fun z => left z && !z.sameKey (.int .i64 s.own)) v' (out ++ [s]) := by
 have hsz : wr.heap.size ≤ w3.heap.size := Nat.le_trans hg1.size G.size
 have hK : ∀ i, i < wr.heap.size → i ≠ w.heap.size → v.ownBlock ≠ some i → w3.heap[i]? = wr.heap[i]? := fun i hi h1 h2 =>
  (G.block i (Nat.lt_of_lt_of_le hi hg1.size) (fun e => h2 e.symm)).trans (hg1.block i hi (fun e => h1 (by simpa using e)))
 refine ⟨?_, ?_, ?_, ?_, ?_, ?_⟩
 · rw [svC_snoc, List.length_append]
   exact hr
 · intro g hg
   rcases hv g hg with e | e
   · exact h.own g e
   · omega
 · intro q hq
   rcases List.mem_append.1 hq with hq | hq
   · obtain ⟨a, b⟩ := h.el q hq
     refine ⟨⟨a.at_, a.inr, a.n, a.opt.kept (cap := q.cap) (fun j hj => ?_), a.nil, fun j hj => ?_⟩, by simp [b]⟩
     · obtain ⟨c1, c2, c3⟩ := a.new j hj
       exact hK j c2 (by omega) c3
     · obtain ⟨c1, c2, c3⟩ := a.new j hj
       refine ⟨c1, by omega, fun e => ?_⟩
       rcases hv j e with e | e
       · exact c3 e
       · omega
   · have : q = s := by simpa using hq
     subst this
     refine ⟨⟨⟨t, hfx, by assumption⟩, hx, hn, ho, hnil, fun j hj => ?_⟩, by simp [sameKey_int]⟩
     obtain ⟨c1, c2, c3⟩ := hnew j hj
     exact ⟨by omega, c2, c3⟩
 · rw [List.pairwise_append]
   refine ⟨h.df, List.pairwise_singleton _ _, fun a ha b hb => ?_⟩
   have : b = s := by simpa using hb
   subst this
   intro e
   have := (h.el a ha).2
   rw [e, hlx] at this
   cases this
 · intro k hk hs hl
   by_cases e : k = s.own
   · exact ⟨s, by simp, e.symm⟩
   · have : left (.int .i64 k) = false := by simpa [sameKey_int, e] using hl
     obtain ⟨q, h1, h2⟩ := h.all k hk hs this
     exact ⟨q, by simp [h1], h2⟩
 · refine ⟨?_, ?_, ?_, ?_, ?_⟩
   · exact G.os.trans (hg1.os.trans h.bel.os)
   · exact G.tape.trans (hg1.tape.trans h.bel.tape)
   · exact G.output.trans (hg1.output.trans h.bel.output)
   · exact Nat.le_trans h.bel.size hsz
   · intro i hi
     refine (hK i (by omega) (by omega) (fun e => ?_)).trans (h.bel.block i hi)
     have := h.own i e
     omega
theorem Col.few {w wr : World} {f : Int → Option SV} {es : Int → List Opt} {left : Lit → Bool} {v : Value} {out : List SV} (h : Col w wr f es left v out) (hf : ∀ k s, inR k → f k = some s → 1 ≤ k ∧ k ≤ 6) : out.length ≤ 6 := by
 have h1 := len_of_sub (out.map SV.own) [1, 2, 3, 4, 5, 6] (by rw [List.pairwise_map]; exact h.df) (fun x hx => by
  obtain ⟨s, hs, rfl⟩ := List.mem_map.1 hx
  obtain ⟨t, ht, _⟩ := (h.el s hs).1.at_
  have := hf _ t (h.el s hs).1.inr ht
  simp
  omega)
 simpa using h1
end Go.Proofs.YtieklnlbljejdaaGreatDoor

namespace Go.Proofs.YtieklnlbljejdaaGreatDoor
open Go.RowKit St
theorem infoState : (Tryz.prog.info? 40).map (fun i => (i.zero, i.size, i.bytes)) = some (some (.agg #[.int .i64 0, .int .i64 0, .slice none 0 0]), 3, 40) := by kernel_rfl
theorem cells_three (w : World) (x y z : Value) (t : TypeId) (g : Nat) (hg : w.heap.size = g) : ∀ (j : Nat) (u : Value), [x, y, z][j]? = some u → (w.alloc (.cells #[x, y, z] t)).cell? ((⟨g, 0, none⟩ : Addr).add j) = some u := by
 subst hg
 intro j u hu
 rw [add_plain, World.cell?_alloc_mark]
 simpa using hu
theorem one_sv (x y : Int) (a : Option Addr) (n c : Nat) : ∀ u ∈ [Value.int .i64 x, Value.int .i64 y, Value.slice a n c], u.oneCell' = true := by simp [Value.oneCell']
structure Risen (w w' : World) (f : Int → Option SV) (es : Int → List Opt) (v : Value) (ts : List SV) : Prop where
 shape : (v = .slice none 0 0 ∧ ts = []) ∨ ∃ g cap, v = .slice (some ⟨g, 0, none⟩) ts.length cap ∧ SR w' g cap ts ∧ w.heap.size < g
 el : ∀ s ∈ ts, ElOk w w' f es v s
 ris : Ris ts
 all : ∀ k, inR k → (f k).isSome = true → ∃ s ∈ ts, s.own = k
 bel : Below w.heap.size w w'
theorem Col.risen0 {w wr : World} {f : Int → Option SV} {es : Int → List Opt} {left : Lit → Bool} {v : Value} {out : List SV} (h : Col w wr f es left v out) (hl : ∀ kl, left kl = false) (hv : v = .slice none 0 0) : Risen w wr f es v [] ∧ out = [] := by
 have ho : out = [] := by
  rcases h.row.2 with ⟨_, e⟩ | ⟨g, cap, e, _⟩
  · exact List.eq_nil_of_length_eq_zero e
  · rw [hv] at e; cases e
 subst ho
 exact ⟨⟨.inl ⟨hv, rfl⟩, fun s hs => by simp at hs, List.Pairwise.nil, fun k hk hs => h.all k hk hs (hl _), h.bel⟩, rfl⟩
theorem Col.risen {w wr w' : World} {f : Int → Option SV} {es : Int → List Opt} {left : Lit → Bool} {g cap : Nat} {out ts : List SV} (h : Col w wr f es left (.slice (some ⟨g, 0, none⟩) out.length cap) out) (hl : ∀ kl, left kl = false)
 (hs : SR w' g cap ts) (hp : ts.Perm out) (hr : Ris ts) (hg : wr.grownBy w' (some g)) : Risen w w' f es (.slice (some ⟨g, 0, none⟩) out.length cap) ts := by
 have hgw : w.heap.size < g := h.own g rfl
 refine ⟨.inr ⟨g, cap, by rw [hp.length_eq], hs, hgw⟩, fun s hq => ?_, hr, fun k hk h1 => ?_, ?_⟩
 · have a := (h.el s (hp.mem_iff.1 hq)).1
   refine ⟨a.at_, a.inr, a.n, a.opt.kept (cap := s.cap) (fun j hj => ?_), a.nil, fun j hj => ?_⟩
   · obtain ⟨c1, c2, c3⟩ := a.new j hj
     exact hg.block j c2 (fun e => c3 e.symm)
   · obtain ⟨c1, c2, c3⟩ := a.new j hj
     exact ⟨c1, Nat.lt_of_lt_of_le c2 hg.size, c3⟩
 · obtain ⟨s, h2, h3⟩ := h.all k hk h1 (hl _)
   exact ⟨s, hp.mem_iff.2 h2, h3⟩
 · refine ⟨hg.os.trans h.bel.os, hg.tape.trans h.bel.tape, hg.output.trans h.bel.output, Nat.le_trans h.bel.size hg.size, fun i hi => (hg.block i (Nat.lt_of_lt_of_le hi h.bel.size) (fun e => ?_)).trans (h.bel.block i hi)⟩
   have : i = g := by simpa using e
   omega
set_option maxRecDepth 100000 in
set_option maxHeartbeats 2000000 in
theorem sort_nil (w : World) : Calls Tryz.prog 202 #[.slice none 0 0, .func (.func 203) #[] #[]] w fun e w' => e = .returned (.tuple #[]) ∧ w = w' := by
 have hle := len_any 0 (by decide) w
 have hin : Calls Tryz.prog 232 #[.slice none 0 0, .int .i64 0, .int .i64 0, .func (.func 203) #[] #[]] w fun e w' => e = .returned (.tuple #[]) ∧ w = w' := by
  go_enter Tryz.func232, Tryz.ntmps232
  go_wp2_with (fail)
  refine wp_loop_rounds 1 ?_
  rw [rounds_succ]
  go_wp2_with (fail)
  first | go_end0 | refine bodyPost_ret (results_none rfl _ _ _) rfl ?_
  exact ⟨rfl, rfl⟩
 have hpd : ∀ L : Int, Calls Tryz.prog 220 #[.slice none 0 0, .int .i64 0, .int .i64 0, .int .i64 L, .func (.func 203) #[] #[]] w fun e w' => e = .returned (.tuple #[]) ∧ w = w' := by
  intro L
  go_enter Tryz.func220, Tryz.ntmps220
  go_wp2_with (fail)
  refine wp_loop_rounds 1 ?_
  rw [rounds_succ]
  go_wp2_with (fail)
  refine hin.mono ?_
  rintro e w1 ⟨rfl, rfl⟩
  go_wp2_with (fail)
  first | go_end0 | refine bodyPost_ret (results_none rfl _ _ _) rfl ?_
  exact ⟨rfl, rfl⟩
 go_enter Tryz.func202, Tryz.ntmps202
 go_wp2_with (fail)
 refine hle.mono ?_
 rintro e w1 ⟨r, rfl, rfl⟩
 go_wp2_with (fail)
 refine (hpd r).mono ?_
 rintro e w2 ⟨rfl, rfl⟩
 go_wp2_with (fail)
 first | go_end0 | refine bodyPost_ret (results_none rfl _ _ _) rfl ?_
 exact ⟨rfl, rfl⟩
end Go.Proofs.YtieklnlbljejdaaGreatDoor
