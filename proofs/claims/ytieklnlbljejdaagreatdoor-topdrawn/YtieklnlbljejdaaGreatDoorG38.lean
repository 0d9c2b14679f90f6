/-
  NtCable NtHas NtOk
-/
import Derived.Test.YtieklnlbljejdaaGreatDoorG34
import Derived.Test.YtieklnlbljejdaaGreatDoorG37
namespace Go.Proofs.YtieklnlbljejdaaGreatDoor
open Go.RowKit St
namespace Rt
section
variable {P : Program}
theorem step_append_str {ops : Array Oper} {o : Oper} {a : Act} {w : World} {K : Act → World → Prop} {Q : Exit → Act → World → Prop} {E : Prop}
 (hgd : o.guard = none) (sl x : Operand) (t u : TypeId) (ho : o.op = .call { callee := .builtin .append, args := #[sl, x], argTypes := #[t, u] })
 (e : TypeId) (i : TypeInfo) (z : Value) (ht : P.underlying t = some (.slice e)) (hu : P.underlying u = some .string) (hi : P.info? e = some i) (hz : i.zero = some z) (hsize : i.size = 1) (hby : i.bytes = 1) (hzs : z.cells.size = 1)
 (v : Value) (n : Nat) (xs : List Value) (hs : a.eval sl = v) (hown : Row w 1 v n xs) (s : ByteArray) (hx : a.eval x = .string s) (hsl : s.size ≤ 1000000) (hn : n ≤ 1000000000)
 (h : ∀ v' w', Row w' 1 v' (n + s.size) (xs ++ cells8 s.data.toList) → w.grownBy w' v.ownBlock → (v'.ownBlock = v.ownBlock ∨ ∃ k, v'.ownBlock = some k ∧ w.heap.size ≤ k) → K (a.put o.dst v') w') :
 if Region.wanted o (yielded ops a.tmps) = true then Oper.wp P o a w K Q else E := by
 have hw : Region.wanted o (yielded ops a.tmps) = true := by simp [Region.wanted, hgd]
 rw [if_pos hw]
 obtain ⟨v', w', hr, h2, h3, h4⟩ := run_append_str (P := P) w t u o.type e i z ht hu hi hz hsize hby hzs v n xs hown s hsl hn
 unfold Oper.wp execOp
 simp only [ho, resolve, invoke, builtin, Sem.run_bind, Sem.run_pure, Result.andThen_ok, List.map_toArray, List.map_cons, List.map_nil, hs, hx, hr]
 exact h v' w' h2 h3 h4
end
theorem Row.shape {w : World} {sz : Nat} {v : Value} {n : Nat} {xs : List Value} (h : Row w sz v n xs) : ∃ a c, v = Value.slice a n c := by
 rcases h.2 with ⟨e, e2⟩ | ⟨g', c', e, _⟩
 · exact ⟨none, 0, by rw [e, e2]⟩
 · exact ⟨_, _, e⟩
structure CbW (w w' : World) (g o d : Nat) (c : CbM) (ov : Nat → Value) (v' : Value) : Prop where
 os : w'.os = w.os
 tape : w'.tape = w.tape
 output : w'.output = w.output
 size : w.heap.size ≤ w'.heap.size
 block : ∀ k, k < w.heap.size → k ≠ g → (ov d).ownBlock ≠ some k → w'.heap[k]? = w.heap[k]?
 cell : ∀ j, j < o ∨ o + 7 ≤ j → w'.cell? ⟨g, j, none⟩ = w.cell? ⟨g, j, none⟩
 fz : ∀ j, w'.frozen? ⟨g, j, none⟩ = w.frozen? ⟨g, j, none⟩
 cel : Cel w' g o 7 (cbF c (upN ov d v'))
 row : Row w' 1 v' (c.on d).length (cells8 (c.on d))
 own : ∀ k, v'.ownBlock = some k → (ov d).ownBlock = some k ∨ w.heap.size ≤ k
theorem cbF_on (c : CbM) (ov : Nat → Value) (d : Nat) (hd : d < 2) (v : Value) (f : Nat → List UInt8) : ∀ j, j < 7 → updV (cbF c ov) (5 + d) v j = cbF { c with on := f } (upN ov d v) j := by
 intro j hj
 have hd2 : d = 0 ∨ d = 1 := by omega
 rcases hd2 with rfl | rfl
 · by_cases e : j = 5
   · subst e; rfl
   · rw [updV_other _ _ (by omega)]
     unfold cbF
     simp only [e, if_false]
     rfl
 · by_cases e : j = 6
   · subst e; rfl
   · rw [updV_other _ _ (by omega)]
     unfold cbF
     have e6 : ¬ j = 6 := e
     by_cases e5 : j = 5
     · subst e5; rfl
     · have : j < 5 := by omega
       simp only [e5, if_false]
       by_cases e4 : j = 4
       · simp [e4]
       · have : j < 4 := by omega
         by_cases e3 : j = 3
         · simp [e3]
         · by_cases e2 : j = 2
           · simp [e2]
           · by_cases e1 : j = 1
             · simp [e1]
             · have : j = 0 := by omega
               simp [this]
theorem cbF_at (c : CbM) (ov : Nat → Value) (d : Nat) (hd : d < 2) : cbF c ov (5 + d) = ov d := by
 have hd2 : d = 0 ∨ d = 1 := by omega
 rcases hd2 with rfl | rfl <;> rfl
theorem CbW.still {w w' : World} {g o d : Nat} {c : CbM} {ov : Nat → Value} (hC : Cel w g o 7 (cbF c ov)) (hR : Row w 1 (ov d) (c.on d).length (cells8 (c.on d))) (hb : Below w.heap.size w w') : CbW w w' g o d c ov (ov d) := by
 have hl := hC.lt (by decide)
 refine ⟨hb.os, hb.tape, hb.output, hb.size, fun k hk _ _ => hb.block k hk, fun j _ => World.cell?_of_block (a := ⟨g, j, none⟩) (hb.block g hl), fun j => by simp only [World.frozen?, hb.block g hl], ?_, hR.below hb, fun k e => .inl e⟩
 rw [upN_self]
 exact hC.below (by decide) hb
theorem CbW.turn {w x : World} {g o d : Nat} {c : CbM} {ov : Nat → Value} (hd : d < 2) (hC : Cel w g o 7 (cbF c ov)) (hg : (ov d).ownBlock ≠ some g) (v : Value) (f : Nat → List UInt8) (os : x.os = w.os) (tp : x.tape = w.tape) (ou : x.output = w.output) (hs : w.heap.size ≤ x.heap.size)
 (hk : ∀ k, k < w.heap.size → (ov d).ownBlock ≠ some k → x.heap[k]? = w.heap[k]?) (hr : Row x 1 v (f d).length (cells8 (f d))) (hown : ∀ k, v.ownBlock = some k → (ov d).ownBlock = some k ∨ w.heap.size ≤ k) :
 CbW w (x.setCell ⟨g, o + 5 + d, none⟩ v) g o d { c with on := f } ov v := by
 rw [Nat.add_assoc]
 have hl := hC.lt (by decide)
 have hgx := hk g hl hg
 have hvg : v.ownBlock ≠ some g := fun e => by
  rcases hown g e with e1 | e1
  · exact hg e1
  · omega
 refine ⟨os, tp, ou, by simpa using hs, fun k hk' h1 h2 => (Below.heap_setCell _ _ _ k h1).trans (hk k hk' h2), fun j hj => ?_, fun j => ?_, ?_, ?_, hown⟩
 · rw [World.cell?_setCell_other _ _ _ _ (fun e => by have := congrArg Addr.off e; simp at this; omega)]
   exact World.cell?_of_block (a := ⟨g, j, none⟩) hgx
 · rw [frozen_setCell]
   simp only [World.frozen?, hgx]
 · exact ((hC.keep hgx).set (5 + d) (by omega) v).congr (cbF_on c ov d hd v f)
 · exact hr.keep (by simp) (fun k e => Below.heap_setCell _ _ _ k (fun e1 => hvg (by rw [e, e1])))
set_option maxRecDepth 100000 in
set_option maxHeartbeats 1000000 in
theorem putC_any (g o d : Nat) (c : CbM) (ov : Nat → Value) (s : ByteArray) (w : World) (hd : d < 2) (hC : Cel w g o 7 (cbF c ov)) (hR : Row w 1 (ov d) (c.on d).length (cells8 (c.on d))) (hg : (ov d).ownBlock ≠ some g) (hl : (c.on d).length ≤ 2000) (hs : s.size ≤ 1000000000) :
 Calls Tryz.prog 161 #[.pointer (some ⟨g, o, none⟩), .int .i64 (d : Int), .string s] w fun e w' => e = .returned (.tuple #[]) ∧ ∃ v', CbW w w' g o d (c.put d s.data.toList) ov v' := by
 obtain ⟨i0, hi, hz0, hz1, hz2⟩ := info_parts info8
 have hsl : s.data.toList.length = s.size := by simp
 have c4 : w.cell? ⟨g, o + 4, none⟩ = some (.bool c.inn) := hC.cell 4 (by decide)
 have c5 : w.cell? ⟨g, o + 5 + d, none⟩ = some (ov d) := by rw [Nat.add_assoc, hC.cell (5 + d) (by omega), cbF_at c ov d hd]
 have f5 : w.frozen? ⟨g, o + 5 + d, none⟩ = false := by rw [Nat.add_assoc]; exact hC.fz (5 + d) (by omega)
 have gl := hC.lt (by decide)
 have hd' : (d : Int) < 2 := by omega
 have hd0 : (0 : Int) ≤ (d : Int) := by omega
 have HC : Hid _ := hC
 have hnw : IntKind.i64.wrap (((c.on d).length : Int) + (s.size : Int)) = ((c.on d).length : Int) + (s.size : Int) := IntWalk.i64_in _ ⟨by omega, by omega⟩
 clear hC
 cases hin : c.inn with
 | false =>
   have hE : c.put d s.data.toList = c := by unfold CbM.put; rw [if_neg (by simp [hin])]
   rw [hE]
   rw [hin] at c4
   have HR : Hid _ := hR
   clear hR
   go_enter Tryz.func161, Tryz.ntmps161
   go_wp2_with (fail)
   first | go_end0 | refine bodyPost_ret (results_none rfl _ _ _) rfl ?_
   exact ⟨rfl, _, CbW.still HC.out HR.out (Below.refl _ _)⟩
 | true =>
   rw [hin] at c4
   obtain ⟨v, hv⟩ : ∃ v, ov d = v := ⟨_, rfl⟩
   obtain ⟨n, hn⟩ : ∃ n, (c.on d).length = n := ⟨_, rfl⟩
   have HV : Hid _ := hv
   have HN : Hid _ := hn
   have hR' := hR
   rw [hv] at c5
   rw [hn] at hnw hl
   rw [hv, hn] at hR'
   have HR : Hid _ := hR
   have hsh : ∃ a' c', v = Value.slice a' n c' := by
    rcases hR'.2 with ⟨e, e2⟩ | ⟨g', c', e, _⟩
    · exact ⟨none, 0, by rw [e, e2]⟩
    · exact ⟨_, _, e⟩
   obtain ⟨a', c', hve⟩ := hsh
   rw [hve] at c5 hR'
   by_cases hfit : (n : Int) + (s.size : Int) ≤ 2000
   · have hE : c.put d s.data.toList = { c with on := upN c.on d (c.on d ++ s.data.toList) } := by
      unfold CbM.put
      rw [if_pos ⟨hin, by omega⟩]
     have HE : Hid _ := hE
     have HG : Hid (Value.ownBlock (.slice a' n c') ≠ some g) := by rw [← hve, ← hv]; exact hg
     have HVE : Hid _ := hve
     clear hR hE hv hn hve hg
     go_enter Tryz.func161, Tryz.ntmps161
     go_wp2_with (fail)
     go_region_law ((refine step_append_str (by rfl) (.tmp 30) (.tmp 31) 140 9 (by rfl) 5 i0 (.int .u8 0) Tryz.underlying140 Tryz.underlying9 hi hz0 hz1 hz2 (by rfl) (.slice a' n c') n (cells8 (c.on d)) (by rfl) (by exact hR'.drew) s (by rfl) (by omega) (by omega) ?_; intro v1 x1 hr1 hg1 hown1; obtain ⟨a1, c1, hv1⟩ := Row.shape hr1; subst hv1; have y5 := (World.cell?_of_block (a := ⟨g, o + 5 + d, none⟩) (hg1.block g (by exact gl) (fun e => HG.out e.symm))).trans c5; have z5 := (World.frozen?_of_block (a := ⟨g, o + 5 + d, none⟩) (hg1.block g (by exact gl) (fun e => HG.out e.symm))).trans f5))
     all_goals
      go_wp2_with (fail)
      first | go_end0 | refine bodyPost_ret (results_none rfl _ _ _) rfl ?_
      have hown2 : ∀ k, Value.ownBlock (.slice a1 (n + s.size) c1) = some k → (ov d).ownBlock = some k ∨ w.heap.size ≤ k := by
       intro k hk
       rw [HV.out, HVE.out]
       rcases hown1 with e | ⟨k', e, hk'⟩
       · exact .inl (by rw [← e]; exact hk)
       · rw [hk] at e
         obtain rfl := Option.some.inj e
         exact .inr hk'
      refine ⟨rfl, .slice a1 (n + s.size) c1, ?_⟩
      rw [HE.out]
      refine CbW.turn hd HC.out (by rw [HV.out, HVE.out]; exact HG.out) (.slice a1 (n + s.size) c1) _ hg1.os hg1.tape hg1.output hg1.size (fun k hk h1 => hg1.block k hk (fun e => h1 (by rw [HV.out, HVE.out]; exact e.symm))) ?_ hown2
      rw [upN_same, List.length_append, cells8_append, HN.out, hsl]
      exact hr1
   · have hE : c.put d s.data.toList = c := by
      unfold CbM.put
      rw [if_neg (fun e => hfit (by have := e.2; omega))]
     rw [hE]
     clear hR hE hv hn hve
     go_enter Tryz.func161, Tryz.ntmps161
     go_wp2_with (fail)
     first | go_end0 | refine bodyPost_ret (results_none rfl _ _ _) rfl ?_
     exact ⟨rfl, _, CbW.still HC.out HR.out (Below.refl _ _)⟩
end Rt
end Go.Proofs.YtieklnlbljejdaaGreatDoor

namespace Go.Proofs.YtieklnlbljejdaaGreatDoor
open Go.RowKit St
namespace Rt
theorem NetR.k0 {w : World} {y : Yt} {n : NtM} (h : NetR w y n) : w.cell? ⟨y.N, 0, none⟩ = some (.slice (some ⟨y.gR, 0, none⟩) n.n y.capR) := h.blk.cell 0
theorem NetR.k1 {w : World} {y : Yt} {n : NtM} (h : NetR w y n) : w.cell? ⟨y.N, 1, none⟩ = some (.slice (some ⟨y.gI, 0, none⟩) n.n y.capI) := h.blk.cell 1
theorem NetR.k2 {w : World} {y : Yt} {n : NtM} (h : NetR w y n) : w.cell? ⟨y.N, 2, none⟩ = some (.map (some y.bM)) := h.blk.cell 2
theorem NetR.k3 {w : World} {y : Yt} {n : NtM} (h : NetR w y n) : w.cell? ⟨y.N, 3, none⟩ = some (y.cv n.nc) := h.blk.cell 3
theorem NetR.Nlt {w : World} {y : Yt} {n : NtM} (h : NetR w y n) : y.N < w.heap.size := h.blk.lt
theorem NetR.gRlt {w : World} {y : Yt} {n : NtM} (h : NetR w y n) : y.gR < w.heap.size := h.at_lt (l := .R) rfl
theorem NetR.gIlt {w : World} {y : Yt} {n : NtM} (h : NetR w y n) : y.gI < w.heap.size := h.at_lt (l := .I) rfl
theorem NetR.ptr {w : World} {y : Yt} {n : NtM} (h : NetR w y n) {i : Nat} (hi : i < n.n) : w.cell? ⟨y.gR, i, none⟩ = some (.pointer (some ⟨(y.z i).R, 0, none⟩)) := by
 have := h.rr.cell i hi
 rwa [Nat.zero_add] at this
theorem NetR.box1 {w : World} {y : Yt} {n : NtM} (h : NetR w y n) {i : Nat} (hi : i < n.n) : w.cell? ⟨y.gI, i, none⟩ = some (y.iv i) := by
 have := h.ri.cell i hi
 rwa [Nat.zero_add] at this
theorem NetR.cvs {w : World} {y : Yt} {n : NtM} (h : NetR w y n) : ∃ a cp, y.cv n.nc = .slice a n.nc cp ∧ ∀ c, c < n.nc → ∃ g, y.gC = some g ∧ a = some ⟨g, 0, none⟩ := by
 unfold Yt.cv
 cases hg : y.gC with
 | none =>
   have h0 : n.nc = 0 := by
    rcases Nat.eq_zero_or_pos n.nc with e | e
    · exact e
    · obtain ⟨g, e2⟩ := h.gc 0 e
      rw [hg] at e2; simp at e2
   exact ⟨none, 0, by rw [h0], fun c hc => by omega⟩
 | some g => exact ⟨_, _, rfl, fun c hc => ⟨g, rfl, rfl⟩⟩
section
variable {w w' : World} {y : Yt} {n : NtM} {m : Nat}
theorem WentN.k0 (h : WentN w w' y n m) : w'.cell? ⟨y.N, 0, none⟩ = some (.slice (some ⟨y.gR, 0, none⟩) n.n y.capR) := by
 obtain ⟨⟨y', hR, hs, _⟩, _⟩ := h
 have := hR.k0
 rwa [hs.N, hs.gR, hs.capR] at this
theorem WentN.k3 (h : WentN w w' y n m) : w'.cell? ⟨y.N, 3, none⟩ = some (y.cv n.nc) := by
 obtain ⟨⟨y', hR, hs, _⟩, _⟩ := h
 have := hR.k3
 have e : y'.cv n.nc = y.cv n.nc := by unfold Yt.cv; rw [hs.gC, hs.capC]
 rwa [hs.N, e] at this
theorem WentN.lt (h : WentN w w' y n m) : y.N < w'.heap.size := World.block_lt_of_cell? _ _ h.k0
theorem WentN.ptr (h : WentN w w' y n m) {i : Nat} (hi : i < n.n) : ∃ R, w'.cell? ⟨y.gR, i, none⟩ = some (.pointer (some ⟨R, 0, none⟩)) := by
 obtain ⟨⟨y', hR, hs, _⟩, _⟩ := h
 have := hR.ptr hi
 rw [hs.gR] at this
 exact ⟨_, this⟩
theorem WentN.cab (h : WentN w w' y n m) {c g : Nat} (hc : c < n.nc) (hg : y.gC = some g) : ∃ ov, Cel w' g (c * 7) 7 (cbF (n.C c) ov) := by
 obtain ⟨⟨y', hR, hs, _⟩, _⟩ := h
 exact ⟨_, hR.rc g (by rw [hs.gC]; exact hg) c hc⟩
theorem WentN.tab {n0 : NtM} (h : WentN w w' y n m) (hR : NetR w y n0) (hn : n0.n = m) (hT : TabOk w) : TabOk w' := fun e s he hs => by
 subst hn
 refine (World.cell?_of_block (a := ⟨0, e * 10 + s, none⟩) (h.kept.block 0 hT.lt (fun hm => ?_))).trans (hT e s he hs)
 rcases hm with e1 | ⟨j, hj, e1⟩
 · exact hR.z0 e1
 · have R := hR.rt j hj
   have h3 := (hR.rn j hj).1
   rcases e1 with e2 | e2 | e2
   · rcases e2 with e3 | e3 | ⟨i, hi, e3 | e3⟩ | e3
     · exact R.sR.2.1 e3.symm
     · exact (R.pt 0 R.n1).nz.1 e3.symm
     · exact (R.pt i (by omega)).nz.2.1 e3.symm
     · exact (R.pt i (by omega)).nz.2.2 e3
     · exact R.nz0.1 e3
   · exact R.nz0.2 0 (.inl e2) rfl
   · exact R.nz0.2 0 (.inr e2) rfl
theorem WentN.first {a b c : World} {y : Yt} {n' : NtM} {m : Nat} (hb : Below a.heap.size a b) (k : WentN b c y n' m) : WentN a c y n' m := by
 obtain ⟨⟨y2, g1, g2, g3, g4⟩, g5⟩ := k
 exact ⟨⟨y2, g1, g2, fun x hx => (g3 x hx).imp_right (fun e => Nat.le_trans hb.size e), g4⟩, ⟨g5.os.trans hb.os, g5.tape.trans hb.tape, g5.output.trans hb.output, Nat.le_trans hb.size g5.size, fun x hx h1 => (g5.block x (Nat.lt_of_lt_of_le hx hb.size) h1).trans (hb.block x hx)⟩⟩
end
def hasN (i : Int) (n : Nat) : Bool := decide (1 ≤ i) && decide (i ≤ (n : Int))
theorem hasN_cases (i : Int) (n : Nat) : (hasN i n = false ∧ (i < 1 ∨ (n : Int) < i)) ∨ ∃ k : Nat, k < n ∧ i = (k : Int) + 1 := by
 by_cases h0 : 1 ≤ i
 · by_cases h1 : i ≤ (n : Int)
   · exact .inr ⟨(i - 1).toNat, by omega, by omega⟩
   · exact .inl ⟨by simp [hasN, h1], by omega⟩
 · exact .inl ⟨by simp [hasN, h0], by omega⟩
theorem hasN_yes {i n : Nat} (h : i < n) : hasN ((i : Int) + 1) n = true := by simp [hasN]; omega
def hasW (i d : Int) (n : Nat) : Bool := hasB i n && (decide (0 ≤ d) && decide (d < 2))
theorem hasW_cases (i d : Int) (n : Nat) : (hasW i d n = false ∧ (i < 0 ∨ (n : Int) ≤ i ∨ d < 0 ∨ 2 ≤ d)) ∨ ∃ c k : Nat, c < n ∧ k < 2 ∧ i = (c : Int) ∧ d = (k : Int) := by
 by_cases h0 : 0 ≤ i
 · by_cases h1 : i < (n : Int)
   · by_cases h2 : 0 ≤ d
     · by_cases h3 : d < 2
       · exact .inr ⟨i.toNat, d.toNat, by omega, by omega, by omega, by omega⟩
       · exact .inl ⟨by simp [hasW, h3], by omega⟩
     · exact .inl ⟨by simp [hasW, h2], by omega⟩
   · exact .inl ⟨by simp [hasW, hasB, h1], by omega⟩
 · exact .inl ⟨by simp [hasW, hasB, h0], by omega⟩
theorem hasW_yes {c d n : Nat} (h : c < n) (hd : d < 2) : hasW (c : Int) (d : Int) n = true := by simp [hasW, hasB]; omega
set_option maxRecDepth 100000 in
theorem hasRouter_any (y : Yt) (n : NtM) (i : Int) (w : World) (h : NetR w y n) :
 Calls Tryz.prog 107 #[.pointer (some ⟨y.N, 0, none⟩), .int .i64 i] w fun e w' => e = .returned (.bool (hasN i n.n)) ∧ w = w' := by
 have hl := h.Nlt
 have c1 := h.k0
 unfold hasN
 by_cases h0 : 1 ≤ i
 · by_cases h1 : i ≤ (n.n : Int)
   · have hv : (decide (1 ≤ i) && decide (i ≤ (n.n : Int))) = true := by simp [h0, h1]
     rw [hv]
     clear hv h
     go_enter Tryz.func107, Tryz.ntmps107
     go_wp2
     go_ret
     exact ⟨by first | rfl | (simp; omega), rfl⟩
   · have hv : (decide (1 ≤ i) && decide (i ≤ (n.n : Int))) = false := by simp [h1]
     rw [hv]
     clear hv h
     go_enter Tryz.func107, Tryz.ntmps107
     go_wp2
     go_ret
     exact ⟨by first | rfl | (simp; omega), rfl⟩
 · have hv : (decide (1 ≤ i) && decide (i ≤ (n.n : Int))) = false := by simp [h0]
   rw [hv]
   clear hv h
   go_enter Tryz.func107, Tryz.ntmps107
   go_wp2
   go_ret
   exact ⟨by first | rfl | (simp; omega), rfl⟩
set_option maxRecDepth 100000 in
theorem hasCable_any (y : Yt) (n : NtM) (i : Int) (w : World) (h : NetR w y n) :
 Calls Tryz.prog 112 #[.pointer (some ⟨y.N, 0, none⟩), .int .i64 i] w fun e w' => e = .returned (.bool (hasB i n.nc)) ∧ w = w' := by
 have hl := h.Nlt
 have c1 := h.k3
 obtain ⟨a, cp, hcv, _⟩ := h.cvs
 rw [hcv] at c1
 unfold hasB
 by_cases h0 : 0 ≤ i
 · by_cases h1 : i < (n.nc : Int)
   · have hv : (decide (0 ≤ i) && decide (i < (n.nc : Int))) = true := by simp [h0, h1]
     rw [hv]
     clear hv h hcv
     go_enter Tryz.func112, Tryz.ntmps112
     go_wp2
     go_ret
     exact ⟨by first | rfl | (simp; omega), rfl⟩
   · have hv : (decide (0 ≤ i) && decide (i < (n.nc : Int))) = false := by simp [h1]
     rw [hv]
     clear hv h hcv
     go_enter Tryz.func112, Tryz.ntmps112
     go_wp2
     go_ret
     exact ⟨by first | rfl | (simp; omega), rfl⟩
 · have hv : (decide (0 ≤ i) && decide (i < (n.nc : Int))) = false := by simp [h0]
   rw [hv]
   clear hv h hcv
   go_enter Tryz.func112, Tryz.ntmps112
   go_wp2
   go_ret
   exact ⟨by first | rfl | (simp; omega), rfl⟩
set_option maxRecDepth 100000 in
theorem hasWay_any (y : Yt) (n : NtM) (i d : Int) (w : World) (h : NetR w y n) :
 Calls Tryz.prog 108 #[.pointer (some ⟨y.N, 0, none⟩), .int .i64 i, .int .i64 d] w fun e w' => e = .returned (.bool (hasW i d n.nc)) ∧ w = w' := by
 have hh := hasCable_any y n i w h
 unfold hasW
 cases hb : hasB i n.nc with
 | false =>
   rw [hb] at hh
   have hv : (false && (decide (0 ≤ d) && decide (d < 2))) = false := rfl
   rw [hv]
   clear hv h hb
   go_enter Tryz.func108, Tryz.ntmps108
   go_wp2_with (fail)
   refine hh.mono ?_
   rintro e w0 ⟨rfl, rfl⟩
   clear hh
   go_wp2_with (fail)
   go_ret
   exact ⟨rfl, rfl⟩
 | true =>
   rw [hb] at hh
   clear h hb
   by_cases h2 : 0 ≤ d
   · by_cases h3 : d < 2
     · have hv : (true && (decide (0 ≤ d) && decide (d < 2))) = true := by simp [h2, h3]
       rw [hv]
       clear hv
       go_enter Tryz.func108, Tryz.ntmps108
       go_wp2_with (fail)
       refine hh.mono ?_
       rintro e w0 ⟨rfl, rfl⟩
       clear hh
       go_wp2_with (fail)
       go_ret
       exact ⟨by first | rfl | (simp; omega), rfl⟩
     · have hv : (true && (decide (0 ≤ d) && decide (d < 2))) = false := by simp [h3]
       rw [hv]
       clear hv
       go_enter Tryz.func108, Tryz.ntmps108
       go_wp2_with (fail)
       refine hh.mono ?_
       rintro e w0 ⟨rfl, rfl⟩
       clear hh
       go_wp2_with (fail)
       go_ret
       exact ⟨by first | rfl | (simp; omega), rfl⟩
   · have hv : (true && (decide (0 ≤ d) && decide (d < 2))) = false := by simp [h2]
     rw [hv]
     clear hv
     go_enter Tryz.func108, Tryz.ntmps108
     go_wp2_with (fail)
     refine hh.mono ?_
     rintro e w0 ⟨rfl, rfl⟩
     clear hh
     go_wp2_with (fail)
     go_ret
     exact ⟨by first | rfl | (simp; omega), rfl⟩
set_option maxRecDepth 100000 in
theorem other_any (d : Nat) (hd : d < 2) (w : World) : Calls Tryz.prog 156 #[.int .i64 (d : Int)] w fun e w' => e = .returned (.int .i64 ((1 - d : Nat) : Int)) ∧ w = w' := by
 have e1 : ((1 - d : Nat) : Int) = 1 - (d : Int) := by omega
 have hw : IntKind.i64.wrap (1 - (d : Int)) = 1 - (d : Int) := IntWalk.i64_in _ ⟨by omega, by omega⟩
 rw [e1]
 go_enter Tryz.func156, Tryz.ntmps156
 go_wp2_with (fail)
 go_ret
 exact ⟨rfl, rfl⟩
set_option maxRecDepth 100000 in
theorem at_any (y : Yt) (n : NtM) (i : Nat) (p : Int) (w : World) (h : NetR w y n) (hi : i < n.n) :
 Calls Tryz.prog 157 #[.pointer (some ⟨y.N, 0, none⟩), .agg #[.int .i64 ((i : Int) + 1), .int .i64 p]] w fun e w' => e = .returned (.pointer (some ⟨(y.z i).R, 0, none⟩)) ∧ Below w.heap.size w w' := by
 have bm := below_alloc w (.cells #[.int .i64 ((i : Int) + 1), .int .i64 p] 192)
 have hM : Blk (w.alloc (.cells #[.int .i64 ((i : Int) + 1), .int .i64 p] 192)) w.heap.size #[.int .i64 ((i : Int) + 1), .int .i64 p] 192 := Blk.new w _ _
 have h0 := h.below bm
 obtain ⟨W0, hW0⟩ : ∃ W0, w.alloc (.cells #[.int .i64 ((i : Int) + 1), .int .i64 p] 192) = W0 := ⟨_, rfl⟩
 obtain ⟨N, hN⟩ : ∃ N, w.heap.size = N := ⟨_, rfl⟩
 rw [hW0] at hM h0 bm
 rw [hN] at hM
 have e0 : W0.cell? ⟨N, 0, none⟩ = some (.int .i64 ((i : Int) + 1)) := hM.cell 0
 have el := hM.lt
 have c0 := h0.k0
 have cl := h0.Nlt
 have d0 := h0.ptr hi
 have dl := h0.gRlt
 have n6 := h.n6
 have hw : IntKind.i64.wrap ((i : Int) + 1 - 1) = (i : Int) := by
  have : (i : Int) + 1 - 1 = i := by omega
  rw [this]; exact IntWalk.i64_in _ ⟨by omega, by omega⟩
 have hi' : (i : Int) < (n.n : Int) := by omega
 have hi0 : (0 : Int) ≤ (i : Int) := by omega
 have HB : Hid _ := bm
 have HW0 : Hid _ := hW0
 have HN : Hid _ := hN
 clear h h0 hM hW0 hN bm
 go_enter Tryz.func157, Tryz.ntmps157
 go_wp2_with (fail)
 rw [HW0.out]
 try rw [HN.out]
 go_quiet (fail)
 go_wp2_with (fail)
 go_ret
 exact ⟨rfl, below_drewN HB.out _⟩
set_option maxRecDepth 100000 in
theorem router_yes (y : Yt) (n : NtM) (i : Nat) (w : World) (h : NetR w y n) (hi : i < n.n) :
 Calls Tryz.prog 40 #[.pointer (some ⟨y.N, 0, none⟩), .int .i64 ((i : Int) + 1)] w fun e w' => e = .returned (.tuple #[.pointer (some ⟨(y.z i).R, 0, none⟩), .nilIface]) ∧ w = w' := by
 have hh := hasRouter_any y n ((i : Int) + 1) w h
 rw [hasN_yes hi] at hh
 have c0 := h.k0
 have cl := h.Nlt
 have d0 := h.ptr hi
 have dl := h.gRlt
 have n6 := h.n6
 have hw : IntKind.i64.wrap ((i : Int) + 1 - 1) = (i : Int) := by
  have : (i : Int) + 1 - 1 = i := by omega
  rw [this]; exact IntWalk.i64_in _ ⟨by omega, by omega⟩
 have hi' : (i : Int) < (n.n : Int) := by omega
 have hi0 : (0 : Int) ≤ (i : Int) := by omega
 clear h
 go_enter Tryz.func40, Tryz.ntmps40
 go_wp2_with (fail)
 refine hh.mono ?_
 rintro e w1 ⟨rfl, rfl⟩
 clear hh
 go_wp2_with (fail)
 go_ret2
 exact ⟨rfl, rfl⟩
theorem NetR.onc {w : World} {y : Yt} {n : NtM} (h : NetR w y n) {c d g : Nat} (hc : c < n.nc) (hd : d < 2) (hg : y.gC = some g) : ∃ a cp, y.ov c d = .slice a ((n.C c).on d).length cp ∧ w.cell? ⟨g, c * 7 + 5 + d, none⟩ = some (.slice a ((n.C c).on d).length cp) := by
 have h1 := (h.rc g hg c hc).cell (5 + d) (by omega)
 rw [cbF_at _ _ d hd, ← Nat.add_assoc] at h1
 obtain ⟨a, cp, e⟩ := Row.shape (h.ob c d hc hd)
 exact ⟨a, cp, e, by rw [h1, e]⟩
set_option maxRecDepth 100000 in
theorem on_yes (y : Yt) (n : NtM) (c d : Nat) (w : World) (h : NetR w y n) (hc : c < n.nc) (hd : d < 2) :
 Calls Tryz.prog 41 #[.pointer (some ⟨y.N, 0, none⟩), .int .i64 (c : Int), .int .i64 (d : Int)] w fun e w' => e = .returned (.tuple #[.int .i64 (((n.C c).on d).length : Nat), .nilIface]) ∧ w = w' := by
 have hh := hasWay_any y n c d w h
 rw [hasW_yes hc hd] at hh
 have c3 := h.k3
 obtain ⟨a, cp, hcv, hg⟩ := h.cvs
 obtain ⟨g, hgC, rfl⟩ := hg c hc
 rw [hcv] at c3
 have cl := h.Nlt
 obtain ⟨a2, cp2, _, d5⟩ := h.onc hc hd hgC
 have dl := h.at_lt (l := .C) hgC
 have c9 := h.c9
 have hc' : (c : Int) < (n.nc : Int) := by omega
 have hc0 : (0 : Int) ≤ (c : Int) := by omega
 have hd' : (d : Int) < 2 := by omega
 have hd0 : (0 : Int) ≤ (d : Int) := by omega
 generalize ((n.C c).on d).length = L at d5 ⊢
 clear h hcv hg hgC
 go_enter Tryz.func41, Tryz.ntmps41
 go_wp2_with (fail)
 refine hh.mono ?_
 rintro e w1 ⟨rfl, rfl⟩
 clear hh
 go_wp2_with (fail)
 go_ret2
 exact ⟨rfl, rfl⟩
end Rt
end Go.Proofs.YtieklnlbljejdaaGreatDoor

namespace Go.Proofs.YtieklnlbljejdaaGreatDoor
open Go.RowKit St
namespace Rt
structure Idle (p : PtM) : Prop where
 st : p.L.st = 1
 pe : p.pe = nobody
 out : p.out = []
structure Grew (r r' : RtM) (k : Nat) : Prop where
 n : r'.n = r.n
 id : r'.id = r.id
 lo : r.drop ≤ r'.drop
 hi : r'.drop ≤ r.drop + k
theorem Grew.refl (r : RtM) : Grew r r 0 := ⟨rfl, rfl, Int.le_refl _, by omega⟩
theorem Grew.mono {r r' : RtM} {k l : Nat} (h : Grew r r' k) (hl : k ≤ l) : Grew r r' l := ⟨h.n, h.id, h.lo, by have := h.hi; omega⟩
theorem Grew.trans {a b c : RtM} {k l : Nat} (h : Grew a b k) (g : Grew b c l) : Grew a c (k + l) := ⟨g.n.trans h.n, g.id.trans h.id, Int.le_trans h.lo g.lo, by have := h.hi; have := g.hi; omega⟩
theorem Grew.of_drop {r r' : RtM} (hn : r'.n = r.n) (hi : r'.id = r.id) (hd : r'.drop = r.drop) : Grew r r' 0 := ⟨hn, hi, by omega, by omega⟩
theorem Grew.setP (r : RtM) (i : Nat) (p : PtM) : Grew r (r.setP i p) 0 := Grew.of_drop rfl rfl rfl
theorem Grew.meet (r : RtM) (i : Nat) (q : PeerM) : Grew r (r.meet i q) 0 := by
 obtain ⟨_, h2, h3, _⟩ := meet_same r i q
 exact Grew.of_drop h3 (meet_id _ _ _) h2
theorem Grew.behind (r : RtM) (s : Int) : Grew r (r.behind s) 0 := by
 obtain ⟨_, h2, h3, _⟩ := behind_same r s
 exact Grew.of_drop h3 (behind_id _ _) h2
theorem Grew.send (r : RtM) (t : Msg) : Grew r (r.send t) 1 := by
 unfold RtM.send
 split
 · exact Grew.mono (k := 0) (Grew.of_drop rfl rfl rfl) (by omega)
 · split
   · exact ⟨rfl, rfl, by simp; omega, by simp⟩
   · exact (Grew.setP _ _ _).mono (by omega)
theorem Grew.state (r : RtM) (i : Nat) (l : List UInt8) : Grew r (stateM r i l) 0 := by
 unfold stateM
 simp only
 split
 · exact Grew.refl r
 · split
   · exact Grew.behind _ _
   · split <;> exact Grew.of_drop rfl rfl rfl
theorem Grew.link (r : RtM) (i : Nat) (c : UInt8) (s : List UInt8) : Grew r (linkM r i c s) 0 := by
 unfold linkM
 split
 · exact Grew.setP _ _ _
 · exact Grew.refl r
theorem Grew.rest (r : RtM) (i : Nat) (c : UInt8) (s : List UInt8) : Grew r (restM r i c s) 1 := by
 unfold restM
 split
 · split
   · exact (Grew.meet _ _ _).mono (by omega)
   · exact (Grew.refl r).mono (by omega)
 · split
   · exact (Grew.state _ _ _).mono (by omega)
   · split
     · unfold heardM
       simp only
       split <;> exact Grew.mono (k := 0) (Grew.of_drop rfl rfl rfl) (by omega)
     · split
       · unfold msgM
         split
         · exact Grew.send _ _
         · exact (Grew.refl r).mono (by omega)
       · exact (Grew.refl r).mono (by omega)
theorem Grew.take (r : RtM) (i : Nat) (c : UInt8) (s : List UInt8) : Grew r (r.take i c s) 1 := by
 rw [take_eq]
 have h1 := Grew.link r i c s
 split
 · exact (h1.trans (Grew.meet _ _ _)).mono (by omega)
 · exact (h1.trans (Grew.rest _ i c s)).mono (by omega)
theorem Grew.takes : ∀ (l : List (List UInt8)) (r : RtM) (i : Nat), Grew r (r.takes i l) l.length
 | [], r, _ => Grew.refl r
 | t :: l, r, i => by
   show Grew r ((take1 r i t).takes i l) (l.length + 1)
   have h2 := Grew.takes l (take1 r i t) i
   have h1 : Grew r (take1 r i t) 1 := by
    cases t with
    | nil => exact Grew.mono (Grew.refl r) (by omega)
    | cons c s => exact Grew.take r i c s
   exact Grew.mono (h1.trans h2) (by omega)
theorem Grew.recv (r : RtM) (i : Nat) (l : List UInt8) : Grew r (r.recv i l) l.length := by
 unfold RtM.recv
 simp only
 have h := (Grew.setP r i { r.P i with rd := (allR (r.P i).rd l).2.2 }).trans (Grew.takes (allR (r.P i).rd l).1 _ i)
 refine h.mono ?_
 have := allR_le (r.P i).rd l
 omega
theorem Grew.plug (r : RtM) (i : Nat) (up : Bool) : Grew r (r.plug i up).1 0 := by
 unfold RtM.plug
 simp only
 split
 · exact Grew.refl r
 · exact ((Grew.setP r i _).trans (Grew.meet _ _ _)).mono (by omega)
theorem Grew.tickP (r : RtM) (i : Nat) : Grew r (r.tickP i) 0 := by
 rw [tickP_eq]
 have h1 : Grew r (tickR r i) 0 := Grew.setP _ _ _
 split
 · exact h1.trans (Grew.meet _ _ _)
 · exact (h1.trans (Grew.meet _ i _)).trans (Grew.setP _ _ _)
theorem Grew.ticks (r : RtM) : ∀ q, Grew r (r.ticks q) 0
 | 0 => Grew.refl r
 | q + 1 => (Grew.ticks r q).trans (Grew.tickP _ _)
theorem Grew.sendTo (r : RtM) (t : Int) (tx : List UInt8) : Grew r (sendTo r t tx).1 1 := by
 unfold Rt.sendTo
 split
 · exact Grew.mono (k := 0) (Grew.refl r) (by omega)
 · show Grew r (r.send (t, 8, tx)) 1
   exact Grew.send r (t, 8, tx)
theorem recvWith_all {r : RtM} {k m : Nat} (h : ROk r) (hf : Fit r k) (i : Nat) (A : List (List UInt8)) (rd : RState) (hA : A.length ≤ m) : ROk ((r.setP i { r.P i with rd := rd }).takes i A) ∧ Fit ((r.setP i { r.P i with rd := rd }).takes i A) (k + 2 * m) := by
 have h1 : ROk (r.setP i { r.P i with rd := rd }) := h.setP i _ rfl (fun hi => h.pe i hi)
 have f1 : Fit (r.setP i { r.P i with rd := rd }) k := hf.setP i _ (fun hi => hf.out i hi)
 have h2 := takes_all A h1 f1 i
 exact ⟨h2.2.1, h2.2.2.mono (by omega)⟩
theorem recv_all {r : RtM} {k : Nat} (h : ROk r) (hf : Fit r k) (i : Nat) (l : List UInt8) : ROk (r.recv i l) ∧ Fit (r.recv i l) (k + 2 * l.length) :=
 recvWith_all h hf i (allR (r.P i).rd l).1 (allR (r.P i).rd l).2.2 (Nat.le_trans (Nat.le_add_right _ _) (allR_le (r.P i).rd l))
set_option maxRecDepth 100000 in
theorem plug_all {r : RtM} {k : Nat} (h : ROk r) (hf : Fit r k) (i : Nat) (up : Bool) : ROk (r.plug i up).1 ∧ Fit (r.plug i up).1 (k + 1) := by
 have hp := (plugPt_all (r.P i) up).1
 have hl : ((r.P i).plug up).1.out.length ≤ (r.P i).out.length + 6000 := by
  unfold PtM.plug
  have h3 := doP_len (r.P i).L (if up = true then 0 else 1)
  generalize doP (r.P i).L (if up = true then 0 else 1) = e at h3 ⊢
  simp only
  by_cases h0 : e.2.2 = 0
  · rw [if_neg (by simp [h0])]
    have h2 := say_len e.2.1 { r.P i with L := e.1, rd := ([], false, false) }
    have h4 : ({ r.P i with L := e.1, rd := ([], false, false) } : PtM).out.length = (r.P i).out.length := rfl
    show (({ r.P i with L := e.1, rd := ([], false, false) } : PtM).say e.2.1).out.length ≤ _
    omega
  · rw [if_pos h0]
    show (r.P i).out.length ≤ _
    omega
 unfold RtM.plug
 generalize (r.P i).plug up = e at hp hl ⊢
 simp only
 split
 · exact ⟨h, hf.mono (Nat.le_succ k)⟩
 · exact ⟨(h.setP i _ hp.1 (fun hi => by rw [hp.2]; exact h.pe i hi)).meet i (PeOk.nobody h.id.1), (hf.grow i _ hl).meet i _⟩
set_option maxRecDepth 100000 in
theorem sendTo_all {r : RtM} {k : Nat} (h : ROk r) (hf : Fit r k) (t : Int) (tx : List UInt8) : ROk (sendTo r t tx).1 ∧ Fit (sendTo r t tx).1 (k + 1) := by
 unfold Rt.sendTo
 split
 · exact ⟨h, hf.mono (Nat.le_succ k)⟩
 · exact ⟨h.send _, hf.send _⟩
end Rt
end Go.Proofs.YtieklnlbljejdaaGreatDoor
